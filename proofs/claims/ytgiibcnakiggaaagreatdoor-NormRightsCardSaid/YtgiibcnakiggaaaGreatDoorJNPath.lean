/-
  Joined texts: NormPath, NormParse, NormSame, NormWakes.
-/
import Derived.Test.YtgiibcnakiggaaaGreatDoorNormBring
import Derived.Test.YtgiibcnakiggaaaGreatDoorPathPrint
import Derived.Test.YtgiibcnakiggaaaGreatDoorJNorm
import Derived.Test.YtgiibcnakiggaaaGreatDoorJScan
namespace Go.Proofs.YtgiibcnakiggaaaGreatDoor
open Go.RowKit Go.Shelf

theorem args_in {c : Nat} : ∀ (l : List Int) (k : Nat), ArgsOk c k l → ∀ v ∈ l, In32 v := by
  intro l
  induction l with
  | nil => intro k _ v hv; cases hv
  | cons a t ih =>
    intro k h v hv
    have h' : ArgOk c k a ∧ ArgsOk c (k + 1) t := h
    rcases List.mem_cons.1 hv with rfl | hv
    · exact ⟨h'.1.1, h'.1.2.1⟩
    · exact ih _ h'.2 v hv
theorem CmdOk.w {x : Cmd} (h : CmdOk x) : CmdW x := ⟨h.1, h.2.1, args_in _ _ h.2.2⟩
theorem ansF_in (s a b : List UInt8) (x : Expo) (h : (ansF s a b x).2 = 0) : In32 (ansF s a b x).1 := by
  unfold ansF ansV at *
  split at h
  · rename_i k; rw [if_pos k]; exact k
  · exact absurd h (by show ¬ (2 : Int) = 0; decide)
theorem numT_in (s : ByteArray) (k : Nat) (sg : Bool) (hs : s.size ≤ 100000) (hk : k ≤ s.size) (h : (numT s k sg).2.1 = 0) : In32 (numT s k sg).1 := by
  have A := ansT_spec (s.extract k (nmE s k sg)) (ext_size s k sg hk hs)
  unfold numT numX at *
  by_cases hW : nmW s k sg = true
  · rw [if_pos hW] at h ⊢
    obtain ⟨sg', a, pt, b, x, hn⟩ := acc1 _ (nmW_acc s k sg hW)
    have e := A.2.2.1 _ _ _ _ _ hn
    rw [e] at h ⊢
    exact ansF_in _ _ _ _ h
  · rw [if_neg hW] at h
    exact absurd h (by show ¬ (3 : Int) = 0; decide)
theorem one_in6 (s : ByteArray) (hs : s.size ≤ 100000) (c k i : Nat) (hi : i ≤ s.size) (h : (one (txOf s) c k i).2.1 = 0) : In32 (one (txOf s) c k i).1 := by
  obtain ⟨j, hj, _, hc⟩ := one_cases (txOf s) c k i
  have hg := (txOf_ok s hs).gap i hi
  have hjl : j ≤ s.size := by rcases hj with rfl | rfl; exact hi; exact hg.2
  rcases hc with ⟨e, _⟩ | ⟨e, _⟩ | ⟨sg, e, _⟩
  · rw [e] at h; exact absurd h (by show ¬ (3 : Int) = 0; decide)
  · rw [e] at h ⊢
    unfold flagA at *
    split at h
    · rename_i hb
      rw [if_pos hb]
      rcases hb.2 with hb | hb
      · show In32 (((txOf s).byte j : Int) - 48); rw [hb]; decide
      · show In32 (((txOf s).byte j : Int) - 48); rw [hb]; decide
    · exact absurd h (by show ¬ (3 : Int) = 0; decide)
  · rw [e] at h ⊢
    exact numT_in s j sg hs hjl h
theorem args_in6 (s : ByteArray) (hs : s.size ≤ 100000) (c : Nat) : ∀ (n k i : Nat) (acc : List Int) xs j, i ≤ s.size → (∀ v ∈ acc, In32 v) → argsL (txOf s) c n k i acc = .inl (xs, j) → (∀ v ∈ xs, In32 v) ∧ j ≤ s.size := by
  intro n
  induction n with
  | zero =>
    intro k i acc xs j hi ha h
    obtain ⟨rfl, rfl⟩ : acc = xs ∧ i = j := by simpa [argsL] using h
    exact ⟨ha, hi⟩
  | succ n ih =>
    intro k i acc xs j hi ha h
    rw [args_step] at h
    split at h
    · rename_i h0
      have hb := one_in6 s hs c k i hi h0
      refine ih _ _ _ _ _ ?_ ?_ h
      · exact (one_ok (txOf_ok s hs) c k i hi).hi
      · intro v hv
        rcases List.mem_append.1 hv with hv | hv
        · exact ha v hv
        · simp at hv; subst hv; exact hb
    · cases h
def HeadM (l : List Cmd) : Prop := ∀ x r, l = x :: r → capL x.letter = 77
theorem headM_snoc {out : List Cmd} {y : Cmd} (h : HeadM out) (hy : out = [] → capL y.letter = 77) : HeadM (out ++ [y]) := by
  intro x r e
  cases out with
  | nil => simp at e; rw [← e.1]; exact hy rfl
  | cons z t => simp at e; exact h x t (by rw [e.1])
theorem path_may (s : ByteArray) (hs : s.size ≤ 100000) : ∀ (f : Nat) (st : Option Nat) (i : Nat) (out : List Cmd), i ≤ s.size → (∀ x ∈ out, CmdW x) → HeadM out → (∀ c, st = some c → cntL c ≠ 99 ∧ (out = [] → capL c = 77)) → (∀ x ∈ (pathL (txOf s) f st i out).1, CmdW x) ∧ HeadM (pathL (txOf s) f st i out).1 := by
  have OKX := txOf_ok s hs
  have hln : (txOf s).len = s.size := rfl
  intro f
  induction f with
  | zero => intro st i out _ h1 h2 _; cases st <;> exact ⟨h1, h2⟩
  | succ f ih =>
    intro st i out hi h1 h2 h3
    cases st with
    | none =>
      unfold pathL
      split
      · rename_i hlt
        split
        · exact ⟨h1, h2⟩
        · rename_i hno
          have hc : cntL ((txOf s).byte i) ≠ 99 := fun e => hno (Or.inl e)
          have hm : out = [] → capL ((txOf s).byte i) = 77 := fun e => by
            have : (txOf s).byte i = 77 ∨ (txOf s).byte i = 109 := Classical.byContradiction fun k => hno (Or.inr ⟨e, fun x => k (Or.inl x), fun x => k (Or.inr x)⟩)
            rcases this with h | h <;> rw [h] <;> rfl
          have hb := OKX.blk (i + 1) (by rw [hln] at *; omega)
          split
          · rename_i hz
            refine ih _ _ _ hb.2 ?_ (headM_snoc h2 hm) (fun c e => by cases e)
            intro x hx
            rcases List.mem_append.1 hx with hx | hx
            · exact h1 x hx
            · simp at hx; subst hx; exact ⟨hz, hc, fun v hv => by cases hv⟩
          · exact ih _ _ _ hb.2 h1 h2 (fun c e => by cases e; exact ⟨hc, hm⟩)
      · exact ⟨h1, h2⟩
    | some c =>
      obtain ⟨hc, hm⟩ := h3 c rfl
      unfold pathL
      split
      · exact ⟨h1, h2⟩
      · rename_i xs j he
        have hlx := args_len (txOf s) c _ _ _ _ _ _ he
        obtain ⟨hin, hj⟩ := args_in6 s hs c _ _ _ _ _ _ hi (fun v hv => by cases hv) he
        have hw : CmdW ⟨c, xs⟩ := ⟨by simp at hlx; exact hlx.symm, hc, hin⟩
        have h1' : ∀ x ∈ out ++ [⟨c, xs⟩], CmdW x := by
          intro x hx
          rcases List.mem_append.1 hx with hx | hx
          · exact h1 x hx
          · simp at hx; subst hx; exact hw
        have h2' := headM_snoc (y := ⟨c, xs⟩) h2 hm
        have hb := OKX.blk j hj
        have hg := OKX.gap _ hb.2
        have hnx : ∀ c', some (nextL c) = some c' → cntL c' ≠ 99 ∧ (out ++ [⟨c, xs⟩] = [] → capL c' = 77) := fun c' e => by
          cases e
          refine ⟨?_, fun e => by simp at e⟩
          unfold nextL
          split
          · decide
          · split
            · decide
            · exact hc
        split
        · exact ih _ _ _ hg.2 h1' h2' hnx
        · split
          · exact ih _ _ _ hb.2 h1' h2' hnx
          · exact ih _ _ _ hb.2 h1' h2' (fun c e => by cases e)
theorem all_may (s : ByteArray) (hs : s.size ≤ 100000) : (∀ x ∈ (pathAll (txOf s)).1, CmdW x) ∧ HeadM (pathAll (txOf s)).1 :=
  path_may s hs _ _ _ _ ((txOf_ok s hs).blk 0 (Nat.zero_le _)).2 (fun x h => by cases h) (fun x r h => by cases h) (fun c h => by cases h)
end Go.Proofs.YtgiibcnakiggaaaGreatDoor
namespace Go.Proofs.YtgiibcnakiggaaaGreatDoor
open Go.RowKit Go.Shelf

theorem Cmds.room {R : Nat} {a : Option Addr} {n cap : Nat} {l : List Cmd} {W : World} (h : Cmds R (.slice a n cap) l W) : CapC a l W := by
  obtain ⟨avs, h1, h2, h3⟩ := h
  rintro b off rfl i hi aa m ac hc
  have hx := at_some l hi
  have ha : avs[i]? = some avs[i] := List.getElem?_eq_getElem (by omega)
  obtain ⟨_, e1⟩ := flatC_at l avs h1 i _ _ hx ha
  obtain ⟨o, _⟩ := h3 i _ _ hx ha
  have hcell := own_cell h2 e1
  rw [← Nat.add_assoc] at hcell
  rw [hcell] at hc
  obtain hc := Option.some.inj hc
  rw [hc] at o
  rcases o.2 with ⟨h0, hk⟩ | ⟨g, cap', cur, hv, _, _, h5, _⟩
  · cases h0; exact Nat.zero_le _
  · cases hv; exact h5
/-- What norm's Parse answers: by the commands, their place and their error. -/
noncomputable def parseS (s : ByteArray) : List Seg × Int × Int :=
  if 0 ≤ (bringL NS.zero (pathAll (txOf s)).1 0).2 then ((bringL NS.zero (pathAll (txOf s)).1 0).1, (bringL NS.zero (pathAll (txOf s)).1 0).2, 2) else ((bringL NS.zero (pathAll (txOf s)).1 0).1, (pathAll (txOf s)).2.1, (pathAll (txOf s)).2.2)
def SegPost (X : List Seg × Int × Int) (w : World) (e : Ending) (W' : World) : Prop :=
  ∃ a cap, e = .returned (.tuple #[.slice a X.1.length cap, .int .i64 X.2.1, .int .i64 X.2.2]) ∧ RdS a X.1 W' ∧ X.1.length ≤ cap ∧ Below w.heap.size w W'
set_option maxRecDepth 100000 in
theorem NParse_any (s : ByteArray) (w : World) (hs : s.size ≤ 900) (hn : (pathAll (txOf s)).1.length ≤ 1000) (T : PTabs w) : Calls Tryz.prog 6 #[.string s] w (SegPost (parseS s) w) := by
  have P := Lib.hid (fun w T => PParse_any s w (by omega) T)
  unfold PParsePost at P
  have HL := Lib.hid (all_len (txOf s))
  have HM := Lib.hid (all_may s (by omega))
  have HN := Lib.hid hn
  have HT := Lib.hid T
  unfold parseS
  clear T hn
  generalize pathAll (txOf s) = RES at *
  obtain ⟨l, z, er⟩ := RES
  obtain ⟨BR, hBR⟩ : ∃ B, bringL NS.zero l 0 = B := ⟨_, rfl⟩
  simp only [hBR]
  have HBR := Lib.hid hBR
  clear hBR
  obtain ⟨g, far⟩ := BR
  by_cases hf : 0 ≤ far
  · rw [if_pos hf]
    go_enter Tryz.func6, Tryz.ntmps6
    go_wp2_with fail
    refine (P.out _ HT.out).mono ?_
    rintro e w1 ⟨v, rfl, hc, b1⟩
    obtain ⟨a, cap, rfl, hr⟩ := hc.reads HL.out
    have BG := Lib.hid (bring_any a l cap w1 HN.out hr hc.room HM.out.1 HM.out.2)
    rw [HBR.out] at BG
    have B1 := Lib.hid b1
    clear hc hr b1 P HT HM HN HL
    go_wp2_with fail
    refine BG.out.mono ?_
    rintro e w2 ⟨a2, cap2, rfl, hrd, hcap, b2⟩
    have R2 := Lib.hid hrd
    have C2 := Lib.hid hcap
    have B2 := Lib.hid (B1.out.trans (b2.mono B1.out.size))
    clear hrd hcap b2 BG B1
    go_wp2_with fail
    go_ret3
    exact ⟨a2, cap2, rfl, R2.out, C2.out, B2.out⟩
  · rw [if_neg hf]
    go_enter Tryz.func6, Tryz.ntmps6
    go_wp2_with fail
    refine (P.out _ HT.out).mono ?_
    rintro e w1 ⟨v, rfl, hc, b1⟩
    obtain ⟨a, cap, rfl, hr⟩ := hc.reads HL.out
    have BG := Lib.hid (bring_any a l cap w1 HN.out hr hc.room HM.out.1 HM.out.2)
    rw [HBR.out] at BG
    have B1 := Lib.hid b1
    clear hc hr b1 P HT HM HN HL
    go_wp2_with fail
    refine BG.out.mono ?_
    rintro e w2 ⟨a2, cap2, rfl, hrd, hcap, b2⟩
    have R2 := Lib.hid hrd
    have C2 := Lib.hid hcap
    have B2 := Lib.hid (B1.out.trans (b2.mono B1.out.size))
    clear hrd hcap b2 BG B1
    go_wp2_with fail
    go_ret3
    exact ⟨a2, cap2, rfl, R2.out, C2.out, B2.out⟩
end Go.Proofs.YtgiibcnakiggaaaGreatDoor
namespace Go.Proofs.YtgiibcnakiggaaaGreatDoor
open Go.RowKit Go.Shelf

set_option maxRecDepth 100000 in
set_option maxHeartbeats 8000000 in
theorem same7_any (a b : Option Addr) (l : List Seg) (ca cb : Nat) (w : World) (hl : l.length ≤ 1000000000) (hA : RdS a l w) (hB : RdS b l w) :
    Calls Tryz.prog 8 #[.slice a l.length ca, .slice b l.length cb] w fun e w' => e = .returned (.bool true) ∧ Below w.heap.size w w' := by
  have HA := Lib.hid hA
  have HB := Lib.hid hB
  clear hA hB
  have hll : ((l.length : Int) != (l.length : Int)) = false := by simp
  go_enter Tryz.func8, Tryz.ntmps8
  go_wp2_with fail
  go_loopw [5] (fun u5 wr => ∃ i : Nat, u5 = .int .i64 (i : Int) ∧ i ≤ l.length ∧ Below w.heap.size w wr) (fun u5 _ => l.length - (intOf u5).toNat)
  case atStart => exact ⟨0, rfl, Nat.zero_le _, Below.refl _ _⟩
  case round =>
    obtain ⟨i, rfl, hi, hbel⟩ := hrel
    by_cases hlt : i < l.length
    · obtain ⟨b1, o1, rfl, hb1, hc1⟩ := (HA.out.next hbel).pos (by omega)
      obtain ⟨b2, o2, rfl, hb2, hc2⟩ := (HB.out.next hbel).pos (by omega)
      obtain ⟨x0, x1, x2, x3, x4, x5, x6, x7, x8, x9, x10, x11⟩ := hc1 i hlt
      obtain ⟨y0, y1, y2, y3, y4, y5, y6, y7, y8, y9, y10, y11⟩ := hc2 i hlt
      have hltI : (i : Int) < (l.length : Int) := by omega
      have e1 : IntKind.i64.wrap ((i : Int) + 1) = ((i + 1 : Nat) : Int) := by rw [IntWalk.i64_in _ (by omega)]; omega
      have BL := Lib.hid hbel
      generalize l.getD i zeroS = g at *
      clear hc1 hc2 hbel
      go_wp2_with fail
      go_quiet (fail)
      have d := drewq wr nq
      have BL' := Lib.hid (BL.out.trans (d.mono (by have := BL.out.size; omega)))
      generalize wr.drewN nq = w1 at *
      go_wp2_with fail
      go_roundw
      case rel => exact ⟨i + 1, by go_num, by omega, BL'.out⟩
      case measure => simp [intOf]; omega
    · have hnl : ¬ (i : Int) < (l.length : Int) := by omega
      go_wp2_with fail
      go_ret
      exact ⟨rfl, hbel⟩
end Go.Proofs.YtgiibcnakiggaaaGreatDoor
namespace Go.Proofs.YtgiibcnakiggaaaGreatDoor
open Go.RowKit Go.Shelf

/-- A number of one digit. -/
theorem num_digit7 (s : ByteArray) (k : Nat) (d : UInt8) (z : Int) (hs : s.size ≤ 100) (hk : k ≤ s.size) (he : nmE s k true = k + 1) (hw : nmW s k true = true) (hx : s.extract k (k + 1) = ⟨#[d]⟩) (hn : IsNum [d] [] [d] false [] none) (ha : ansF [] [d] [] none = (z, 0)) : numT s k true = (z, 0, k + 1) := by
  have A := ansT_spec (s.extract k (nmE s k true)) (ext_size s k true hk (Nat.le_trans hs (by decide)))
  rw [he, hx] at A
  have := A.2.2.1 _ _ _ _ _ hn
  rw [ha] at this
  unfold numT numX
  rw [if_pos hw, he, hx, this]; rfl
def exN : ByteArray := ⟨#[77, 32, 49, 32, 49, 32, 104, 32, 50, 32, 122, 32, 108, 32, 49, 32, 48]⟩
noncomputable def numN (i : Nat) (sg : Bool) : Int × Int × Nat :=
  if sg = true ∧ i = 2 then (65536, 0, 3) else if sg = true ∧ i = 4 then (65536, 0, 5) else if sg = true ∧ i = 8 then (131072, 0, 9) else if sg = true ∧ i = 14 then (65536, 0, 15) else if sg = true ∧ i = 16 then (0, 0, 17) else numT exN i sg
theorem numN_eq : numT exN = numN := by
  funext i sg
  unfold numN
  split
  · rename_i h; obtain ⟨rfl, rfl⟩ := h
    exact num_digit7 exN 2 49 65536 (by decide) (by decide) (by decide +kernel) (by decide +kernel) (by decide +kernel) ⟨Or.inl rfl, by unfold AllDig; decide, by unfold AllDig; decide, (fun _ => rfl), by decide, trivial, rfl⟩ (by decide +kernel)
  split
  · rename_i h; obtain ⟨rfl, rfl⟩ := h
    exact num_digit7 exN 4 49 65536 (by decide) (by decide) (by decide +kernel) (by decide +kernel) (by decide +kernel) ⟨Or.inl rfl, by unfold AllDig; decide, by unfold AllDig; decide, (fun _ => rfl), by decide, trivial, rfl⟩ (by decide +kernel)
  split
  · rename_i h; obtain ⟨rfl, rfl⟩ := h
    exact num_digit7 exN 8 50 131072 (by decide) (by decide) (by decide +kernel) (by decide +kernel) (by decide +kernel) ⟨Or.inl rfl, by unfold AllDig; decide, by unfold AllDig; decide, (fun _ => rfl), by decide, trivial, rfl⟩ (by decide +kernel)
  split
  · rename_i h; obtain ⟨rfl, rfl⟩ := h
    exact num_digit7 exN 14 49 65536 (by decide) (by decide) (by decide +kernel) (by decide +kernel) (by decide +kernel) ⟨Or.inl rfl, by unfold AllDig; decide, by unfold AllDig; decide, (fun _ => rfl), by decide, trivial, rfl⟩ (by decide +kernel)
  split
  · rename_i h; obtain ⟨rfl, rfl⟩ := h
    exact num_digit7 exN 16 48 0 (by decide) (by decide) (by decide +kernel) (by decide +kernel) (by decide +kernel) ⟨Or.inl rfl, by unfold AllDig; decide, by unfold AllDig; decide, (fun _ => rfl), by decide, trivial, rfl⟩ (by decide +kernel)
  rfl
theorem exN_all : pathAll (txOf exN) = ([⟨77, [65536, 65536]⟩, ⟨104, [131072]⟩, ⟨122, []⟩, ⟨108, [65536, 0]⟩], -1, 0) := by
  unfold txOf
  rw [numN_eq]
  kernel_rfl
def wantN : List Seg := [segS 1 65536 65536 0 0 0 0, segS 2 196608 65536 0 0 0 0, segS 6 65536 65536 0 0 0 0, segS 1 65536 65536 0 0 0 0, segS 2 131072 65536 0 0 0 0]
theorem exN_bring : bringL NS.zero [⟨77, [65536, 65536]⟩, ⟨104, [131072]⟩, ⟨122, []⟩, ⟨108, [65536, 0]⟩] 0 = (wantN, -1) := by kernel_rfl
theorem exN_parse : parseS exN = (wantN, -1, 0) := by
  unfold parseS
  rw [exN_all]
  show (if 0 ≤ (bringL NS.zero [⟨77, [65536, 65536]⟩, ⟨104, [131072]⟩, ⟨122, []⟩, ⟨108, [65536, 0]⟩] 0).2 then _ else ((bringL NS.zero [⟨77, [65536, 65536]⟩, ⟨104, [131072]⟩, ⟨122, []⟩, ⟨108, [65536, 0]⟩] 0).1, (-1 : Int), (0 : Int))) = _
  rw [exN_bring]
  rfl
theorem RdS.of_block {n : Nat} {l : List Seg} {W : World} (h : W.heap[n]? = some (.cells (flatS l).toArray 42)) : RdS (some ⟨n, 0, none⟩) l W := by
  refine .inr ⟨n, 0, rfl, (Array.getElem?_eq_some_iff.1 h).1, fun i hi => ?_⟩
  have hx : l[i]? = some (l.getD i zeroS) := by simp [List.getD, List.getElem?_eq_getElem hi]
  have C : ∀ j (hj : j < 12) u (hu : (l.getD i zeroS).cells[j]? = some u), W.cell? ⟨n, 0 + i * 12 + j, none⟩ = some u := fun j hj u hu => by
    have := (flatS_at l i _ hx j hj).trans hu
    rw [Nat.zero_add]
    unfold World.cell?
    rw [h]
    show (flatS l).toArray[i * 12 + j]? = some u
    rw [List.getElem?_toArray]; exact this
  exact ⟨C 0 (by decide) _ rfl, C 1 (by decide) _ rfl, C 2 (by decide) _ rfl, C 3 (by decide) _ rfl, C 4 (by decide) _ rfl, C 5 (by decide) _ rfl, C 6 (by decide) _ rfl, C 7 (by decide) _ rfl, C 8 (by decide) _ rfl, C 9 (by decide) _ rfl, C 10 (by decide) _ rfl, C 11 (by decide) _ rfl⟩
theorem point_any (x y x' y' : Int) (w : World) (hx : IntKind.i64.wrap (x * 65536) = x') (hy : IntKind.i64.wrap (y * 65536) = y') : Calls Tryz.prog 13 #[.int .i64 x, .int .i64 y] w fun e w' => e = .returned (.agg #[.int .i64 x', .int .i64 y']) ∧ Below w.heap.size w w' := by
  have P := PtAt.new w x' y'
  have b0 := (Below.refl w.heap.size w).alloc (Nat.le_refl _) (.cells #[.int .i64 x', .int .i64 y'] 39)
  have HP := Lib.hid P
  have HB := Lib.hid b0
  clear P b0
  go_enter Tryz.func13, Tryz.ntmps13
  go_wp2_with fail
  exact pt_close Tryz.results13 HP.out HB.out rfl
set_option maxRecDepth 100000 in
set_option maxHeartbeats 4000000 in
theorem wakes7 (w : World) (T : PTabs w) : Calls Tryz.prog 5 #[] w fun e w' => e = .returned (.bool true) ∧ Below w.heap.size w w' := by
  have A := Lib.hid (NParse_any exN w (by decide) (by rw [exN_all]; decide) T)
  rw [exN_parse] at A
  have P1 := Lib.hid (fun w => point_any 1 1 65536 65536 w (by decide) (by decide))
  have P2 := Lib.hid (fun w => point_any 3 1 196608 65536 w (by decide) (by decide))
  have P3 := Lib.hid (fun w => point_any 2 1 131072 65536 w (by decide) (by decide))
  have ea : (⟨#[77, 32, 49, 32, 49, 32, 104, 32, 50, 32, 122, 32, 108, 32, 49, 32, 48]⟩ : ByteArray) = exN := rfl
  clear T
  go_enter Tryz.func5, Tryz.ntmps5
  go_wp2_with fail
  refine A.out.mono ?_
  rintro e w1 ⟨a, cap, rfl, hrd, _, b1⟩
  have R1 := Lib.hid hrd
  have B1 := Lib.hid b1
  clear hrd b1 A
  go_wp2_with fail
  refine (P1.out _).mono ?_
  rintro e w2 ⟨rfl, b2⟩
  have B2 := Lib.hid b2
  clear b2
  go_wp2_with fail
  refine (P2.out _).mono ?_
  rintro e w3 ⟨rfl, b3⟩
  have B3 := Lib.hid (B2.out.trans (b3.mono B2.out.size))
  clear b3
  go_wp2_with fail
  refine (P1.out _).mono ?_
  rintro e w4 ⟨rfl, b4⟩
  have B4 := Lib.hid (B3.out.trans (b4.mono B3.out.size))
  clear b4
  go_wp2_with fail
  refine (P1.out _).mono ?_
  rintro e w5 ⟨rfl, b5⟩
  have B5 := Lib.hid (B4.out.trans (b5.mono B4.out.size))
  clear b5
  go_wp2_with fail
  refine (P3.out _).mono ?_
  rintro e w6 ⟨rfl, b6⟩
  have B6 := Lib.hid (B5.out.trans (b6.mono B5.out.size))
  clear b6 B2 B3 B4 B5 P1 P2 P3
  go_wp2_with fail
  have hn := World.alloc_heap_new w6 (.cells (flatS wantN).toArray 42)
  have ba := (Below.refl w6.heap.size w6).alloc (Nat.le_refl _) (.cells (flatS wantN).toArray 42)
  have SM := Lib.hid (same7_any a (some ⟨w6.heap.size, 0, none⟩) wantN cap 5 _ (by decide) ((R1.out.next B6.out).next ba) (RdS.of_block hn))
  have BF := Lib.hid (B1.out.trans ((B6.out.trans (ba.mono B6.out.size)).mono B1.out.size))
  clear hn ba R1 B1 B6
  refine SM.out.mono ?_
  rintro e w7 ⟨rfl, b7⟩
  have B7 := Lib.hid (BF.out.trans (b7.mono BF.out.size))
  clear b7 SM BF
  go_wp2_with fail
  go_ret
  exact ⟨rfl, B7.out⟩
end Go.Proofs.YtgiibcnakiggaaaGreatDoor
