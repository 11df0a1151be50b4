/-
  PROVED: the statement of PathCuts, for every input: of any text's beginning the groups are a beginning of the whole text's; where the whole text is wrong, the bytes up to there can go on: cut there they only lack something, or are whole. No conditions but what the card lists.
-/
import Derived.Test.YtchngbdkgfjpcaaDoorRef6Same
import Derived.Test.YtchngbdkgfjpcaaDoorPathCount
import Derived.Test.YtchngbdkgfjpcaaDoorPathTrod
import Derived.Test.YtchngbdkgfjpcaaDoorPathLaid
import Derived.Test.YtchngbdkgfjpcaaDoorPathWakes
namespace Go.Proofs.YtchngbdkgfjpcaaDoor.pathCuts
open Go.ChangeShapes Go.WideShapes Go.ChangeAt Go.RowKit Go.Shelf

theorem er_of (s : ByteArray) (hs : s.size ≤ 100000) : (pathAll (txOf s)).2.2 = 3 → ∃ m : Nat, m ≤ s.size ∧ (pathAll (txOf s)).2.1 = (m : Int) := by
  intro h
  have := path_mono (txOf_ok s hs) (s.size + 1) none _ [] ((txOf_ok s hs).blk 0 (Nat.zero_le _)).2 (pathAll (txOf s)).2.1 (by
    show (pathAll (txOf s)).2 = _
    rw [← h])
  have h2 : (pathAll (txOf s)).2.1 ≤ (s.size : Int) := this.2
  exact ⟨(pathAll (txOf s)).2.1.toNat, by omega, by omega⟩
theorem ext_eq (s : ByteArray) (k : Nat) : s.extract 0 k = s.extract 0 k := rfl
/-- Two answers for one text's beginning: what the law asks of them. -/
theorem front (s : ByteArray) (hs : s.size ≤ 100000) (k : Nat) (hk : k ≤ s.size) (G : List Cmd) (h : pathAll (txOf (s.extract 0 k)) = (G, -1, 0)) : G.dropLast = (pathAll (txOf s)).1.take G.dropLast.length ∧ G.dropLast.length ≤ (pathAll (txOf s)).1.length := by
  have hsz : (s.extract 0 k).size ≤ 100000 := by simp; omega
  have := all_front (txOf_ok s hs) (txOf_ok _ hsz) (txOf_cut s k hk) G h
  exact ⟨List.prefix_iff_eq_take.1 this, this.length_le⟩
theorem syntax2 (s : ByteArray) (hs : s.size ≤ 100000) (m : Nat) (hm : m ≤ s.size) (h : (pathAll (txOf s)).2 = ((m : Int), 3)) : (pathAll (txOf (s.extract 0 m))).2 = (-1, 0) ∨ (pathAll (txOf (s.extract 0 m))).2 = ((m : Int), 3) := by
  have hsz : (s.extract 0 m).size ≤ 100000 := by simp; omega
  exact all_syntax (txOf_ok s hs) (txOf_ok _ hsz) (txOf_cut s m hm) h
/-- What errors there are. -/
theorem er_cases (s : ByteArray) (hs : s.size ≤ 100000) : (pathAll (txOf s)).2.2 = 0 → (pathAll (txOf s)).2.1 = -1 := by
  have H : ∀ (f : Nat) (st : Option Nat) (i : Nat) (out : List Cmd), i ≤ s.size → (pathL (txOf s) f st i out).2.2 = 0 → (pathL (txOf s) f st i out).2.1 = -1 := by
    intro f
    induction f with
    | zero => intro st i out _ _; cases st <;> rfl
    | succ f ih =>
      intro st i out hi h
      have OK := txOf_ok s hs
      cases st with
      | none =>
        unfold pathL at h ⊢
        split at h
        · rename_i h1
          have hb := OK.blk (i + 1) h1
          rw [if_pos h1]
          split at h
          · cases h
          · rename_i h2
            rw [if_neg h2]
            split at h
            · rename_i h3; rw [if_pos h3]; exact ih _ _ _ hb.2 h
            · rename_i h3; rw [if_neg h3]; exact ih _ _ _ hb.2 h
        · rename_i h1; rw [if_neg h1]
      | some c =>
        have M := args_mono OK c (cntL c) 0 i [] hi
        unfold pathL at h ⊢
        cases he : argsL (txOf s) c (cntL c) 0 i [] with
        | inr y =>
          obtain ⟨a, e⟩ := y
          rw [he] at h
          have := (M.2 _ _ he).2.1
          simp only at h
          rcases this with h' | h' <;> rw [h'] at h <;> cases h
        | inl y =>
          obtain ⟨xs, j⟩ := y
          rw [he] at h
          have hj := (M.1 _ _ he).2.1
          have hb := OK.blk j hj
          have hg := OK.gap _ hb.2
          simp only at h ⊢
          split at h
          · rename_i h1; rw [if_pos h1]; exact ih _ _ _ hg.2 h
          · rename_i h1
            rw [if_neg h1]
            split at h
            · rename_i h2; rw [if_pos h2]; exact ih _ _ _ hb.2 h
            · rename_i h2; rw [if_neg h2]; exact ih _ _ _ hb.2 h
  exact H _ _ _ _ ((txOf_ok s hs).blk 0 (Nat.zero_le _)).2

theorem capL {R : Nat} {a : Option Addr} {n cap : Nat} {l : List Cmd} {W : World} (h : Cmds R (.slice a n cap) l W) : l.length ≤ cap := by
  obtain ⟨avs, _, h2, _⟩ := h
  rcases h2.2 with ⟨h3, h4⟩ | ⟨g, cap', cur, hv, _, _, h5, _⟩
  · omega
  · cases hv; exact h5
set_option maxHeartbeats 8000000 in
set_option maxRecDepth 100000 in
theorem walk (s : ByteArray) (hs : s.size ≤ maxLen) (a1 : Int) (w1 : (Lit.int .u8 a1).wf = true) (w : World) (T : PTabs w) :
    Calls Tryd.prog 7 #[.string s, .int .u8 a1] w fun e w' => e = .returned (.bool true) ∧ Below w.heap.size w w' := by
  obtain ⟨n, rfl, hn⟩ := u8_of_wf w1
  have K := Lib.hid (wakes6 w T)
  have HT := Lib.hid T
  have hs' : s.size ≤ 9223372036854775807 := hs
  clear T
  by_cases h100 : 100 < s.size
  · have hI : (100 : Int) < (s.size : Int) := by omega
    go_enter Tryd.func7, Tryd.ntmps7
    go_wp2_with fail
    refine K.out.mono ?_
    rintro e w1 ⟨rfl, b1⟩
    go_wp2_with fail
    go_ret
    exact ⟨rfl, b1⟩
  · have hI : ¬ (100 : Int) < (s.size : Int) := by omega
    have P := Lib.hid (fun s w hs T => PParse_any s w hs T)
    unfold PParsePost at P
    have hk : n % (s.size + 1) ≤ s.size := by
      have h : n % (s.size + 1) < s.size + 1 := Nat.mod_lt n (by omega)
      omega
    have hmod : ((n : Int)).tmod ((s.size : Int) + 1) = ((n % (s.size + 1) : Nat) : Int) := by
      rw [show ((s.size : Int) + 1) = ((s.size + 1 : Nat) : Int) from by omega]; rfl
    have w2 : IntKind.i64.wrap ((s.size : Int) + 1) = (s.size : Int) + 1 := IntWalk.i64_in _ (by omega)
    have m1 : IntKind.i64.wrap (n : Int) = (n : Int) := IntWalk.i64_in _ (by omega)
    generalize hkk : n % (s.size + 1) = k at *
    have HF := Lib.hid (show (pathAll (txOf (s.extract 0 k))).2.2 = 0 → (pathAll (txOf (s.extract 0 k))).1.dropLast = (pathAll (txOf s)).1.take (pathAll (txOf (s.extract 0 k))).1.dropLast.length ∧ (pathAll (txOf (s.extract 0 k))).1.dropLast.length ≤ (pathAll (txOf s)).1.length from fun h => by
      have h1 := er_cases (s.extract 0 k) (by simp; omega) h
      exact front s (by omega) k hk _ (Prod.ext rfl (Prod.ext h1 h)))
    have HE := Lib.hid (er_of s (by omega))
    have HS := Lib.hid (fun m hm h => syntax2 s (by omega) m hm h)
    have HL := Lib.hid (all_len (txOf s))
    have HN := Lib.hid (path_count s (by omega))
    have HL2 := Lib.hid (all_len (txOf (s.extract 0 k)))
    have HN2 := Lib.hid (path_count (s.extract 0 k) (by simp; omega))
    have hkI : (k : Int) ≤ (s.size : Int) := by omega
    have hex : (s.extract 0 k).size ≤ 65536 := by simp; omega
    have HX := Lib.hid hex
    go_enter Tryd.func7, Tryd.ntmps7
    go_wp2_with fail
    refine K.out.mono ?_
    rintro e w1 ⟨rfl, b1⟩
    have B1 := Lib.hid b1
    have T1 := Lib.hid (HT.out.next b1)
    clear b1
    go_wp2_with fail
    refine (P.out s _ (by omega) T1.out).mono ?_
    rintro e w2 ⟨v, rfl, hc, b2⟩
    have PK := Lib.hid (fun w T => P.out (s.extract 0 k) w HX.out T)
    have PM := Lib.hid (fun m w h T => P.out (s.extract 0 m) w h T)
    generalize pathAll (txOf s) = R1 at *
    obtain ⟨l, z, er⟩ := R1
    generalize pathAll (txOf (s.extract 0 k)) = R2 at *
    obtain ⟨l2, z2, er2⟩ := R2
    obtain ⟨a, cap, rfl, hr⟩ := hc.reads HL.out
    have HCAP := Lib.hid (capL hc)
    have HR := Lib.hid hr
    have B2 := Lib.hid (B1.out.trans (b2.mono B1.out.size))
    have T2 := Lib.hid (T1.out.next b2)
    clear hc hr b2 P
    go_wp2_with fail
    refine (PK.out _ T2.out).mono ?_
    rintro e w3 ⟨v, rfl, hc, b3⟩
    obtain ⟨a2, cap2, rfl, hr2⟩ := hc.reads HL2.out
    have HCAP2 := Lib.hid (capL hc)
    have HA := Lib.hid (HR.out.next b3)
    have HB := Lib.hid hr2
    have B3 := Lib.hid (B2.out.trans (b3.mono B2.out.size))
    have T3 := Lib.hid (T2.out.next b3)
    have hw3 : w.heap.size ≤ w3.heap.size := Nat.le_trans B2.out.size b3.size
    have hn1 : l.length ≤ 100 := by have h := HN.out; have h' : l.length ≤ s.size := h; omega
    have hn2 : l2.length ≤ 100 := by have h := HN2.out; have h' : l2.length ≤ (s.extract 0 k).size := h; simp at h'; omega
    clear hc hr2 b3 PK HR
    by_cases h3 : er = 3
    · subst h3
      obtain ⟨m, hm, hz⟩ := HE.out rfl
      have hz' : z = (m : Int) := hz
      subst hz'
      have HSm := HS.out m hm rfl
      have hmI : (m : Int) ≤ (s.size : Int) := by omega
      have hxm : (s.extract 0 m).size ≤ 65536 := by simp; omega
      clear HE HS hz
      by_cases h0 : er2 = 0
      · have hF : l2.dropLast = l.take l2.dropLast.length ∧ l2.dropLast.length ≤ l.length := HF.out h0
        have hld : l2.dropLast.length = l2.length - 1 := List.length_dropLast
        have e0 : (er2 == 0) = true := by rw [beq_iff_eq]; exact h0
        have HAt := HA.out.take l2.dropLast.length
        have HBt := HB.out.take (l2.length - 1)
        rw [← hF.1] at HAt
        rw [← List.dropLast_eq_take] at HBt
        have hcap := HCAP.out
        have hcap2 := HCAP2.out
        have SM := Lib.hid (same_any a2 a l2.dropLast cap2 cap w3 (by omega) HBt HAt)
        have hle := hF.2
        rw [hld] at SM hle
        subst h0
        clear hF HAt HBt hld HA HB e0
        by_cases hl0 : l2.length = 0
        · rw [hl0] at SM hle
          simp only [Nat.zero_sub] at SM
          rw [hl0]
          have hll : ¬ (l.length : Int) < 0 := by omega
          clear hl0
          go_wp2_with fail
          refine SM.out.mono ?_
          rintro e w4 ⟨rfl, b4⟩
          have B4 := Lib.hid (B3.out.trans (b4.mono hw3))
          have T4 := Lib.hid (T3.out.next b4)
          clear b4
          go_wp2_with fail
          refine (PM.out m _ hxm T4.out).mono ?_
          rintro e w5 ⟨v5, rfl, hc5, b5⟩
          obtain ⟨a5, cap5, rfl⟩ := hc5.shape
          have B5 := Lib.hid (B4.out.trans (b5.mono B4.out.size))
          have HS2 := Lib.hid HSm
          clear hc5 b5 HSm
          rcases HS2.out with h | h
          · have h1 : (pathAll (txOf (s.extract 0 m))).2.1 = -1 := by rw [h]
            have h2 : (pathAll (txOf (s.extract 0 m))).2.2 = 0 := by rw [h]
            rw [h1, h2]
            clear h h1 h2
            go_wp2_with fail
            go_ret
            exact ⟨rfl, B5.out⟩
          · have h1 : (pathAll (txOf (s.extract 0 m))).2.1 = (m : Int) := by rw [h]
            have h2 : (pathAll (txOf (s.extract 0 m))).2.2 = 3 := by rw [h]
            rw [h1, h2]
            clear h h1 h2
            go_wp2_with fail
            go_ret
            exact ⟨rfl, B5.out⟩
        · have hpos : (0 : Int) < (l2.length : Int) := by omega
          have s1 : IntKind.i64.wrap ((l2.length : Int) - 1) = ((l2.length - 1 : Nat) : Int) := by rw [IntWalk.i64_in _ (by omega)]; omega
          have hb1 : ((l2.length - 1 : Nat) : Int) ≤ (cap2 : Int) := by omega
          have hb2 : ((l2.length - 1 : Nat) : Int) ≤ (cap : Int) := by omega
          have hb3 : ¬ (l.length : Int) < ((l2.length - 1 : Nat) : Int) := by omega
          generalize hq : l2.length - 1 = q at *
          go_wp2_with fail
          refine SM.out.mono ?_
          rintro e w4 ⟨rfl, b4⟩
          have B4 := Lib.hid (B3.out.trans (b4.mono hw3))
          have T4 := Lib.hid (T3.out.next b4)
          clear b4
          go_wp2_with fail
          refine (PM.out m _ hxm T4.out).mono ?_
          rintro e w5 ⟨v5, rfl, hc5, b5⟩
          obtain ⟨a5, cap5, rfl⟩ := hc5.shape
          have B5 := Lib.hid (B4.out.trans (b5.mono B4.out.size))
          have HS2 := Lib.hid HSm
          clear hc5 b5 HSm
          rcases HS2.out with h | h
          · have h1 : (pathAll (txOf (s.extract 0 m))).2.1 = -1 := by rw [h]
            have h2 : (pathAll (txOf (s.extract 0 m))).2.2 = 0 := by rw [h]
            rw [h1, h2]
            clear h h1 h2
            go_wp2_with fail
            go_ret
            exact ⟨rfl, B5.out⟩
          · have h1 : (pathAll (txOf (s.extract 0 m))).2.1 = (m : Int) := by rw [h]
            have h2 : (pathAll (txOf (s.extract 0 m))).2.2 = 3 := by rw [h]
            rw [h1, h2]
            clear h h1 h2
            go_wp2_with fail
            go_ret
            exact ⟨rfl, B5.out⟩
      · have e0 : (er2 == 0) = false := by rw [beq_eq_false_iff_ne]; exact h0
        clear h0
        go_wp2_with fail
        all_goals
          refine (PM.out m _ hxm T3.out).mono ?_
          rintro e w5 ⟨v5, rfl, hc5, b5⟩
          obtain ⟨a5, cap5, rfl⟩ := hc5.shape
          have B5 := Lib.hid (B3.out.trans (b5.mono B3.out.size))
          have HS2 := Lib.hid HSm
          clear hc5 b5 HSm
          rcases HS2.out with h | h
          · have h1 : (pathAll (txOf (s.extract 0 m))).2.1 = -1 := by rw [h]
            have h2 : (pathAll (txOf (s.extract 0 m))).2.2 = 0 := by rw [h]
            rw [h1, h2]
            clear h h1 h2
            go_wp2_with fail
            go_ret
            exact ⟨rfl, B5.out⟩
          · have h1 : (pathAll (txOf (s.extract 0 m))).2.1 = (m : Int) := by rw [h]
            have h2 : (pathAll (txOf (s.extract 0 m))).2.2 = 3 := by rw [h]
            rw [h1, h2]
            clear h h1 h2
            go_wp2_with fail
            go_ret
            exact ⟨rfl, B5.out⟩
    · have e3 : (er == 3) = false := by rw [beq_eq_false_iff_ne]; exact h3
      have e3' : (er != 3) = true := by rw [bne, e3]; rfl
      clear h3 HE HS PM
      by_cases h0 : er2 = 0
      · have hF : l2.dropLast = l.take l2.dropLast.length ∧ l2.dropLast.length ≤ l.length := HF.out h0
        have hld : l2.dropLast.length = l2.length - 1 := List.length_dropLast
        have e0 : (er2 == 0) = true := by rw [beq_iff_eq]; exact h0
        have HAt := HA.out.take l2.dropLast.length
        have HBt := HB.out.take (l2.length - 1)
        rw [← hF.1] at HAt
        rw [← List.dropLast_eq_take] at HBt
        have hcap := HCAP.out
        have hcap2 := HCAP2.out
        have SM := Lib.hid (same_any a2 a l2.dropLast cap2 cap w3 (by omega) HBt HAt)
        have hle := hF.2
        rw [hld] at SM hle
        subst h0
        clear hF HAt HBt hld HA HB e0
        by_cases hl0 : l2.length = 0
        · rw [hl0] at SM hle
          simp only [Nat.zero_sub] at SM
          rw [hl0]
          have hll : ¬ (l.length : Int) < 0 := by omega
          clear hl0
          go_wp2_with fail
          refine SM.out.mono ?_
          rintro e w4 ⟨rfl, b4⟩
          have B4 := Lib.hid (B3.out.trans (b4.mono hw3))
          have T4 := Lib.hid (T3.out.next b4)
          clear b4
          go_wp2_with fail
          go_ret
          exact ⟨rfl, B4.out⟩
        · have hpos : (0 : Int) < (l2.length : Int) := by omega
          have s1 : IntKind.i64.wrap ((l2.length : Int) - 1) = ((l2.length - 1 : Nat) : Int) := by rw [IntWalk.i64_in _ (by omega)]; omega
          have hb1 : ((l2.length - 1 : Nat) : Int) ≤ (cap2 : Int) := by omega
          have hb2 : ((l2.length - 1 : Nat) : Int) ≤ (cap : Int) := by omega
          have hb3 : ¬ (l.length : Int) < ((l2.length - 1 : Nat) : Int) := by omega
          generalize hq : l2.length - 1 = q at *
          go_wp2_with fail
          refine SM.out.mono ?_
          rintro e w4 ⟨rfl, b4⟩
          have B4 := Lib.hid (B3.out.trans (b4.mono hw3))
          have T4 := Lib.hid (T3.out.next b4)
          clear b4
          go_wp2_with fail
          go_ret
          exact ⟨rfl, B4.out⟩
      · have e0 : (er2 == 0) = false := by rw [beq_eq_false_iff_ne]; exact h0
        clear h0
        go_wp2_with fail
        all_goals
          go_ret
          exact ⟨rfl, B3.out⟩
set_option maxRecDepth 100000 in
theorem lifted (os : Os) (started : os.Started) (H : Type) (enc : TypeId × Value → H) :
    ReturnsInHanded {} Tryd.checked os 7 .any (fun w args => (Rows.pathCutsSpec.pre enc Tryd.prog Tryd.f7 Rows.pathCutsRow.domain false w args ∧ laidMetH Tryd.prog laid5 w) ∧ sizedMet enc Tryd.prog Tryd.f7 (OpenSpec.ofChange Rows.pathCutsSpec) false w args)
      (Rows.pathCutsSpec.post enc Tryd.prog Tryd.f7 false true false false) := by
  refine wrap_laid (C := Tryd.checked) (X := fun w _ => laidMetH Tryd.prog laid5 w) (fun _ _ _ hh h => h.of_heap hh) own started (by kernel_rfl) Tryd.func7
    (ChangeSpec.witness_shaped (enc := enc) (C := Tryd.checked) (os := os) (X := fun w _ => laidMetH Tryd.prog laid5 w) false (World.laidAll Tryd.prog os laid5) #[.string ⟨#[]⟩, .int .u8 0] 8 (World.laidAll_os _ _ _)
      (World.shaped_of_ZipB (by kernel_rfl) (by kernel_rfl)) (by kernel_rfl) (by kernel_rfl) (by kernel_rfl)
      (by rw [MakeChecks.laidMetH_plain _ _ _ (by kernel_rfl)]; exact laidMet_laidAll _ (by kernel_rfl) (by kernel_rfl))) ?_
  intro W base args ds gs before hval0 hW hcnd _ hL hS _
  have hval : ∀ (j : Nat) t v, Tryd.f7.params[j]? = some t → args[j]? = some v → Value.okWide Tryd.prog W .any base t v := hval0
  have hW' := hW
  obtain ⟨p, q, hA0, hV, rfl, hfz, hnd⟩ := hW
  have hA : DataW.TrodAll enc Tryd.prog W 0 (fun _ => true) true Tryd.f7.params.toList args.toList ds p := hA0
  rw [Tryd.params7] at hA hval
  obtain ⟨v0, v1, d0, d1, p0, p1, rfl, rfl, rfl, h0, h1⟩ := trodAll_two hA
  obtain ⟨rfl, rfl⟩ := trodVars_none hV
  obtain ⟨a0, rfl, rfl, rfl, w0⟩ := Go.ChangeMaps.open_string Tryd.underlying9 (hval 0 9 v0 rfl rfl) h0
  obtain ⟨a1, rfl, rfl, rfl, w1⟩ := open_int Tryd.underlying5 (hval 1 5 v1 rfl rfl) h1
  clear hA0 hval0
  simp only [List.append_nil] at hW'
  refine (walk a0 w0 a1 w1 W (ptabs_of hL hS)).mono fun e W' ⟨he, hg⟩ => ?_
  subst he
  exact ⟨_, rfl, ⟨_, _, _, [], _, [], hW', trodAll_mk1 (shut_bool Tryd.underlying4 _), trodAll_mk2 (Go.ChangeMaps.shut_string Tryd.underlying9 w0) (shut_int Tryd.underlying5 w1), rfl, hg.frame _, fun h => by cases h⟩⟩

/-- The row's statement. -/
theorem row_holds : Rows.PathCutsSaid :=
  OpenClaim.holds_of_wide 7 Tryd.f7 rfl rfl rfl rfl rfl rfl rfl ⟨rfl, rfl, rfl, rfl, rfl⟩ rfl rfl rfl rfl rfl (by kernel_rfl) Tryd.func7 (by kernel_rfl)
    (of_decide_eq_true (by kernel_rfl)) (by unfold Func.isWrapper; first | (rw [if_pos (by decide +kernel)]; kernel_rfl) | (rw [if_neg (by decide +kernel)]; exact ⟨rfl, rfl⟩))
    (fun os started H enc _ => lifted os started H enc)
/-- The given statement: the card. -/
theorem proved : Rows.PathCutsCardSaid :=
  Claim7.holds_tied_plain_at .later [] [.data, .data, .data, .data, .pinned] true (true, "a2f9e4236b97a93f752a6656de1a2521f3938fee15b2255bd59542caf6cf3f5e") false row_holds (fun _ h => by cases h) (by kernel_rfl) (fun _ h => by cases h) pathCuts_row_tie rfl ⟨rfl, rfl⟩ (by kernel_rfl) rfl
    (fun f fn hf hfn => by
      obtain rfl : f = 7 := Option.some.inj ((show Tryd.prog.funcNamed "pointillist/pointillistlaw06.PathCuts" = some 7 by kernel_rfl).symm.trans hf) |>.symm
      obtain rfl : fn = Tryd.f7 := (Option.some.inj (Tryd.func7.symm.trans hfn)).symm
      exact ⟨by kernel_rfl, fun j t ht => by
        rw [Tryd.params7] at ht
        have hm : t ∈ [9, 5] := by simpa using Array.mem_of_getElem? ht
        have hall : ([9, 5].all fun u => !Tryd.prog.wantsStandIn u) = true := by kernel_rfl
        exact (show Tryd.prog.wantsStandIn t = false by simpa using List.all_eq_true.1 hall t hm)⟩)
    (by kernel_rfl)
end Go.Proofs.YtchngbdkgfjpcaaDoor.pathCuts
