/- Joined: NormBring, NormPath, NormParse, NormDig, OutEx, AffSame, OutWakes, OutBoxM, CrvTrod, EdgTrod, OutBoxW. -/
import Derived.Test.YtbjabclgekkpaaaGreatDoorQOB01
import Derived.Test.YtbjabclgekkpaaaGreatDoorQOB02
import Derived.Test.YtbjabclgekkpaaaGreatDoorQOB07
import Derived.Test.YtbjabclgekkpaaaGreatDoorQOB10
import Derived.Test.YtbjabclgekkpaaaGreatDoorQOB17
import Derived.Test.YtbjabclgekkpaaaGreatDoorQOB22
import Derived.Deep.DeepCutAuto
import Derived.Lib.ItoaNum
namespace Go.Proofs.YtbjabclgekkpaaaGreatDoor
open Go.RowKit Go.Shelf
/-- The slices of a command's numbers have as much room as they are long. -/
def CapC (a : Option Addr) (l : List Cmd) (w : World) : Prop :=
  ∀ b off, a = some ⟨b, off, none⟩ → ∀ i, i < l.length → ∀ aa n ac, w.cell? ⟨b, off + i * 2 + 1, none⟩ = some (.slice aa n ac) → n ≤ ac
def BringPost (RES : List Seg × Int) (w : World) (e : Ending) (W' : World) : Prop :=
  ∃ a cap, e = .returned (.tuple #[.slice a RES.1.length cap, .int .i64 RES.2]) ∧ RdS a RES.1 W' ∧ RES.1.length ≤ cap ∧ Below w.heap.size w W'
theorem ltr_def (l : List Cmd) (i : Nat) : (⟨ltr l i, ars l i⟩ : Cmd) = l.getD i ⟨0, []⟩ := rfl
theorem drop_cons7 {l : List Cmd} {i : Nat} (h : i < l.length) : l.drop i = ⟨ltr l i, ars l i⟩ :: l.drop (i + 1) := by
  rw [List.drop_eq_getElem_cons h, ltr_def]; simp [List.getD, List.getElem?_eq_getElem h]
def BInv (l : List Cmd) (RES : List Seg × Int) (w W0 : World) (T : Nat) (u6 u7 u13 : Value) (wr : World) : Prop :=
  ∃ (i : Nat) (v : Value) (s : NS), u6 = .int .i64 (s.out.length : Int) ∧ u7 = .int .i64 (-1) ∧ u13 = .int .i64 (i : Int) ∧ i ≤ l.length ∧ s.out.length ≤ 2 * i ∧ (i ≠ 0 → s.out ≠ []) ∧ StAt w.heap.size v s wr ∧ Segs (w.heap.size + 1) v s.out wr ∧ NOk s ∧ KepS w.heap.size W0 wr ∧ wr.heap[T]? = some (.cells tabV 109 (0, 0)) ∧ Hid (bringL s (l.drop i) i = RES)
set_option maxHeartbeats 8000000 in
set_option maxRecDepth 100000 in
theorem bring_any (a : Option Addr) (l : List Cmd) (cap : Nat) (w : World) (hl : l.length ≤ 1000) (hA : RdC a l w) (hC : CapC a l w) (hW : ∀ x ∈ l, CmdW x) (h0 : ∀ x r, l = x :: r → capL x.letter = 77) :
    Calls Tryz.prog 23 #[.slice a l.length cap] w (BringPost (bringL NS.zero l 0) w) := by
  have ST := Lib.hid (fun w => steps_any7 w)
  have HA := Lib.hid hA
  have HC := Lib.hid hC
  have HW := Lib.hid hW
  have H0 := Lib.hid h0
  obtain ⟨RES, hR⟩ : ∃ R, bringL NS.zero l 0 = R := ⟨_, rfl⟩
  rw [hR]
  have HR0 := Lib.hid (show bringL NS.zero (l.drop 0) 0 = RES from hR)
  have b1 := (Below.refl w.heap.size w).alloc (Nat.le_refl _) (.cells #[.slice none 0 0, .int .i64 0, .int .i64 0, .int .i64 0, .int .i64 0, .bool false, .int .i64 0, .int .i64 0] 107)
  have S1 : StAt w.heap.size (.slice none 0 0) NS.zero (w.alloc (.cells #[.slice none 0 0, .int .i64 0, .int .i64 0, .int .i64 0, .int .i64 0, .bool false, .int .i64 0, .int .i64 0] 107)) := World.alloc_heap_new w _
  have HS1 := Lib.hid S1
  have HB1 := Lib.hid b1
  clear hA hC hW h0 hR b1 S1
  go_enter Tryz.func23, Tryz.ntmps23
  go_wp2_with fail
  generalize hW1 : w.alloc (.cells #[.slice none 0 0, .int .i64 0, .int .i64 0, .int .i64 0, .int .i64 0, .bool false, .int .i64 0, .int .i64 0] 107) = W1 at *
  refine (ST.out _).mono ?_
  rintro e W2 ⟨rfl, b2⟩
  have HS2 := Lib.hid (HS1.out.next b2)
  have HB2 := Lib.hid (HB1.out.trans (b2.mono HB1.out.size))
  have hq1 := HS1.out.lt
  have hsz := b2.size
  clear b2 HS1 HB1 ST hW1
  go_wp2_with (refine wpList_store_row (by rfl) 109 (.tmp 5) (.tmp 10) (by rfl) W2.heap.size tabV (by rfl) (by rfl) 109 nilV (World.alloc_heap_new W2 _) (by kernel_rfl) (by rfl) (by kernel_rfl) ?_)
  generalize hW3 : World.setRow _ _ _ = W3
  have e3 : W3 = W2.alloc (.cells tabV 109) := hW3.symm.trans (World.setRow_alloc_new W2 nilV tabV 109)
  have b3 : Below W2.heap.size W2 W3 := by rw [e3]; exact (Below.refl _ W2).alloc (Nat.le_refl _) _
  have HS3 := Lib.hid (HS2.out.next b3)
  have HB3 := Lib.hid (HB2.out.trans (b3.mono HB2.out.size))
  have HT3 := Lib.hid (show W3.heap[W2.heap.size]? = some (.cells tabV 109 (0, 0)) by rw [e3]; exact World.alloc_heap_new W2 _)
  have hTq : W2.heap.size ≠ w.heap.size := by have := HS2.out.lt; omega
  have hqT : w.heap.size < W2.heap.size := HS2.out.lt
  generalize W2.heap.size = T at *
  clear b3 e3 hW3 HS2 HB2
  have CAP := Lib.hid (fun (c : Nat) (h : cntL c ≠ 99) w => capital_any c h w)
  go_loopw [6, 7, 13] (fun u6 u7 u13 wr => BInv l RES w W3 T u6 u7 u13 wr) (fun _ _ u13 _ => l.length - (intOf u13).toNat)
  case atStart => exact ⟨0, .slice none 0 0, NS.zero, rfl, rfl, rfl, Nat.zero_le _, by decide, fun h => absurd rfl h, HS3.out, Segs.nil _ _, nok_zero, KepS.refl _ _, HT3.out, HR0⟩
  case round =>
    clear HS3 HT3 HR0
    obtain ⟨i, v, s, rfl, rfl, rfl, hi, hso, hsn, hst, hsg, hok, hk, hT, hE⟩ := hrel
    have HB := Lib.hid (HB3.out.trans (hk.below (by have := HB3.out.size; omega)))
    by_cases hlt : i < l.length
    · obtain ⟨b, off, rfl, hb, hcs⟩ := HA.out.pos (by omega)
      obtain ⟨aa, ac, A⟩ := hcs i hlt
      have hcap := HC.out b off rfl i hlt aa _ ac A.c1
      have hw := HW.out _ (List.mem_of_getElem? (at_some l hlt))
      have h0 : capL (ltr l i) ≠ 77 → s.out ≠ [] := fun h => hsn fun e => by
        subst e
        exact h (H0.out _ _ (drop_cons7 hlt))
      have hE' := hE.out
      rw [drop_cons7 hlt] at hE'
      unfold bringL at hE'
      have HE := Lib.hid hE'
      have TK := took_take hok _ hw h0
      have x0 := (HB.out.cell (p := ⟨b, off + i * 2, none⟩) (by exact hb)).trans A.c0
      have x1 := (HB.out.cell (p := ⟨b, off + i * 2 + 1, none⟩) (by exact hb)).trans A.c1
      have AR : ArgsAt w.heap.size aa (ars l i) wr := by
        rcases A.row with h | ⟨b', o', h1, h2, h3⟩
        · exact .inl h
        · exact .inr ⟨b', o', h1, h2, fun j hj => (HB.out.cell (p := ⟨b', o' + j, none⟩) (by exact h2)).trans (h3 j hj)⟩
      obtain ⟨f, hf1, hf2, hf3, hf4⟩ := tab_at (ltr l i) hw.2.1
      have hlen : cntL (ltr l i) = (ars l i).length := hw.1
      have tk := Lib.hid (fun W (h1 : StAt w.heap.size v s W) (h2 : Segs (w.heap.size + 1) v s.out W) (h3 : ArgsAt w.heap.size aa (ars l i) W) (h4 : w.heap.size + 1 ≤ W.heap.size) => take_any7 f (ars l i).length w.heap.size (w.heap.size + 1) v s (ltr l i) aa ac (ars l i) W (by rw [← hlen]; exact hf2) h1 h2 (by omega) h4 (by omega) hok rfl (fun j => hw.at j) h3 hw.2.1 h0 hcap)
      have hltr := A.lt
      have hltI : (i : Int) < (l.length : Int) := by omega
      have CA := Lib.hid (fun w => CAP.out (ltr l i) hw.2.1 w)
      obtain ⟨s4, hs4⟩ : ∃ s4, s4 = takeM s ⟨ltr l i, ars l i⟩ := ⟨_, rfl⟩
      have e65 : IntKind.u8.wrap ((capL (ltr l i) : Int) - 65) = ((capL (ltr l i) - 65 : Nat) : Int) := by rw [show (capL (ltr l i) : Int) - 65 = ((capL (ltr l i) - 65 : Nat) : Int) by omega]; exact IntWalk.u8_in _ (by omega)
      have hne : s4.out ≠ [] := by
        obtain ⟨x, h1, h2, _⟩ := TK.out
        rw [hs4, h1]; intro e
        have := congrArg List.length e
        simp at this; rw [this.2] at h2; exact absurd h2 (by decide)
      have hln : s4.out.length ≤ s.out.length + 2 ∧ s.out.length ≤ s4.out.length := by
        obtain ⟨x, h1, h2, h3⟩ := TK.out
        rw [hs4, h1, List.length_append]; omega
      have hpre : s4.out.take s.out.length = s.out := by
        obtain ⟨x, h1, _⟩ := TK.out
        rw [hs4, h1, List.take_left']; rfl
      have HTK := Lib.hid TK
      rw [← hs4] at HTK
      have HE' : Hid ((if inB (lastM s4) then bringL s4 (l.drop (i + 1)) (i + 1) else (s.out, (i : Int))) = RES) := by rw [hs4]; exact HE.out
      have HPRE := Lib.hid hpre
      have tk' := Lib.hid (show ∀ W, StAt w.heap.size v s W → Segs (w.heap.size + 1) v s.out W → ArgsAt w.heap.size aa (ars l i) W → w.heap.size + 1 ≤ W.heap.size → Calls Tryz.prog 50 #[.pointer (some ⟨w.heap.size, 0, none⟩), .agg #[.int .u8 (ltr l i : Int), .slice aa (ars l i).length ac], .func (.func f) #[] #[]] W (NPost w.heap.size (w.heap.size + 1) s4 W) by rw [hs4]; exact tk.out)
      have bb : Below wr.heap.size wr (wr.alloc (.cells #[.int .u8 (ltr l i : Int), .slice aa (ars l i).length ac] 95)).drew := ((Below.refl _ wr).alloc (Nat.le_refl _) _).drew
      have HSd := Lib.hid (hst.next bb)
      have HGd := Lib.hid (hsg.next bb)
      have HKd := Lib.hid (hk.trans (KepS.of_below bb))
      have HAd := Lib.hid (AR.next bb (Nat.le_of_lt hst.lt))
      have hTl : T < wr.heap.size := (Array.getElem?_eq_some_iff.1 hT).1
      have HTd := Lib.hid (show (wr.alloc (.cells #[.int .u8 (ltr l i : Int), .slice aa (ars l i).length ac] 95)).drew.heap[T]? = some (.cells tabV 109 (0, 0)) from (bb.block T hTl).trans hT)
      have HBd : Hid (BoxC7 wr.heap.size (ltr l i) (.slice aa (ars l i).length ac) (wr.alloc (.cells #[.int .u8 (ltr l i : Int), .slice aa (ars l i).length ac] 95)).drew) := World.alloc_heap_new wr _
      have hRd : w.heap.size + 1 ≤ (wr.alloc (.cells #[.int .u8 (ltr l i : Int), .slice aa (ars l i).length ac] 95)).drew.heap.size := Nat.le_trans (Nat.succ_le_of_lt hst.lt) bb.size
      have hqw : w.heap.size < wr.heap.size := hst.lt
      have hCq : wr.heap.size ≠ w.heap.size := by omega
      have tcell : ∀ W : World, W.heap[T]? = some (.cells tabV 109 (0, 0)) → W.cell? ⟨T, capL (ltr l i) - 65, none⟩ = some (.func (.func f) #[] #[]) := fun W h => by unfold World.cell?; rw [h]; exact hf1
      have td := tcell wr hT
      have TC := Lib.hid tcell
      have hcl : capL (ltr l i) - 65 < 26 := hf4
      have hpos65 : (0 : Int) ≤ ((capL (ltr l i) - 65 : Nat) : Int) ∧ ((capL (ltr l i) - 65 : Nat) : Int) < 26 := by omega
      clear hE hE' HE TK hst hsg hk hT AR A hcs hpre tk tcell hs4 h0 hw hf1 hf2 hf3
      generalize hcap65 : capL (ltr l i) - 65 = cx at *
      generalize hcc : (capL (ltr l i) : Int) = cz at *
      clear hcap65 hcc
      go_wp2_with fail
      have hW6 : Below wr.heap.size wr (wr.alloc (.cells #[.int .u8 (ltr l i : Int), .slice aa (ars l i).length ac] 95)) := (Below.refl _ wr).alloc (Nat.le_refl _) _
      generalize hW5 : wr.alloc (.cells #[.int .u8 (ltr l i : Int), .slice aa (ars l i).length ac] 95) = W5 at *
      have d0 : W5.cell? ⟨wr.heap.size, 0, none⟩ = some (.int .u8 (ltr l i : Int)) := HBd.out.c0
      have d1 : W5.cell? ⟨wr.heap.size, 1, none⟩ = some (.slice aa (ars l i).length ac) := HBd.out.c1
      have d2 : W5.cell? ⟨T, cx, none⟩ = some (.func (.func f) #[] #[]) := TC.out _ HTd.out
      clear td x0 x1 hW5 hW6 bb
      go_region_held3 (fun w' => w'.cell? ⟨wr.heap.size, 0, none⟩ = some (.int .u8 (ltr l i : Int)) ∧ w'.cell? ⟨wr.heap.size, 1, none⟩ = some (.slice aa (ars l i).length ac) ∧ w'.cell? ⟨T, cx, none⟩ = some (.func (.func f) #[] #[])) (first | (simp [go_sem, *]; done) | (exact ⟨by assumption, by assumption, by assumption⟩))
        (first
          | (go_at_call 51; (with_reducible refine (CA.out _).mono ?_); rintro e wc ⟨rfl, rfl⟩)
          | (go_at_call 50; (with_reducible refine (tk'.out _ HSd.out HGd.out HAd.out hRd).mono ?_); rintro e wF HF; have FS := Lib.hid HF.2.1; have FK := Lib.hid (HKd.out.trans HF.2.2); have fB : BoxC7 wr.heap.size (ltr l i) (.slice aa (ars l i).length ac) wF := HF.2.2.keeps HBd.out (by decide) hCq; have FT := Lib.hid (HF.2.2.keeps HTd.out (by decide) hTq); have f0 := fB.c0; have f1 := fB.c1; have f2 := TC.out _ FT.out; have hee := HF.1; clear HF fB; subst hee))
      all_goals
        clear f0 f1 f2 d0 d1 d2 HSd HGd HKd HAd HTd HBd TC tk' CA
        obtain ⟨v4, r1, r2⟩ := FS.out
        have S4 := Lib.hid r1
        have G4 := Lib.hid r2
        have hR4 : w.heap.size + 1 ≤ wF.heap.size := r1.lt
        have LA := Lib.hid (last_any7 w.heap.size (w.heap.size + 1) v4 s4 wF r1 r2 hne (by omega))
        have IB := Lib.hid (fun w => inBound_any (lastM s4) w HTK.out.seg)
        clear r1 r2 FS
        go_wp2_with fail
        refine LA.out.mono ?_
        rintro e w5 ⟨rfl, b5⟩
        have S5 := Lib.hid (S4.out.next b5)
        have G5 := Lib.hid (G4.out.next b5)
        have K5 := Lib.hid (FK.out.trans (KepS.of_below b5))
        have T5 := Lib.hid ((b5.block T (Array.getElem?_eq_some_iff.1 FT.out).1).trans FT.out)
        clear b5 S4 G4 FK FT LA
        go_wp2_with fail
        refine (IB.out _).mono ?_
        rintro e w6 ⟨rfl, b6⟩
        have S6 := Lib.hid (S5.out.next b6)
        have G6 := Lib.hid (G5.out.next b6)
        have K6 := Lib.hid (K5.out.trans (KepS.of_below b6))
        have T6 := Lib.hid ((b6.block T (Array.getElem?_eq_some_iff.1 T5.out).1).trans T5.out)
        clear b6 S5 G5 K5 T5 IB
        obtain ⟨a4, cap4, rfl, hrd4, hcap4⟩ := G6.out.reads
        have c40 := S6.out.c0
        by_cases hin : inB (lastM s4)
        · have hE6 := HE'.out
          rw [if_pos hin] at hE6
          have HE6 := Lib.hid hE6
          have hok4 := HTK.out.ok hin
          rw [decide_eq_true hin]
          clear hrd4 hcap4 HE' hE6 HTK HPRE
          go_wp2_with fail
          go_roundw
          case rel => exact ⟨i + 1, .slice a4 s4.out.length cap4, s4, rfl, rfl, by go_num, by omega, by omega, fun _ => hne, S6.out, G6.out, hok4, K6.out, T6.out, HE6⟩
          case measure => simp [intOf]; omega
        · have hE6 := HE'.out
          rw [if_neg hin] at hE6
          rw [decide_eq_false hin]
          have hkc : (s.out.length : Int) ≤ (cap4 : Int) := by omega
          have RD := Lib.hid (hrd4.take s.out.length)
          rw [HPRE.out] at RD
          have BB := Lib.hid (HB3.out.trans (K6.out.below (by have := HB3.out.size; omega)))
          subst hE6
          clear hrd4 hcap4 HE' HTK HPRE S6 G6 K6 T6
          go_wp2_with fail
          go_ret2
          exact ⟨a4, s.out.length, rfl, RD.out, Nat.le_refl _, BB.out⟩
    · have hil : i = l.length := by omega
      have hE' := hE.out
      rw [hil, List.drop_length] at hE'
      unfold bringL at hE'
      subst hE'
      obtain ⟨a4, cap4, rfl, hrd4, hcap4⟩ := hsg.reads
      have c40 := hst.c0
      have hkc : (s.out.length : Int) ≤ (cap4 : Int) := by omega
      have hnl : ¬ (i : Int) < (l.length : Int) := by omega
      have RD := Lib.hid hrd4
      clear hE hst hsg hk hT hrd4 hcap4
      go_wp2_with fail
      go_ret2
      exact ⟨a4, s.out.length, rfl, RD.out, Nat.le_refl _, HB.out⟩
end Go.Proofs.YtbjabclgekkpaaaGreatDoor
namespace Go.Proofs.YtbjabclgekkpaaaGreatDoor
open Go.RowKit Go.Shelf
theorem ansF_in (s a b : List UInt8) (x : Expo) (h : (ansF s a b x).2 = 0) : In32 (ansF s a b x).1 := by
  unfold ansF ansV at *
  split at h
  · rename_i k; rw [if_pos k]; exact k
  · exact absurd h (by show ¬ (2 : Int) = 0; decide)
theorem numT_in (s : ByteArray) (k : Nat) (sg : Bool) (hs : s.size ≤ 100000) (hk : k ≤ s.size) (h : (numT s k sg).2.1 = 0) : In32 (numT s k sg).1 := by
  have A := ansT_spec (s.extract k (nmE s k sg)) (ext_size s k sg hk hs)
  unfold numT numX at *
  by_cases hW : nmW s k sg = true
  · rw [if_pos hW] at h ⊢
    obtain ⟨sg', a, pt, b, x, hn⟩ := acc1 _ (nmW_acc s k sg hW)
    have e := A.2.2.1 _ _ _ _ _ hn
    rw [e] at h ⊢
    exact ansF_in _ _ _ _ h
  · rw [if_neg hW] at h
    exact absurd h (by show ¬ (3 : Int) = 0; decide)
theorem one_in6 (s : ByteArray) (hs : s.size ≤ 100000) (c k i : Nat) (hi : i ≤ s.size) (h : (one (txOf s) c k i).2.1 = 0) : In32 (one (txOf s) c k i).1 := by
  obtain ⟨j, hj, _, hc⟩ := one_cases (txOf s) c k i
  have hg := (txOf_ok s hs).gap i hi
  have hjl : j ≤ s.size := by rcases hj with rfl | rfl; exact hi; exact hg.2
  rcases hc with ⟨e, _⟩ | ⟨e, _⟩ | ⟨sg, e, _⟩
  · rw [e] at h; exact absurd h (by show ¬ (3 : Int) = 0; decide)
  · rw [e] at h ⊢
    unfold flagA at *
    split at h
    · rename_i hb
      rw [if_pos hb]
      rcases hb.2 with hb | hb
      · show In32 (((txOf s).byte j : Int) - 48); rw [hb]; decide
      · show In32 (((txOf s).byte j : Int) - 48); rw [hb]; decide
    · exact absurd h (by show ¬ (3 : Int) = 0; decide)
  · rw [e] at h ⊢
    exact numT_in s j sg hs hjl h
theorem args_in6 (s : ByteArray) (hs : s.size ≤ 100000) (c : Nat) : ∀ (n k i : Nat) (acc : List Int) xs j, i ≤ s.size → (∀ v ∈ acc, In32 v) → argsL (txOf s) c n k i acc = .inl (xs, j) → (∀ v ∈ xs, In32 v) ∧ j ≤ s.size := by
  intro n
  induction n with
  | zero =>
    intro k i acc xs j hi ha h
    obtain ⟨rfl, rfl⟩ : acc = xs ∧ i = j := by simpa [argsL] using h
    exact ⟨ha, hi⟩
  | succ n ih =>
    intro k i acc xs j hi ha h
    rw [args_step] at h
    split at h
    · rename_i h0
      have hb := one_in6 s hs c k i hi h0
      refine ih _ _ _ _ _ ?_ ?_ h
      · exact (one_ok (txOf_ok s hs) c k i hi).hi
      · intro v hv
        rcases List.mem_append.1 hv with hv | hv
        · exact ha v hv
        · simp at hv; subst hv; exact hb
    · cases h
def HeadM (l : List Cmd) : Prop := ∀ x r, l = x :: r → capL x.letter = 77
theorem headM_snoc {out : List Cmd} {y : Cmd} (h : HeadM out) (hy : out = [] → capL y.letter = 77) : HeadM (out ++ [y]) := by
  intro x r e
  cases out with
  | nil => simp at e; rw [← e.1]; exact hy rfl
  | cons z t => simp at e; exact h x t (by rw [e.1])
theorem path_may (s : ByteArray) (hs : s.size ≤ 100000) : ∀ (f : Nat) (st : Option Nat) (i : Nat) (out : List Cmd), i ≤ s.size → (∀ x ∈ out, CmdW x) → HeadM out → (∀ c, st = some c → cntL c ≠ 99 ∧ (out = [] → capL c = 77)) → (∀ x ∈ (pathL (txOf s) f st i out).1, CmdW x) ∧ HeadM (pathL (txOf s) f st i out).1 := by
  have OKX := txOf_ok s hs
  have hln : (txOf s).len = s.size := rfl
  intro f
  induction f with
  | zero => intro st i out _ h1 h2 _; cases st <;> exact ⟨h1, h2⟩
  | succ f ih =>
    intro st i out hi h1 h2 h3
    cases st with
    | none =>
      unfold pathL
      split
      · rename_i hlt
        split
        · exact ⟨h1, h2⟩
        · rename_i hno
          have hc : cntL ((txOf s).byte i) ≠ 99 := fun e => hno (Or.inl e)
          have hm : out = [] → capL ((txOf s).byte i) = 77 := fun e => by
            have : (txOf s).byte i = 77 ∨ (txOf s).byte i = 109 := Classical.byContradiction fun k => hno (Or.inr ⟨e, fun x => k (Or.inl x), fun x => k (Or.inr x)⟩)
            rcases this with h | h <;> rw [h] <;> rfl
          have hb := OKX.blk (i + 1) (by rw [hln] at *; omega)
          split
          · rename_i hz
            refine ih _ _ _ hb.2 ?_ (headM_snoc h2 hm) (fun c e => by cases e)
            intro x hx
            rcases List.mem_append.1 hx with hx | hx
            · exact h1 x hx
            · simp at hx; subst hx; exact ⟨hz, hc, fun v hv => by cases hv⟩
          · exact ih _ _ _ hb.2 h1 h2 (fun c e => by cases e; exact ⟨hc, hm⟩)
      · exact ⟨h1, h2⟩
    | some c =>
      obtain ⟨hc, hm⟩ := h3 c rfl
      unfold pathL
      split
      · exact ⟨h1, h2⟩
      · rename_i xs j he
        have hlx := args_len (txOf s) c _ _ _ _ _ _ he
        obtain ⟨hin, hj⟩ := args_in6 s hs c _ _ _ _ _ _ hi (fun v hv => by cases hv) he
        have hw : CmdW ⟨c, xs⟩ := ⟨by simp at hlx; exact hlx.symm, hc, hin⟩
        have h1' : ∀ x ∈ out ++ [⟨c, xs⟩], CmdW x := by
          intro x hx
          rcases List.mem_append.1 hx with hx | hx
          · exact h1 x hx
          · simp at hx; subst hx; exact hw
        have h2' := headM_snoc (y := ⟨c, xs⟩) h2 hm
        have hb := OKX.blk j hj
        have hg := OKX.gap _ hb.2
        have hnx : ∀ c', some (nextL c) = some c' → cntL c' ≠ 99 ∧ (out ++ [⟨c, xs⟩] = [] → capL c' = 77) := fun c' e => by
          cases e
          refine ⟨?_, fun e => by simp at e⟩
          unfold nextL
          split
          · decide
          · split
            · decide
            · exact hc
        split
        · exact ih _ _ _ hg.2 h1' h2' hnx
        · split
          · exact ih _ _ _ hb.2 h1' h2' hnx
          · exact ih _ _ _ hb.2 h1' h2' (fun c e => by cases e)
theorem all_may (s : ByteArray) (hs : s.size ≤ 100000) : (∀ x ∈ (pathAll (txOf s)).1, CmdW x) ∧ HeadM (pathAll (txOf s)).1 :=
  path_may s hs _ _ _ _ ((txOf_ok s hs).blk 0 (Nat.zero_le _)).2 (fun x h => by cases h) (fun x r h => by cases h) (fun c h => by cases h)
end Go.Proofs.YtbjabclgekkpaaaGreatDoor
namespace Go.Proofs.YtbjabclgekkpaaaGreatDoor
open Go.RowKit Go.Shelf
theorem Cmds.room {R : Nat} {a : Option Addr} {n cap : Nat} {l : List Cmd} {W : World} (h : Cmds R (.slice a n cap) l W) : CapC a l W := by
  obtain ⟨avs, h1, h2, h3⟩ := h
  rintro b off rfl i hi aa m ac hc
  have hx := at_some l hi
  have ha : avs[i]? = some avs[i] := List.getElem?_eq_getElem (by omega)
  obtain ⟨_, e1⟩ := flatC_at l avs h1 i _ _ hx ha
  obtain ⟨o, _⟩ := h3 i _ _ hx ha
  have hcell := own_cell h2 e1
  rw [← Nat.add_assoc] at hcell
  rw [hcell] at hc
  obtain hc := Option.some.inj hc
  rw [hc] at o
  rcases o.2 with ⟨h0, hk⟩ | ⟨g, cap', cur, hv, _, _, h5, _⟩
  · cases h0; exact Nat.zero_le _
  · cases hv; exact h5
/-- What norm's Parse answers: by the commands, their place and their error. -/
noncomputable def parseS (s : ByteArray) : List Seg × Int × Int :=
  if 0 ≤ (bringL NS.zero (pathAll (txOf s)).1 0).2 then ((bringL NS.zero (pathAll (txOf s)).1 0).1, (bringL NS.zero (pathAll (txOf s)).1 0).2, 2) else ((bringL NS.zero (pathAll (txOf s)).1 0).1, (pathAll (txOf s)).2.1, (pathAll (txOf s)).2.2)
def SegPost (X : List Seg × Int × Int) (w : World) (e : Ending) (W' : World) : Prop :=
  ∃ a cap, e = .returned (.tuple #[.slice a X.1.length cap, .int .i64 X.2.1, .int .i64 X.2.2]) ∧ RdS a X.1 W' ∧ X.1.length ≤ cap ∧ Below w.heap.size w W'
set_option maxRecDepth 100000 in
theorem NParse_any (s : ByteArray) (w : World) (hs : s.size ≤ 900) (hn : (pathAll (txOf s)).1.length ≤ 1000) (T : PTabs w) : Calls Tryz.prog 15 #[.string s] w (SegPost (parseS s) w) := by
  have P := Lib.hid (fun w T => PParse_any s w (by omega) T)
  unfold PParsePost at P
  have HL := Lib.hid (all_len (txOf s))
  have HM := Lib.hid (all_may s (by omega))
  have HN := Lib.hid hn
  have HT := Lib.hid T
  unfold parseS
  clear T hn
  generalize pathAll (txOf s) = RES at *
  obtain ⟨l, z, er⟩ := RES
  obtain ⟨BR, hBR⟩ : ∃ B, bringL NS.zero l 0 = B := ⟨_, rfl⟩
  simp only [hBR]
  have HBR := Lib.hid hBR
  clear hBR
  obtain ⟨g, far⟩ := BR
  by_cases hf : 0 ≤ far
  · rw [if_pos hf]
    go_enter Tryz.func15, Tryz.ntmps15
    go_wp2_with fail
    refine (P.out _ HT.out).mono ?_
    rintro e w1 ⟨v, rfl, hc, b1⟩
    obtain ⟨a, cap, rfl, hr⟩ := hc.reads HL.out
    have BG := Lib.hid (bring_any a l cap w1 HN.out hr hc.room HM.out.1 HM.out.2)
    rw [HBR.out] at BG
    have B1 := Lib.hid b1
    clear hc hr b1 P HT HM HN HL
    go_wp2_with fail
    refine BG.out.mono ?_
    rintro e w2 ⟨a2, cap2, rfl, hrd, hcap, b2⟩
    have R2 := Lib.hid hrd
    have C2 := Lib.hid hcap
    have B2 := Lib.hid (B1.out.trans (b2.mono B1.out.size))
    clear hrd hcap b2 BG B1
    go_wp2_with fail
    go_ret3
    exact ⟨a2, cap2, rfl, R2.out, C2.out, B2.out⟩
  · rw [if_neg hf]
    go_enter Tryz.func15, Tryz.ntmps15
    go_wp2_with fail
    refine (P.out _ HT.out).mono ?_
    rintro e w1 ⟨v, rfl, hc, b1⟩
    obtain ⟨a, cap, rfl, hr⟩ := hc.reads HL.out
    have BG := Lib.hid (bring_any a l cap w1 HN.out hr hc.room HM.out.1 HM.out.2)
    rw [HBR.out] at BG
    have B1 := Lib.hid b1
    clear hc hr b1 P HT HM HN HL
    go_wp2_with fail
    refine BG.out.mono ?_
    rintro e w2 ⟨a2, cap2, rfl, hrd, hcap, b2⟩
    have R2 := Lib.hid hrd
    have C2 := Lib.hid hcap
    have B2 := Lib.hid (B1.out.trans (b2.mono B1.out.size))
    clear hrd hcap b2 BG B1
    go_wp2_with fail
    go_ret3
    exact ⟨a2, cap2, rfl, R2.out, C2.out, B2.out⟩
end Go.Proofs.YtbjabclgekkpaaaGreatDoor
namespace Go.Proofs.YtbjabclgekkpaaaGreatDoor
open Go.RowKit Go.Shelf
/-- A number of one digit. -/
theorem num_digit7 (s : ByteArray) (k : Nat) (d : UInt8) (z : Int) (hs : s.size ≤ 100) (hk : k ≤ s.size) (he : nmE s k true = k + 1) (hw : nmW s k true = true) (hx : s.extract k (k + 1) = ⟨#[d]⟩) (hn : IsNum [d] [] [d] false [] none) (ha : ansF [] [d] [] none = (z, 0)) : numT s k true = (z, 0, k + 1) := by
  have A := ansT_spec (s.extract k (nmE s k true)) (ext_size s k true hk (Nat.le_trans hs (by decide)))
  rw [he, hx] at A
  have := A.2.2.1 _ _ _ _ _ hn
  rw [ha] at this
  unfold numT numX
  rw [if_pos hw, he, hx, this]; rfl
end Go.Proofs.YtbjabclgekkpaaaGreatDoor
namespace Go.Proofs.YtbjabclgekkpaaaGreatDoor
open Go.RowKit Go.Shelf
def exO : ByteArray := ⟨#[77, 48, 32, 48, 76, 49, 32, 48, 76, 48, 32, 49]⟩
noncomputable def numO (i : Nat) (sg : Bool) : Int × Int × Nat :=
  if sg = true ∧ i = 1 then (0, 0, 2) else if sg = true ∧ i = 3 then (0, 0, 4) else if sg = true ∧ i = 5 then (65536, 0, 6) else if sg = true ∧ i = 7 then (0, 0, 8) else if sg = true ∧ i = 9 then (0, 0, 10) else if sg = true ∧ i = 11 then (65536, 0, 12) else numT exO i sg
theorem numO_eq : numT exO = numO := by
  funext i sg
  unfold numO
  split
  · rename_i h; obtain ⟨rfl, rfl⟩ := h
    exact num_digit7 exO 1 48 0 (by decide) (by decide) (by decide +kernel) (by decide +kernel) (by decide +kernel) ⟨Or.inl rfl, by unfold AllDig; decide, by unfold AllDig; decide, (fun _ => rfl), by decide, trivial, rfl⟩ (by decide +kernel)
  split
  · rename_i h; obtain ⟨rfl, rfl⟩ := h
    exact num_digit7 exO 3 48 0 (by decide) (by decide) (by decide +kernel) (by decide +kernel) (by decide +kernel) ⟨Or.inl rfl, by unfold AllDig; decide, by unfold AllDig; decide, (fun _ => rfl), by decide, trivial, rfl⟩ (by decide +kernel)
  split
  · rename_i h; obtain ⟨rfl, rfl⟩ := h
    exact num_digit7 exO 5 49 65536 (by decide) (by decide) (by decide +kernel) (by decide +kernel) (by decide +kernel) ⟨Or.inl rfl, by unfold AllDig; decide, by unfold AllDig; decide, (fun _ => rfl), by decide, trivial, rfl⟩ (by decide +kernel)
  split
  · rename_i h; obtain ⟨rfl, rfl⟩ := h
    exact num_digit7 exO 7 48 0 (by decide) (by decide) (by decide +kernel) (by decide +kernel) (by decide +kernel) ⟨Or.inl rfl, by unfold AllDig; decide, by unfold AllDig; decide, (fun _ => rfl), by decide, trivial, rfl⟩ (by decide +kernel)
  split
  · rename_i h; obtain ⟨rfl, rfl⟩ := h
    exact num_digit7 exO 9 48 0 (by decide) (by decide) (by decide +kernel) (by decide +kernel) (by decide +kernel) ⟨Or.inl rfl, by unfold AllDig; decide, by unfold AllDig; decide, (fun _ => rfl), by decide, trivial, rfl⟩ (by decide +kernel)
  split
  · rename_i h; obtain ⟨rfl, rfl⟩ := h
    exact num_digit7 exO 11 49 65536 (by decide) (by decide) (by decide +kernel) (by decide +kernel) (by decide +kernel) ⟨Or.inl rfl, by unfold AllDig; decide, by unfold AllDig; decide, (fun _ => rfl), by decide, trivial, rfl⟩ (by decide +kernel)
  rfl
theorem exO_all : pathAll (txOf exO) = ([⟨77, [0, 0]⟩, ⟨76, [65536, 0]⟩, ⟨76, [0, 65536]⟩], -1, 0) := by
  unfold txOf
  rw [numO_eq]
  kernel_rfl
def wantO : List Seg := [segS 1 0 0 0 0 0 0, segS 2 65536 0 0 0 0 0, segS 2 0 65536 0 0 0 0]
theorem exO_bring : bringL NS.zero [⟨77, [0, 0]⟩, ⟨76, [65536, 0]⟩, ⟨76, [0, 65536]⟩] 0 = (wantO, -1) := by kernel_rfl
theorem exO_parse : parseS exO = (wantO, -1, 0) := by
  unfold parseS
  rw [exO_all]
  show (if 0 ≤ (bringL NS.zero [⟨77, [0, 0]⟩, ⟨76, [65536, 0]⟩, ⟨76, [0, 65536]⟩] 0).2 then _ else ((bringL NS.zero [⟨77, [0, 0]⟩, ⟨76, [65536, 0]⟩, ⟨76, [0, 65536]⟩] 0).1, (-1 : Int), (0 : Int))) = _
  rw [exO_bring]
  rfl
theorem parseO (w : World) (T : PTabs w) : Calls Tryz.prog 15 #[.string exO] w (SegPost (wantO, -1, 0) w) := by
  have h := NParse_any exO w (by decide) (by rw [exO_all]; decide) T
  rw [exO_parse] at h
  exact h
end Go.Proofs.YtbjabclgekkpaaaGreatDoor
namespace Go.Proofs.YtbjabclgekkpaaaGreatDoor
open Go.RowKit Go.Shelf
theorem asame8 (w : World) : Calls Tryz.prog 14 #[] w fun e w' => e = .returned sameM.val ∧ Below w.heap.size w w' := by
  have hn := MBox.new w sameM
  have hb := (Below.refl w.heap.size w).alloc (Nat.le_refl _) (.cells sameM.cells 23)
  simp only [sameM, Mtx.cells] at hn hb
  have HN := Lib.hid hn
  have HB := Lib.hid hb
  clear hn hb
  go_enter Tryz.func14, Tryz.ntmps14
  go_wp2_with fail
  generalize w.alloc (.cells #[.int .i64 65536, .int .i64 0, .int .i64 0, .int .i64 65536, .int .i64 0, .int .i64 0] 23) = W at *
  exact me_ret (m := ⟨65536, 0, 0, 65536, 0, 0⟩) Tryz.results14 HN.out HB.out rfl
end Go.Proofs.YtbjabclgekkpaaaGreatDoor
namespace Go.Proofs.YtbjabclgekkpaaaGreatDoor
open Go.RowKit Go.Shelf
set_option linter.unusedSimpArgs false
def edgesO : List Edg := [⟨0, 0, 65536, 0⟩, ⟨65536, 0, 0, 65536⟩, ⟨0, 65536, 0, 0⟩]
/-- What outline.Edges answers of the example. -/
def EdgesOk13 : Prop := ∀ (a : Option Addr) (cap : Nat) (w : World), RdS a wantO w → 3 ≤ cap →
  Calls Tryz.prog 9 #[sameM.val, .slice a 3 cap] w fun e w' => ∃ v, e = .returned (.tuple #[v, .int .i64 0]) ∧ Edgs w.heap.size v edgesO w' ∧ Below w.heap.size w w'
theorem edg_own3 {R : Nat} {v : Value} {l : List Edg} {W : World} (h : edgL.own R v l W) (h0 : 0 < l.length) : ∃ b cap, v = .slice (some ⟨b, 0, none⟩) l.length cap ∧ b < W.heap.size ∧ l.length ≤ cap := by
  rcases h.2 with ⟨_, h2⟩ | ⟨g, cap, cur, hv, _, hg, h1, _⟩
  · omega
  · exact ⟨g, cap, hv, (Array.getElem?_eq_some_iff.1 hg).1, h1⟩
set_option maxHeartbeats 4000000 in
set_option maxRecDepth 100000 in
theorem wakes13 (EK : EdgesOk13) (w : World) (T : PTabs w) : Calls Tryz.prog 7 #[] w fun e w' => e = .returned (.bool true) ∧ Below w.heap.size w w' := by
  have A := Lib.hid (parseO w T)
  have S := Lib.hid (fun w => asame8 w)
  have E := Lib.hid EK
  have ea : (⟨#[77, 48, 32, 48, 76, 49, 32, 48, 76, 48, 32, 49]⟩ : ByteArray) = exO := rfl
  clear T EK
  go_enter Tryz.func7, Tryz.ntmps7
  go_wp2_with fail
  refine A.out.mono ?_
  rintro e w1 ⟨a, cap, rfl, hrd, hcap, b1⟩
  rw [show ((wantO, (-1 : Int), (0 : Int)) : List Seg × Int × Int).1.length = 3 from rfl] at hcap ⊢
  have R1 := Lib.hid hrd
  have B1 := Lib.hid b1
  have HC := Lib.hid hcap
  clear hrd b1 A ea hcap
  dsimp only at R1
  go_wp2_with fail
  refine (S.out _).mono ?_
  rintro e w2 ⟨rfl, b2⟩
  have R2 := Lib.hid (R1.out.next b2); have B2 := Lib.hid (B1.out.trans (b2.mono B1.out.size))
  clear b2 R1 B1
  go_wp2_with fail
  refine (E.out a cap _ R2.out HC.out).mono ?_
  rintro e w3 ⟨v, rfl, hown, b3⟩
  have B3 := Lib.hid (B2.out.trans (b3.mono B2.out.size))
  obtain ⟨bk, ck, rfl, hbk, hck⟩ := edg_own3 hown (by decide)
  have hat : ∀ j u, (edgL.cl ⟨0, 65536, 0, 0⟩)[j]? = some u → w3.cell? ⟨bk, 2 * 4 + j, none⟩ = some u := fun j u hu => hown.cell (edgL.flat_at edgesO 2 ⟨0, 65536, 0, 0⟩ j u rfl hu)
  have c0 : w3.cell? ⟨bk, 8, none⟩ = some (.int .i64 0) := hat 0 _ rfl
  have c1 : w3.cell? ⟨bk, 9, none⟩ = some (.int .i64 65536) := hat 1 _ rfl
  have c2 : w3.cell? ⟨bk, 10, none⟩ = some (.int .i64 0) := hat 2 _ rfl
  have c3 : w3.cell? ⟨bk, 11, none⟩ = some (.int .i64 0) := hat 3 _ rfl
  rw [show edgesO.length = 3 from rfl]
  clear hat hown hbk hck b3 B2 R2
  go_wp2_with fail
  go_ret
  exact ⟨rfl, B3.out⟩
end Go.Proofs.YtbjabclgekkpaaaGreatDoor
namespace Go.Proofs.YtbjabclgekkpaaaGreatDoor
open Go.RowKit Go.Shelf
/-- The ends of edges. -/
def ptsE : List Edg → List (Int × Int)
  | [] => []
  | g :: l => (g.px, g.py) :: (g.qx, g.qy) :: ptsE l
theorem ptsE_append (l m : List Edg) : ptsE (l ++ m) = ptsE l ++ ptsE m := by
  induction l with
  | nil => rfl
  | cons g t ih => simp [ptsE, ih]
theorem ptsE_take {l : List Edg} {i : Nat} {g : Edg} (h : l[i]? = some g) : ptsE (l.take (i + 1)) = ptsE (l.take i) ++ [(g.px, g.py), (g.qx, g.qy)] := by
  rw [List.take_add_one, h, ptsE_append]; rfl
theorem ptsE_mem {l : List Edg} {i : Nat} {g : Edg} (h : l[i]? = some g) : (g.px, g.py) ∈ ptsE l ∧ (g.qx, g.qy) ∈ ptsE l := by
  have e : l = l.take i ++ g :: l.drop (i + 1) := by
    have := List.getElem?_eq_some_iff.1 h
    obtain ⟨hi, rfl⟩ := this
    simp
  rw [e, ptsE_append]
  simp [ptsE]
/-- What the box of edges is. -/
def BoxP (l : List Edg) (lx ly hx hy : Int) (ok : Bool) : Prop :=
  (l = [] → lx = 0 ∧ ly = 0 ∧ hx = 0 ∧ hy = 0 ∧ ok = false) ∧
  (l ≠ [] → ok = true ∧ (∀ p ∈ ptsE l, (lx ≤ p.1 ∧ p.1 ≤ hx) ∧ (ly ≤ p.2 ∧ p.2 ≤ hy)) ∧ ((∃ p ∈ ptsE l, p.1 = lx) ∧ (∃ p ∈ ptsE l, p.1 = hx)) ∧ ((∃ p ∈ ptsE l, p.2 = ly) ∧ (∃ p ∈ ptsE l, p.2 = hy)))
/-- Has one of these points this X, this Y? -/
def tX (v : Int) (P : List (Int × Int)) : Bool := P.any fun p => p.1 == v
def tY (v : Int) (P : List (Int × Int)) : Bool := P.any fun p => p.2 == v
theorem tX_snoc (v : Int) (P : List (Int × Int)) (p : Int × Int) : tX v (P ++ [p]) = (tX v P || p.1 == v) := by unfold tX; simp
theorem tY_snoc (v : Int) (P : List (Int × Int)) (p : Int × Int) : tY v (P ++ [p]) = (tY v P || p.2 == v) := by unfold tY; simp
theorem tX_of {v : Int} {P : List (Int × Int)} (h : ∃ p ∈ P, p.1 = v) : tX v P = true := by
  obtain ⟨p, hp, e⟩ := h
  unfold tX
  exact List.any_eq_true.2 ⟨p, hp, beq_iff_eq.2 e⟩
theorem tY_of {v : Int} {P : List (Int × Int)} (h : ∃ p ∈ P, p.2 = v) : tY v P = true := by
  obtain ⟨p, hp, e⟩ := h
  unfold tY
  exact List.any_eq_true.2 ⟨p, hp, beq_iff_eq.2 e⟩
def tch (lx ly hx hy : Int) (P : List (Int × Int)) : Array Value := #[.bool (tX lx P), .bool (tX hx P), .bool (tY ly P), .bool (tY hy P)]
theorem tch_snoc (lx ly hx hy : Int) (P : List (Int × Int)) (x y : Int) : tch lx ly hx hy (P ++ [(x, y)]) = #[.bool (tX lx P || x == lx), .bool (tX hx P || x == hx), .bool (tY ly P || y == ly), .bool (tY hy P || y == hy)] := by
  unfold tch
  rw [tX_snoc lx, tX_snoc hx, tY_snoc ly, tY_snoc hy]
end Go.Proofs.YtbjabclgekkpaaaGreatDoor
namespace Go.Proofs.YtbjabclgekkpaaaGreatDoor
open Go.ChangeShapes Go.WideShapes Go.ChangeAt Go.RowKit Go.Shelf Go.Joins Go.Deep
theorem trod_two8 {P : Program} {H : Type} {enc : TypeId × Value → H} {w : World} {base : Nat} {spare : Nat → Bool} {held : Bool} {t : TypeId} {f0 f1 : Field} {fuel : Nat} {cs : List Value} {x : DataW H × List MemPlace} (ht : P.underlying t = some (.struct #[f0, f1])) (h : DataW.trod enc P w base spare held fuel t cs = some x) :
    ∃ y0 y1 n, DataW.trod enc P w base spare held n f0.type ((cs.drop f0.offset).take (P.cellsOf f0.type)) = some y0 ∧ DataW.trod enc P w base spare held n f1.type ((cs.drop f1.offset).take (P.cellsOf f1.type)) = some y1 := by
  cases fuel with
  | zero => simp [DataW.trod] at h
  | succ n =>
    unfold DataW.trod at h
    rw [ht] at h
    simp at h
    obtain ⟨_, h⟩ := h
    cases h0 : DataW.trod enc P w base spare held n f0.type ((cs.drop f0.offset).take (P.cellsOf f0.type)) with
    | none => simp [h0] at h
    | some y0 =>
    cases h1 : DataW.trod enc P w base spare held n f1.type ((cs.drop f1.offset).take (P.cellsOf f1.type)) with
    | none => simp [h0, h1] at h
    | some y1 => exact ⟨y0, y1, n, h0, h1⟩
theorem two_cells {P : Program} {H : Type} {enc : TypeId × Value → H} {W : World} {base n : Nat} {t : TypeId} {f0 f1 : Field} {v0 v1 : Value} {y : DataW H × List MemPlace} (hs : P.underlying t = some (.struct #[f0, f1])) (o0 : f0.offset = 0) (o1 : f1.offset = 1) (k0 : P.cellsOf f0.type = 1) (k1 : P.cellsOf f1.type = 1)
    (h0 : P.underlying f0.type = some (.int .i64)) (h1 : P.underlying f1.type = some (.int .i64)) (h : DataW.trod enc P W base (fun _ => true) true n t [v0, v1] = some y) :
    ∃ a b : Int, v0 = .int .i64 a ∧ v1 = .int .i64 b ∧ I64 a ∧ I64 b := by
  obtain ⟨y0, y1, m, e0, e1⟩ := trod_two8 hs h
  obtain ⟨a, rfl, ha⟩ := num_cell h0 (by simpa [o0, k0] using e0)
  obtain ⟨b, rfl, hb⟩ := num_cell h1 (by simpa [o1, k1] using e1)
  exact ⟨a, b, rfl, rfl, ha, hb⟩
end Go.Proofs.YtbjabclgekkpaaaGreatDoor
namespace Go.Proofs.YtbjabclgekkpaaaGreatDoor
open Go.ChangeShapes Go.WideShapes Go.ChangeAt Go.RowKit Go.Shelf Go.Joins Go.Deep
theorem Lay8.flat_get {α : Type} (L : Lay8 α) {Q : Nat → Value → Prop} : ∀ (l : List α) (o : Nat), (∀ i g r u, l[i]? = some g → (L.cl g)[r]? = some u → Q (o + (i * L.sz + r)) u) → ∀ j u, (L.flat l)[j]? = some u → Q (o + j) u
  | [], _, _, j, u, hu => by simp [Lay8.flat] at hu
  | g :: t, o, h, j, u, hu => by
    rw [Lay8.flat] at hu
    by_cases hj : j < (L.cl g).length
    · rw [List.getElem?_append_left hj] at hu
      have := h 0 g j u rfl hu
      rwa [Nat.zero_mul, Nat.zero_add] at this
    · rw [List.getElem?_append_right (by omega)] at hu
      have k := Lay8.flat_get L (Q := Q) t (o + L.sz) (fun i g' r u' hi hr => by
        have := h (i + 1) g' r u' (by simpa using hi) hr
        rw [Nat.add_mul, Nat.one_mul] at this
        rwa [show o + L.sz + (i * L.sz + r) = o + (i * L.sz + L.sz + r) from by omega]) _ u hu
      rw [L.len] at k hj
      rwa [show o + L.sz + (j - L.sz) = o + j from by omega] at k
theorem addr_add4 (b off n : Nat) : (⟨b, off, none⟩ : Addr).add n = ⟨b, off + n, none⟩ := by
  by_cases h : n = 0
  · subst h; simp [Addr.add]
  · simp [Addr.add, h]
theorem list4 {α : Type} {l : List α} (h : l.length = 4) : ∃ a b c d, l = [a, b, c, d] := by
  match l, h with
  | [a, b, c, d], _ => exact ⟨a, b, c, d, rfl⟩
def EdgI (g : Edg) : Prop := (I64 g.px ∧ I64 g.py) ∧ (I64 g.qx ∧ I64 g.qy)
theorem edg_cells {P : Program} {H : Type} {enc : TypeId × Value → H} {W : World} {base n : Nat} {cs : List Value} {y : DataW H × List MemPlace} {t : TypeId} {g0 g1 f0 f1 : Field} (hs : P.underlying t = some (.struct #[g0, g1]))
    (q0 : g0.offset = 0) (q1 : g1.offset = 2) (hp : P.underlying g0.type = some (.struct #[f0, f1])) (hp2 : P.cellsOf g0.type = 2) (t1 : g1.type = g0.type)
    (o0 : f0.offset = 0) (o1 : f1.offset = 1) (k0 : P.cellsOf f0.type = 1) (k1 : P.cellsOf f1.type = 1) (h0 : P.underlying f0.type = some (.int .i64)) (h1 : P.underlying f1.type = some (.int .i64)) (hl : cs.length = 4)
    (h : DataW.trod enc P W base (fun _ => true) true n t cs = some y) : ∃ g : Edg, cs = g.lst ∧ EdgI g := by
  obtain ⟨c0, c1, c2, c3, rfl⟩ := list4 hl
  obtain ⟨y0, y1, n, e0, e1⟩ := trod_two8 hs h
  obtain ⟨a0, b0, rfl, rfl, ha0, hb0⟩ := two_cells (v0 := c0) (v1 := c1) hp o0 o1 k0 k1 h0 h1 (by simpa [q0, hp2] using e0)
  obtain ⟨a1, b1, rfl, rfl, ha1, hb1⟩ := two_cells (v0 := c2) (v1 := c3) hp o0 o1 k0 k1 h0 h1 (by simpa [q1, t1, hp2] using e1)
  exact ⟨⟨a0, b0, a1, b1⟩, rfl, ⟨ha0, hb0⟩, ha1, hb1⟩
/-- An argument of type []api.Edge. -/
theorem edgs_of_trod {P : Program} {H : Type} {enc : TypeId × Value → H} {W : World} {base : Nat} {v : Value} {d : DataW H} {p : List MemPlace} {u t : TypeId} {g0 g1 f0 f1 : Field}
    (hu : P.underlying u = some (.slice t)) (hs : P.underlying t = some (.struct #[g0, g1])) (hC : P.cellsOf t = 4)
    (q0 : g0.offset = 0) (q1 : g1.offset = 2) (hp : P.underlying g0.type = some (.struct #[f0, f1])) (hp2 : P.cellsOf g0.type = 2) (t1 : g1.type = g0.type)
    (o0 : f0.offset = 0) (o1 : f1.offset = 1) (k0 : P.cellsOf f0.type = 1) (k1 : P.cellsOf f1.type = 1) (h0 : P.underlying f0.type = some (.int .i64)) (h1 : P.underlying f1.type = some (.int .i64))
    (hok : Value.okWide P W .any base u v) (h : DataW.Trod enc P W 0 (fun _ => true) true u v d p) :
    ∃ (a : Option Addr) (l : List Edg) (cap : Nat), v = .slice a l.length cap ∧ l.length ≤ maxLen ∧ RdE a l W ∧ (∀ g ∈ l, EdgI g) ∧ l.length ≤ cap := by
  obtain ⟨a0, len, cap, rfl⟩ := okWide_slice hu hok
  obtain ⟨fuel, hf⟩ := h
  rcases open_slice hu hf with ⟨hcs, hx⟩ | ⟨a, len', cap', m, n, D, Pl, hcs, _, hl, hm, hmm, hx, hcell⟩
  · simp [Value.cells] at hcs
    obtain ⟨rfl, rfl, rfl⟩ := hcs
    exact ⟨none, [], 0, rfl, Nat.zero_le _, Or.inl rfl, (fun g hg => by cases hg), Nat.le_refl _⟩
  · simp [Value.cells] at hcs
    obtain ⟨rfl, rfl, rfl⟩ := hcs
    simp only [if_true] at hmm
    rw [hC] at hcell
    have K : ∀ i, i < len → ∃ g : Edg, W.cells? 0 (a.add (i * 4)) 4 = some g.lst ∧ EdgI g := by
      intro i hi
      obtain ⟨cs', h1', h2⟩ := hcell i (by omega)
      have hcl : cs'.length = 4 := by
        obtain ⟨xs, k, _, _, hcl, _, _⟩ := DataW.trod_struct hs h2
        rw [hC] at hcl; exact hcl
      obtain ⟨g, rfl, hg⟩ := edg_cells hs q0 q1 hp hp2 t1 o0 o1 k0 k1 h0 h1 hcl h2
      exact ⟨g, h1', hg⟩
    letI : Inhabited Edg := ⟨⟨0, 0, 0, 0⟩⟩
    obtain ⟨F, hF⟩ := choose_lt (α := Edg) K
    have hlen : ((List.range len).map F).length = len := by simp
    refine ⟨some a, (List.range len).map F, cap, by rw [hlen], by rw [hlen]; omega, ?_, ?_, by rw [hlen]; omega⟩
    · by_cases hz : len = 0
      · left; rw [hz]; rfl
      · right
        obtain ⟨b, off, sp⟩ := a
        have C : ∀ i, i < len → ∀ j, j < 4 → W.cell? (((⟨b, off, sp⟩ : Addr).add (i * 4)).add j) = (F i).lst[j]? := fun i hi j hj => by
          obtain ⟨_, _, hc⟩ := World.cells?_some (hF i hi).1
          exact hc j hj
        have c0 := C 0 (by omega) 0 (by decide)
        have hsp : sp = none := by
          cases sp with
          | none => rfl
          | some x =>
            exfalso
            have c0' : W.cell? ⟨b, off, some x⟩ = some (Value.int .i64 (F 0).px) := by simpa [Addr.add, Edg.lst] using c0
            simp only [World.cell?] at c0'
            split at c0' <;> simp at c0'
        subst hsp
        have hb : b < W.heap.size := by
          refine Nat.lt_of_not_le fun hge => ?_
          have hn : W.heap[b]? = none := by simp; omega
          have c0' : W.cell? ⟨b, off, none⟩ = some (Value.int .i64 (F 0).px) := by simpa [Addr.add, Edg.lst] using c0
          simp [World.cell?, hn] at c0'
        refine ⟨b, off, rfl, hb, fun j u hj => ?_⟩
        refine Lay8.flat_get edgL (Q := fun k u => W.cell? ⟨b, k, none⟩ = some u) _ off (fun i g r u hi hr => ?_) j u hj
        have hi2 : i < len := by
          have := (List.getElem?_eq_some_iff.1 hi).1
          rwa [hlen] at this
        have hr4 : r < 4 := (List.getElem?_eq_some_iff.1 hr).1
        have hg : g = F i := by
          have := List.getElem?_eq_some_iff.1 hi
          obtain ⟨_, h2⟩ := this
          simp at h2; exact h2.symm
        subst hg
        have hc := C i hi2 r hr4
        rw [addr_add4, addr_add4, Nat.add_assoc] at hc
        exact hc.trans hr
    · intro g hg
      obtain ⟨i, hi, rfl⟩ := List.mem_map.1 hg
      exact (hF i (List.mem_range.1 hi)).2
end Go.Proofs.YtbjabclgekkpaaaGreatDoor
namespace Go.Proofs.YtbjabclgekkpaaaGreatDoor
open Go.RowKit Go.Shelf
set_option linter.unusedSimpArgs false
/-- What package outline answers of Box. -/
def BoxOk : Prop := ∀ (a : Option Addr) (l : List Edg) (cap : Nat) (w : World), RdE a l w → (∀ g ∈ l, EdgI g) → l.length ≤ 60 →
  Calls Tryz.prog 13 #[.slice a l.length cap] w fun e w' => ∃ lx ly hx hy ok, e = .returned (.tuple #[.agg #[.int .i64 lx, .int .i64 ly], .agg #[.int .i64 hx, .int .i64 hy], .bool ok]) ∧ BoxP l lx ly hx hy ok ∧ Below w.heap.size w w'
/-- What the loops keep. -/
structure OBox (w0 : World) (q3 q4 q6 : Nat) (lx ly hx hy : Int) (P : List (Int × Int)) (wr : World) : Prop where
  lo : CBox q3 40 #[.int .i64 lx, .int .i64 ly] wr
  hi : CBox q4 40 #[.int .i64 hx, .int .i64 hy] wr
  t : CBox q6 46 (tch lx ly hx hy P) wr
  b : Below w0.heap.size w0 wr
  n3 : w0.heap.size ≤ q3
  n4 : q3 < q4
  n6 : q4 < q6
theorem OBox.next {w0 wr wd : World} {q3 q4 q6 : Nat} {lx ly hx hy : Int} {P : List (Int × Int)} (h : OBox w0 q3 q4 q6 lx ly hx hy P wr) (b : Below wr.heap.size wr wd) : OBox w0 q3 q4 q6 lx ly hx hy P wd :=
  ⟨h.lo.next b, h.hi.next b, h.t.next b, h.b.trans (b.mono h.b.size), h.n3, h.n4, h.n6⟩
theorem OBox.touch {w0 wr : World} {q3 q4 q6 : Nat} {lx ly hx hy : Int} {P P' : List (Int × Int)} (h : OBox w0 q3 q4 q6 lx ly hx hy P wr) {a0 a1 a2 a3 : Value} (ht : CBox q6 46 #[a0, a1, a2, a3] wr) (c0 c1 c2 c3 : Value) (hc : tch lx ly hx hy P' = #[c0, c1, c2, c3]) :
    OBox w0 q3 q4 q6 lx ly hx hy P' ((((wr.setCell ⟨q6, 0, none⟩ c0).setCell ⟨q6, 1, none⟩ c1).setCell ⟨q6, 2, none⟩ c2).setCell ⟨q6, 3, none⟩ c3) := by
  have n3 := h.n3; have n4 := h.n4; have n6 := h.n6
  refine ⟨(((h.lo.other (by omega) _ _).other (by omega) _ _).other (by omega) _ _).other (by omega) _ _, (((h.hi.other (by omega) _ _).other (by omega) _ _).other (by omega) _ _).other (by omega) _ _, ?_, Below.setCell (Below.setCell (Below.setCell (Below.setCell h.b (show w0.heap.size ≤ q6 by omega) _) (show w0.heap.size ≤ q6 by omega) _) (show w0.heap.size ≤ q6 by omega) _) (show w0.heap.size ≤ q6 by omega) _, n3, n4, n6⟩
  rw [hc]
  exact (((ht.set 0 c0 (show 0 < 4 by decide)).set 1 c1 (show 1 < 4 by decide)).set 2 c2 (show 2 < 4 by decide)).set 3 c3 (show 3 < 4 by decide)
theorem CBox.other4 {n q : Nat} {t : TypeId} {cs : Array Value} {wr : World} (h : CBox n t cs wr) (hn : n ≠ q) (c0 c1 c2 c3 : Value) : CBox n t cs ((((wr.setCell ⟨q, 0, none⟩ c0).setCell ⟨q, 1, none⟩ c1).setCell ⟨q, 2, none⟩ c2).setCell ⟨q, 3, none⟩ c3) := (((h.other hn _ _).other hn _ _).other hn _ _).other hn _ _
def OInv (l : List Edg) (w0 : World) (q3 q4 q6 : Nat) (lx ly hx hy : Int) (v : Value) (wr : World) : Prop :=
  ∃ i : Nat, i ≤ l.length ∧ v = .int .i64 (i : Int) ∧ OBox w0 q3 q4 q6 lx ly hx hy (ptsE (l.take i)) wr
def JInv (P : List (Int × Int)) (g : Edg) (nr : Nat) (w0 : World) (q3 q4 q6 : Nat) (lx ly hx hy : Int) (v : Value) (wr : World) : Prop :=
  ∃ j : Nat, j ≤ 2 ∧ v = .int .i64 (j : Int) ∧ OBox w0 q3 q4 q6 lx ly hx hy (P ++ [(g.px, g.py), (g.qx, g.qy)].take j) wr ∧ CBox nr 40 #[.int .i64 g.px, .int .i64 g.py, .int .i64 g.qx, .int .i64 g.qy] wr
def intB : Value → Int
  | .int _ n => n
  | _ => 0
set_option maxHeartbeats 8000000 in
set_option maxRecDepth 100000 in
theorem outbox_walk (a : Option Addr) (l : List Edg) (cap : Nat) (w : World) (hr : RdE a l w) (hI : ∀ g ∈ l, EdgI g) (WK : ∀ w1 : World, w1 = w → Calls Tryz.prog 7 #[] w1 fun e w' => e = .returned (.bool true) ∧ Below w1.heap.size w1 w') (BX : BoxOk) :
    Calls Tryz.prog 5 #[.slice a l.length cap] w fun e w' => e = .returned (.bool true) ∧ Below w.heap.size w w' := by
  have WK_ := Lib.hid WK; have HR := Lib.hid hr; have HR0 := Lib.hid hr
  clear WK hr
  go_enter Tryz.func5, Tryz.ntmps5
  go_wp2_with fail
  refine (WK_.out _ rfl).mono ?_
  rintro e w1 ⟨rfl, b1⟩
  have HR1 := Lib.hid (HR.out.next b1); have HB1 := Lib.hid b1
  clear b1 HR WK_
  by_cases hlen : 60 < l.length
  · have e1 : decide (60 < (l.length : Int)) = true := decide_eq_true (by omega)
    go_wp2_with fail
    go_ret
    exact ⟨rfl, HB1.out⟩
  have e1 : decide (60 < (l.length : Int)) = false := decide_eq_false (by omega)
  have BX_ := Lib.hid (BX a l cap w1 HR1.out hI (by omega))
  clear BX hI
  by_cases h0 : l = []
  ·
    subst h0
    go_wp2_with fail
    refine BX_.out.mono ?_
    rintro e w2 ⟨lx, ly, hx, hy, ok, rfl, hp, b2⟩
    obtain ⟨rfl, rfl, rfl, rfl, rfl⟩ := hp.1 rfl
    have HB2 := Lib.hid (HB1.out.trans (b2.mono HB1.out.size))
    clear b2 hp
    obtain ⟨p1, p2, p3⟩ := boxes_two w2 #[.int .i64 0, .int .i64 0] #[.int .i64 0, .int .i64 0] 40 40
    have x0 := p1.c 0 rfl; have x1 := p1.c 1 rfl; have y0 := p2.c 0 rfl; have y1 := p2.c 1 rfl
    have HB3 := Lib.hid (HB2.out.trans (p3.mono HB2.out.size))
    clear p1 p2 p3
    go_wp2_with fail
    go_ret
    exact ⟨rfl, HB3.out⟩
  have hl0 : 0 < l.length := List.length_pos_iff.2 h0
  go_wp2_with fail
  refine BX_.out.mono ?_
  rintro e w2 ⟨lx, ly, hx, hy, ok, rfl, hp, b2⟩
  obtain ⟨rfl, hin, ⟨h1, h2⟩, h3, h4⟩ := hp.2 h0
  have HIN := Lib.hid hin; have T1 := Lib.hid (tX_of h1); have T2 := Lib.hid (tX_of h2); have T3 := Lib.hid (tY_of h3); have T4 := Lib.hid (tY_of h4)
  have HB2 := Lib.hid (HB1.out.trans (b2.mono HB1.out.size)); have HR2 := Lib.hid (HR1.out.next b2)
  clear b2 hp hin h1 h2 h3 h4 HR1 HB1 BX_ e1 h0
  obtain ⟨p1, p2, p3, p4⟩ := boxes_three w2 #[.int .i64 lx, .int .i64 ly] #[.int .i64 hx, .int .i64 hy] #[.bool false, .bool false, .bool false, .bool false] 40 40 46
  have HO := Lib.hid (show OBox w w2.heap.size (w2.heap.size + 1) (w2.heap.size + 1 + 1) lx ly hx hy (ptsE (l.take 0)) (((w2.alloc (.cells #[.int .i64 lx, .int .i64 ly] 40)).alloc (.cells #[.int .i64 hx, .int .i64 hy] 40)).alloc (.cells #[.bool false, .bool false, .bool false, .bool false] 46)) from ⟨p1, p2, p3, HB2.out.trans (p4.mono HB2.out.size), HB2.out.size, Nat.lt_succ_self _, Nat.lt_succ_self _⟩)
  have HR3 := Lib.hid (HR2.out.next p4)
  clear p1 p2 p3 p4
  have d0 : ((l.length : Int) == 0) = false := beq_eq_false_iff_ne.2 (by omega)
  go_wp2_with fail
  clear d0
  generalize (((w2.alloc (.cells #[.int .i64 lx, .int .i64 ly] 40)).alloc (.cells #[.int .i64 hx, .int .i64 hy] 40)).alloc (.cells #[.bool false, .bool false, .bool false, .bool false] 46)) = w3 at *
  obtain ⟨q6, hq6⟩ : ∃ q6, w2.heap.size + 1 + 1 = q6 := ⟨_, rfl⟩
  obtain ⟨q4, hq4⟩ : ∃ q4, w2.heap.size + 1 = q4 := ⟨_, rfl⟩
  obtain ⟨q3, hq3⟩ : ∃ q3, w2.heap.size = q3 := ⟨_, rfl⟩
  rw [hq6, hq4, hq3] at HO
  rw [hq6, hq4, hq3]
  clear hq6 hq4 hq3 HB2 HR2 HR3
  go_loopw [40] (fun v wr => OInv l w q3 q4 q6 lx ly hx hy v wr) (fun v _ => ((l.length : Int) - intB v).toNat)
  case atStart => exact ⟨0, Nat.zero_le _, rfl, HO.out⟩
  case round =>
    obtain ⟨i, hi, rfl, ho⟩ := hrel
    have HB := Lib.hid ho
    clear ho HO
    by_cases hc : i < l.length
    ·
      have d1 : decide ((i : Int) < (l.length : Int)) = true := decide_eq_true (by omega)
      obtain ⟨g, hg⟩ : ∃ g, l[i]? = some g := ⟨_, List.getElem?_eq_getElem hc⟩
      have hpe := ptsE_take hg
      have hm := ptsE_mem hg
      have HPE := Lib.hid hpe
      have m1 := Lib.hid (HIN.out _ hm.1); have m2 := Lib.hid (HIN.out _ hm.2)
      obtain ⟨bb, off, ha, hcell⟩ := RdE.at (Lay8.rd.next HR0.out HB.out.b) hg
      subst ha
      obtain ⟨c0, c1, c2, c3⟩ := hcell
      have hi0 : (0 : Int) ≤ (i : Int) := by omega
      have hi1 : (i : Int) < (l.length : Int) := by omega
      clear hpe hm hg
      generalize ptsE (l.take i) = P at *
      obtain ⟨gpx, gpy, gqx, gqy⟩ := g
      dsimp only at *
      obtain ⟨k1, k2, k3⟩ := boxes_two wr #[.int .i64 gpx, .int .i64 gpy, .int .i64 gqx, .int .i64 gqy] #[.int .i64 gpx, .int .i64 gpy, .int .i64 gqx, .int .i64 gqy] 42 40
      have HE := Lib.hid k1; have HN := Lib.hid k2; have HB4 := Lib.hid (HB.out.next k3)
      have z0 := k1.c 0 rfl
      clear k1 k2 k3 z0
      have hal := (Below.refl wr.heap.size wr).alloc (Nat.le_refl _) (.cells #[.int .i64 gpx, .int .i64 gpy, .int .i64 gqx, .int .i64 gqy] 42)
      have y := CBox.new wr 42 #[.int .i64 gpx, .int .i64 gpy, .int .i64 gqx, .int .i64 gqy]
      have y0 := y.c 0 rfl; have y1 := y.c 1 rfl; have y2 := y.c 2 rfl; have y3 := y.c 3 rfl
      clear y hal
      go_wp2_with fail
      clear y0 y1 y2 y3 c0 c1 c2 c3
      generalize ((wr.alloc (.cells #[.int .i64 gpx, .int .i64 gpy, .int .i64 gqx, .int .i64 gqy] 42)).alloc (.cells #[.int .i64 gpx, .int .i64 gpy, .int .i64 gqx, .int .i64 gqy] 40)) = w4 at *
      obtain ⟨nr, hnr⟩ : ∃ nr, wr.heap.size + 1 = nr := ⟨_, rfl⟩
      have hq6lt := HB.out.t.lt
      have HNE := Lib.hid (show nr ≠ q6 by omega)
      rw [hnr] at HN
      rw [hnr]
      clear hnr HE hq6lt
      go_loopw [50] (fun v wr => JInv P ⟨gpx, gpy, gqx, gqy⟩ nr w q3 q4 q6 lx ly hx hy v wr) (fun v _ => (2 - intB v).toNat)
      case atStart => exact ⟨0, Nat.zero_le _, rfl, by rw [List.take_zero, List.append_nil]; exact HB4.out, HN.out⟩
      case round =>
        obtain ⟨j, hj, rfl, ho, hn⟩ := hrel
        have HC := Lib.hid ho; have HNN := Lib.hid hn
        clear ho hn HB4 HN
        rcases (show j = 0 ∨ j = 1 ∨ j = 2 by omega) with rfl | rfl | rfl
        ·
          have hb := HC.out
          rw [show P ++ List.take 0 [(gpx, gpy), (gqx, gqy)] = P from by simp] at hb
          have HB5 := Lib.hid hb
          have HT : Hid (tch lx ly hx hy (P ++ [(gpx, gpy)]) = #[.bool (tX lx P || gpx == lx), .bool (tX hx P || gpx == hx), .bool (tY ly P || gpy == ly), .bool (tY hy P || gpy == hy)]) := Lib.hid (tch_snoc lx ly hx hy _ _ _)
          have ht : CBox q6 46 #[.bool (tX lx P), .bool (tX hx P), .bool (tY ly P), .bool (tY hy P)] wr := hb.t
          clear hb
          generalize tX lx P = t0 at *
          generalize tX hx P = t1 at *
          generalize tY ly P = t2 at *
          generalize tY hy P = t3 at *
          have HT0 := Lib.hid ht
          clear ht
          have x0 := HNN.out.c 0 rfl; have x1 := HNN.out.c 1 rfl
          have bz := (Below.refl wr.heap.size wr).alloc (Nat.le_refl _) (.cells #[.int .i64 gpx, .int .i64 gpy] 40)
          have HP6 := Lib.hid (CBox.new wr 40 #[.int .i64 gpx, .int .i64 gpy]); have HB6 := Lib.hid (HB5.out.next bz); have HT6 := Lib.hid (HT0.out.next bz); have HN6 := Lib.hid (HNN.out.next bz)
          clear bz
          go_upto_region 15 with fail
          clear x0 x1
          generalize wr.alloc (.cells #[.int .i64 gpx, .int .i64 gpy] 40) = w6 at *
          have H76 := Lib.hid (show q6 < wr.heap.size from HT0.out.lt)
          generalize wr.heap.size = q7 at *
          obtain ⟨⟨i1, i2⟩, i3, i4⟩ := m1.out
          have d1 : decide (gpx < lx) = false := decide_eq_false (by omega)
          have d2 : decide (hx < gpx) = false := decide_eq_false (by omega)
          have d3 : decide (gpy < ly) = false := decide_eq_false (by omega)
          have d4 : decide (hy < gpy) = false := decide_eq_false (by omega)
          have p0 := HP6.out.c 0 rfl; have p1 := HP6.out.c 1 rfl; have a0 := HB6.out.lo.c 0 rfl; have a1 := HB6.out.lo.c 1 rfl; have b0 := HB6.out.hi.c 0 rfl; have b1 := HB6.out.hi.c 1 rfl
          go_upto_region 17 with fail
          clear d1 d2 d3 d4 i1 i2 i3 i4
          have n3 := HB6.out.n3; have n4 := HB6.out.n4; have n6 := HB6.out.n6
          have f0 := HT6.out.c 0 rfl; have f1 := HT6.out.c 1 rfl; have f2 := HT6.out.c 2 rfl; have f3 := HT6.out.c 3 rfl; have r0 := HT6.out.z 0; have r1 := HT6.out.z 1; have r2 := HT6.out.z 2; have r3 := HT6.out.z 3
          have hnq := HNE.out
          have g7 : ¬ q7 = q6 := by have := H76.out; omega
          have g3 : ¬ q3 = q6 := by omega
          have g4 : ¬ q4 = q6 := by omega
          clear n3 n4 n6
          cases t0 <;> cases t1 <;> cases t2 <;> cases t3
          all_goals (go_wp2_with fail; go_roundw; (case rel => exact ⟨1, by decide, rfl, (HB6.out.touch HT6.out _ _ _ _ HT.out), HN6.out.other4 hnq _ _ _ _⟩); (case measure => simp only [intB]; omega))
        ·
          have hb := HC.out
          rw [show P ++ List.take 1 [(gpx, gpy), (gqx, gqy)] = (P ++ [(gpx, gpy)]) from by simp] at hb
          have HB5 := Lib.hid hb
          have HT : Hid (tch lx ly hx hy (P ++ [(gpx, gpy), (gqx, gqy)]) = #[.bool (tX lx (P ++ [(gpx, gpy)]) || gqx == lx), .bool (tX hx (P ++ [(gpx, gpy)]) || gqx == hx), .bool (tY ly (P ++ [(gpx, gpy)]) || gqy == ly), .bool (tY hy (P ++ [(gpx, gpy)]) || gqy == hy)]) := Lib.hid (by rw [show P ++ [(gpx, gpy), (gqx, gqy)] = (P ++ [(gpx, gpy)]) ++ [(gqx, gqy)] from by simp]; exact tch_snoc lx ly hx hy _ _ _)
          have ht : CBox q6 46 #[.bool (tX lx (P ++ [(gpx, gpy)])), .bool (tX hx (P ++ [(gpx, gpy)])), .bool (tY ly (P ++ [(gpx, gpy)])), .bool (tY hy (P ++ [(gpx, gpy)]))] wr := hb.t
          clear hb
          generalize tX lx (P ++ [(gpx, gpy)]) = t0 at *
          generalize tX hx (P ++ [(gpx, gpy)]) = t1 at *
          generalize tY ly (P ++ [(gpx, gpy)]) = t2 at *
          generalize tY hy (P ++ [(gpx, gpy)]) = t3 at *
          have HT0 := Lib.hid ht
          clear ht
          have x0 := HNN.out.c 2 rfl; have x1 := HNN.out.c 3 rfl
          have bz := (Below.refl wr.heap.size wr).alloc (Nat.le_refl _) (.cells #[.int .i64 gqx, .int .i64 gqy] 40)
          have HP6 := Lib.hid (CBox.new wr 40 #[.int .i64 gqx, .int .i64 gqy]); have HB6 := Lib.hid (HB5.out.next bz); have HT6 := Lib.hid (HT0.out.next bz); have HN6 := Lib.hid (HNN.out.next bz)
          clear bz
          go_upto_region 15 with fail
          clear x0 x1
          generalize wr.alloc (.cells #[.int .i64 gqx, .int .i64 gqy] 40) = w6 at *
          have H76 := Lib.hid (show q6 < wr.heap.size from HT0.out.lt)
          generalize wr.heap.size = q7 at *
          obtain ⟨⟨i1, i2⟩, i3, i4⟩ := m2.out
          have d1 : decide (gqx < lx) = false := decide_eq_false (by omega)
          have d2 : decide (hx < gqx) = false := decide_eq_false (by omega)
          have d3 : decide (gqy < ly) = false := decide_eq_false (by omega)
          have d4 : decide (hy < gqy) = false := decide_eq_false (by omega)
          have p0 := HP6.out.c 0 rfl; have p1 := HP6.out.c 1 rfl; have a0 := HB6.out.lo.c 0 rfl; have a1 := HB6.out.lo.c 1 rfl; have b0 := HB6.out.hi.c 0 rfl; have b1 := HB6.out.hi.c 1 rfl
          go_upto_region 17 with fail
          clear d1 d2 d3 d4 i1 i2 i3 i4
          have n3 := HB6.out.n3; have n4 := HB6.out.n4; have n6 := HB6.out.n6
          have f0 := HT6.out.c 0 rfl; have f1 := HT6.out.c 1 rfl; have f2 := HT6.out.c 2 rfl; have f3 := HT6.out.c 3 rfl; have r0 := HT6.out.z 0; have r1 := HT6.out.z 1; have r2 := HT6.out.z 2; have r3 := HT6.out.z 3
          have hnq := HNE.out
          have g7 : ¬ q7 = q6 := by have := H76.out; omega
          have g3 : ¬ q3 = q6 := by omega
          have g4 : ¬ q4 = q6 := by omega
          clear n3 n4 n6
          cases t0 <;> cases t1 <;> cases t2 <;> cases t3
          all_goals (go_wp2_with fail; go_roundw; (case rel => exact ⟨2, by decide, rfl, (HB6.out.touch HT6.out _ _ _ _ HT.out), HN6.out.other4 hnq _ _ _ _⟩); (case measure => simp only [intB]; omega))
        · have d1 : decide ((2 : Int) < 2) = false := by decide
          have hb := HC.out
          rw [show P ++ List.take 2 [(gpx, gpy), (gqx, gqy)] = P ++ [(gpx, gpy), (gqx, gqy)] from rfl, ← HPE.out] at hb
          have HB5 := Lib.hid hb
          clear hb
          go_wp2_with fail
          go_roundw
          case rel => exact ⟨i + 1, by omega, by push_cast; rfl, HB5.out⟩
          case measure => simp only [intB]; omega
    ·
      have d1 : decide ((i : Int) < (l.length : Int)) = false := decide_eq_false (by omega)
      have hit : l.take i = l := List.take_of_length_le (by omega)
      have ht : CBox q6 46 #[.bool true, .bool true, .bool true, .bool true] wr := by have h := HB.out.t; rw [hit] at h; unfold tch at h; rw [T1.out, T2.out, T3.out, T4.out] at h; exact h
      have f0 := ht.c 0 rfl; have f1 := ht.c 1 rfl; have f2 := ht.c 2 rfl; have f3 := ht.c 3 rfl
      clear ht hit
      go_wp2_with fail
      go_ret
      exact ⟨rfl, HB.out.b⟩
end Go.Proofs.YtbjabclgekkpaaaGreatDoor
