/-
  The contract of package norm's bring.
-/
import Derived.Test.YtgiibcnakiggaaaDoorNormMore
import Derived.Test.YtgiibcnakiggaaaDoorPathRd
namespace Go.Proofs.YtgiibcnakiggaaaDoor
open Go.RowKit Go.Shelf

/-- The slices of a command's numbers have as much room as they are long. -/
def CapC (a : Option Addr) (l : List Cmd) (w : World) : Prop :=
  ∀ b off, a = some ⟨b, off, none⟩ → ∀ i, i < l.length → ∀ aa n ac, w.cell? ⟨b, off + i * 2 + 1, none⟩ = some (.slice aa n ac) → n ≤ ac
def BringPost (RES : List Seg × Int) (w : World) (e : Ending) (W' : World) : Prop :=
  ∃ a cap, e = .returned (.tuple #[.slice a RES.1.length cap, .int .i64 RES.2]) ∧ RdS a RES.1 W' ∧ RES.1.length ≤ cap ∧ Below w.heap.size w W'
theorem ltr_def (l : List Cmd) (i : Nat) : (⟨ltr l i, ars l i⟩ : Cmd) = l.getD i ⟨0, []⟩ := rfl
theorem drop_cons7 {l : List Cmd} {i : Nat} (h : i < l.length) : l.drop i = ⟨ltr l i, ars l i⟩ :: l.drop (i + 1) := by
  rw [List.drop_eq_getElem_cons h, ltr_def]; simp [List.getD, List.getElem?_eq_getElem h]
def BInv (l : List Cmd) (RES : List Seg × Int) (w W0 : World) (T : Nat) (u6 u7 u13 : Value) (wr : World) : Prop :=
  ∃ (i : Nat) (v : Value) (s : NS), u6 = .int .i64 (s.out.length : Int) ∧ u7 = .int .i64 (-1) ∧ u13 = .int .i64 (i : Int) ∧ i ≤ l.length ∧ s.out.length ≤ 2 * i ∧ (i ≠ 0 → s.out ≠ []) ∧ StAt w.heap.size v s wr ∧ Segs (w.heap.size + 1) v s.out wr ∧ NOk s ∧ KepS w.heap.size W0 wr ∧ wr.heap[T]? = some (.cells tabV 74 (0, 0)) ∧ Hid (bringL s (l.drop i) i = RES)
set_option maxHeartbeats 8000000 in
set_option maxRecDepth 100000 in
theorem bring_any (a : Option Addr) (l : List Cmd) (cap : Nat) (w : World) (hl : l.length ≤ 1000) (hA : RdC a l w) (hC : CapC a l w) (hW : ∀ x ∈ l, CmdW x) (h0 : ∀ x r, l = x :: r → capL x.letter = 77) :
    Calls Tryd.prog 26 #[.slice a l.length cap] w (BringPost (bringL NS.zero l 0) w) := by
  have ST := Lib.hid (fun w => steps_any7 w)
  have HA := Lib.hid hA
  have HC := Lib.hid hC
  have HW := Lib.hid hW
  have H0 := Lib.hid h0
  obtain ⟨RES, hR⟩ : ∃ R, bringL NS.zero l 0 = R := ⟨_, rfl⟩
  rw [hR]
  have HR0 := Lib.hid (show bringL NS.zero (l.drop 0) 0 = RES from hR)
  have b1 := (Below.refl w.heap.size w).alloc (Nat.le_refl _) (.cells #[.slice none 0 0, .int .i64 0, .int .i64 0, .int .i64 0, .int .i64 0, .bool false, .int .i64 0, .int .i64 0] 72)
  have S1 : StAt w.heap.size (.slice none 0 0) NS.zero (w.alloc (.cells #[.slice none 0 0, .int .i64 0, .int .i64 0, .int .i64 0, .int .i64 0, .bool false, .int .i64 0, .int .i64 0] 72)) := World.alloc_heap_new w _
  have HS1 := Lib.hid S1
  have HB1 := Lib.hid b1
  clear hA hC hW h0 hR b1 S1
  go_enter Tryd.func26, Tryd.ntmps26
  go_wp2_with fail
  generalize hW1 : w.alloc (.cells #[.slice none 0 0, .int .i64 0, .int .i64 0, .int .i64 0, .int .i64 0, .bool false, .int .i64 0, .int .i64 0] 72) = W1 at *
  refine (ST.out _).mono ?_
  rintro e W2 ⟨rfl, b2⟩
  have HS2 := Lib.hid (HS1.out.next b2)
  have HB2 := Lib.hid (HB1.out.trans (b2.mono HB1.out.size))
  have hq1 := HS1.out.lt
  have hsz := b2.size
  clear b2 HS1 HB1 ST hW1
  go_wp2_with (refine wpList_store_row (by rfl) 74 (.tmp 5) (.tmp 10) (by rfl) W2.heap.size tabV (by rfl) (by rfl) 74 nilV (World.alloc_heap_new W2 _) (by kernel_rfl) (by rfl) (by kernel_rfl) ?_)
  generalize hW3 : World.setRow _ _ _ = W3
  have e3 : W3 = W2.alloc (.cells tabV 74) := hW3.symm.trans (World.setRow_alloc_new W2 nilV tabV 74)
  have b3 : Below W2.heap.size W2 W3 := by rw [e3]; exact (Below.refl _ W2).alloc (Nat.le_refl _) _
  have HS3 := Lib.hid (HS2.out.next b3)
  have HB3 := Lib.hid (HB2.out.trans (b3.mono HB2.out.size))
  have HT3 := Lib.hid (show W3.heap[W2.heap.size]? = some (.cells tabV 74 (0, 0)) by rw [e3]; exact World.alloc_heap_new W2 _)
  have hTq : W2.heap.size ≠ w.heap.size := by have := HS2.out.lt; omega
  have hqT : w.heap.size < W2.heap.size := HS2.out.lt
  generalize W2.heap.size = T at *
  clear b3 e3 hW3 HS2 HB2
  have CAP := Lib.hid (fun (c : Nat) (h : cntL c ≠ 99) w => capital_any c h w)
  go_loopw [6, 7, 13] (fun u6 u7 u13 wr => BInv l RES w W3 T u6 u7 u13 wr) (fun _ _ u13 _ => l.length - (intOf u13).toNat)
  case atStart => exact ⟨0, .slice none 0 0, NS.zero, rfl, rfl, rfl, Nat.zero_le _, by decide, fun h => absurd rfl h, HS3.out, Segs.nil _ _, nok_zero, KepS.refl _ _, HT3.out, HR0⟩
  case round =>
    clear HS3 HT3 HR0
    obtain ⟨i, v, s, rfl, rfl, rfl, hi, hso, hsn, hst, hsg, hok, hk, hT, hE⟩ := hrel
    have HB := Lib.hid (HB3.out.trans (hk.below (by have := HB3.out.size; omega)))
    by_cases hlt : i < l.length
    · obtain ⟨b, off, rfl, hb, hcs⟩ := HA.out.pos (by omega)
      obtain ⟨aa, ac, A⟩ := hcs i hlt
      have hcap := HC.out b off rfl i hlt aa _ ac A.c1
      have hw := HW.out _ (List.mem_of_getElem? (at_some l hlt))
      have h0 : capL (ltr l i) ≠ 77 → s.out ≠ [] := fun h => hsn fun e => by
        subst e
        exact h (H0.out _ _ (drop_cons7 hlt))
      have hE' := hE.out
      rw [drop_cons7 hlt] at hE'
      unfold bringL at hE'
      have HE := Lib.hid hE'
      have TK := took_take hok _ hw h0
      have x0 := (HB.out.cell (p := ⟨b, off + i * 2, none⟩) (by exact hb)).trans A.c0
      have x1 := (HB.out.cell (p := ⟨b, off + i * 2 + 1, none⟩) (by exact hb)).trans A.c1
      have AR : ArgsAt w.heap.size aa (ars l i) wr := by
        rcases A.row with h | ⟨b', o', h1, h2, h3⟩
        · exact .inl h
        · exact .inr ⟨b', o', h1, h2, fun j hj => (HB.out.cell (p := ⟨b', o' + j, none⟩) (by exact h2)).trans (h3 j hj)⟩
      obtain ⟨f, hf1, hf2, hf3, hf4⟩ := tab_at (ltr l i) hw.2.1
      have hlen : cntL (ltr l i) = (ars l i).length := hw.1
      have tk := Lib.hid (fun W (h1 : StAt w.heap.size v s W) (h2 : Segs (w.heap.size + 1) v s.out W) (h3 : ArgsAt w.heap.size aa (ars l i) W) (h4 : w.heap.size + 1 ≤ W.heap.size) => take_any7 f (ars l i).length w.heap.size (w.heap.size + 1) v s (ltr l i) aa ac (ars l i) W (by rw [← hlen]; exact hf2) h1 h2 (by omega) h4 (by omega) hok rfl (fun j => hw.at j) h3 hw.2.1 h0 hcap)
      have hltr := A.lt
      have hltI : (i : Int) < (l.length : Int) := by omega
      have CA := Lib.hid (fun w => CAP.out (ltr l i) hw.2.1 w)
      obtain ⟨s4, hs4⟩ : ∃ s4, s4 = takeM s ⟨ltr l i, ars l i⟩ := ⟨_, rfl⟩
      have e65 : IntKind.u8.wrap ((capL (ltr l i) : Int) - 65) = ((capL (ltr l i) - 65 : Nat) : Int) := by rw [show (capL (ltr l i) : Int) - 65 = ((capL (ltr l i) - 65 : Nat) : Int) by omega]; exact IntWalk.u8_in _ (by omega)
      have hne : s4.out ≠ [] := by
        obtain ⟨x, h1, h2, _⟩ := TK.out
        rw [hs4, h1]; intro e
        have := congrArg List.length e
        simp at this; rw [this.2] at h2; exact absurd h2 (by decide)
      have hln : s4.out.length ≤ s.out.length + 2 ∧ s.out.length ≤ s4.out.length := by
        obtain ⟨x, h1, h2, h3⟩ := TK.out
        rw [hs4, h1, List.length_append]; omega
      have hpre : s4.out.take s.out.length = s.out := by
        obtain ⟨x, h1, _⟩ := TK.out
        rw [hs4, h1, List.take_left']; rfl
      have HTK := Lib.hid TK
      rw [← hs4] at HTK
      have HE' : Hid ((if inB (lastM s4) then bringL s4 (l.drop (i + 1)) (i + 1) else (s.out, (i : Int))) = RES) := by rw [hs4]; exact HE.out
      have HPRE := Lib.hid hpre
      have tk' := Lib.hid (show ∀ W, StAt w.heap.size v s W → Segs (w.heap.size + 1) v s.out W → ArgsAt w.heap.size aa (ars l i) W → w.heap.size + 1 ≤ W.heap.size → Calls Tryd.prog 36 #[.pointer (some ⟨w.heap.size, 0, none⟩), .agg #[.int .u8 (ltr l i : Int), .slice aa (ars l i).length ac], .func (.func f) #[] #[]] W (NPost w.heap.size (w.heap.size + 1) s4 W) by rw [hs4]; exact tk.out)
      have bb : Below wr.heap.size wr (wr.alloc (.cells #[.int .u8 (ltr l i : Int), .slice aa (ars l i).length ac] 34)).drew := ((Below.refl _ wr).alloc (Nat.le_refl _) _).drew
      have HSd := Lib.hid (hst.next bb)
      have HGd := Lib.hid (hsg.next bb)
      have HKd := Lib.hid (hk.trans (KepS.of_below bb))
      have HAd := Lib.hid (AR.next bb (Nat.le_of_lt hst.lt))
      have hTl : T < wr.heap.size := (Array.getElem?_eq_some_iff.1 hT).1
      have HTd := Lib.hid (show (wr.alloc (.cells #[.int .u8 (ltr l i : Int), .slice aa (ars l i).length ac] 34)).drew.heap[T]? = some (.cells tabV 74 (0, 0)) from (bb.block T hTl).trans hT)
      have HBd : Hid (BoxC7 wr.heap.size (ltr l i) (.slice aa (ars l i).length ac) (wr.alloc (.cells #[.int .u8 (ltr l i : Int), .slice aa (ars l i).length ac] 34)).drew) := World.alloc_heap_new wr _
      have hRd : w.heap.size + 1 ≤ (wr.alloc (.cells #[.int .u8 (ltr l i : Int), .slice aa (ars l i).length ac] 34)).drew.heap.size := Nat.le_trans (Nat.succ_le_of_lt hst.lt) bb.size
      have hqw : w.heap.size < wr.heap.size := hst.lt
      have hCq : wr.heap.size ≠ w.heap.size := by omega
      have tcell : ∀ W : World, W.heap[T]? = some (.cells tabV 74 (0, 0)) → W.cell? ⟨T, capL (ltr l i) - 65, none⟩ = some (.func (.func f) #[] #[]) := fun W h => by unfold World.cell?; rw [h]; exact hf1
      have td := tcell wr hT
      have TC := Lib.hid tcell
      have hcl : capL (ltr l i) - 65 < 26 := hf4
      have hpos65 : (0 : Int) ≤ ((capL (ltr l i) - 65 : Nat) : Int) ∧ ((capL (ltr l i) - 65 : Nat) : Int) < 26 := by omega
      clear hE hE' HE TK hst hsg hk hT AR A hcs hpre tk tcell hs4 h0 hw hf1 hf2 hf3
      generalize hcap65 : capL (ltr l i) - 65 = cx at *
      generalize hcc : (capL (ltr l i) : Int) = cz at *
      clear hcap65 hcc
      go_wp2_with fail
      have hW6 : Below wr.heap.size wr (wr.alloc (.cells #[.int .u8 (ltr l i : Int), .slice aa (ars l i).length ac] 34)) := (Below.refl _ wr).alloc (Nat.le_refl _) _
      generalize hW5 : wr.alloc (.cells #[.int .u8 (ltr l i : Int), .slice aa (ars l i).length ac] 34) = W5 at *
      have d0 : W5.cell? ⟨wr.heap.size, 0, none⟩ = some (.int .u8 (ltr l i : Int)) := HBd.out.c0
      have d1 : W5.cell? ⟨wr.heap.size, 1, none⟩ = some (.slice aa (ars l i).length ac) := HBd.out.c1
      have d2 : W5.cell? ⟨T, cx, none⟩ = some (.func (.func f) #[] #[]) := TC.out _ HTd.out
      clear td x0 x1 hW5 hW6 bb
      go_region_held3 (fun w' => w'.cell? ⟨wr.heap.size, 0, none⟩ = some (.int .u8 (ltr l i : Int)) ∧ w'.cell? ⟨wr.heap.size, 1, none⟩ = some (.slice aa (ars l i).length ac) ∧ w'.cell? ⟨T, cx, none⟩ = some (.func (.func f) #[] #[])) (first | (simp [go_sem, *]; done) | (exact ⟨by assumption, by assumption, by assumption⟩))
        (first
          | (go_at_call 34; (with_reducible refine (CA.out _).mono ?_); rintro e wc ⟨rfl, rfl⟩)
          | (go_at_call 36; (with_reducible refine (tk'.out _ HSd.out HGd.out HAd.out hRd).mono ?_); rintro e wF HF; have FS := Lib.hid HF.2.1; have FK := Lib.hid (HKd.out.trans HF.2.2); have fB : BoxC7 wr.heap.size (ltr l i) (.slice aa (ars l i).length ac) wF := HF.2.2.keeps HBd.out (by decide) hCq; have FT := Lib.hid (HF.2.2.keeps HTd.out (by decide) hTq); have f0 := fB.c0; have f1 := fB.c1; have f2 := TC.out _ FT.out; have hee := HF.1; clear HF fB; subst hee))
      all_goals
        clear f0 f1 f2 d0 d1 d2 HSd HGd HKd HAd HTd HBd TC tk' CA
        obtain ⟨v4, r1, r2⟩ := FS.out
        have S4 := Lib.hid r1
        have G4 := Lib.hid r2
        have hR4 : w.heap.size + 1 ≤ wF.heap.size := r1.lt
        have LA := Lib.hid (last_any7 w.heap.size (w.heap.size + 1) v4 s4 wF r1 r2 hne (by omega))
        have IB := Lib.hid (fun w => inBound_any (lastM s4) w HTK.out.seg)
        clear r1 r2 FS
        go_wp2_with fail
        refine LA.out.mono ?_
        rintro e w5 ⟨rfl, b5⟩
        have S5 := Lib.hid (S4.out.next b5)
        have G5 := Lib.hid (G4.out.next b5)
        have K5 := Lib.hid (FK.out.trans (KepS.of_below b5))
        have T5 := Lib.hid ((b5.block T (Array.getElem?_eq_some_iff.1 FT.out).1).trans FT.out)
        clear b5 S4 G4 FK FT LA
        go_wp2_with fail
        refine (IB.out _).mono ?_
        rintro e w6 ⟨rfl, b6⟩
        have S6 := Lib.hid (S5.out.next b6)
        have G6 := Lib.hid (G5.out.next b6)
        have K6 := Lib.hid (K5.out.trans (KepS.of_below b6))
        have T6 := Lib.hid ((b6.block T (Array.getElem?_eq_some_iff.1 T5.out).1).trans T5.out)
        clear b6 S5 G5 K5 T5 IB
        obtain ⟨a4, cap4, rfl, hrd4, hcap4⟩ := G6.out.reads
        have c40 := S6.out.c0
        by_cases hin : inB (lastM s4)
        · have hE6 := HE'.out
          rw [if_pos hin] at hE6
          have HE6 := Lib.hid hE6
          have hok4 := HTK.out.ok hin
          rw [decide_eq_true hin]
          clear hrd4 hcap4 HE' hE6 HTK HPRE
          go_wp2_with fail
          go_roundw
          case rel => exact ⟨i + 1, .slice a4 s4.out.length cap4, s4, rfl, rfl, by go_num, by omega, by omega, fun _ => hne, S6.out, G6.out, hok4, K6.out, T6.out, HE6⟩
          case measure => simp [intOf]; omega
        · have hE6 := HE'.out
          rw [if_neg hin] at hE6
          rw [decide_eq_false hin]
          have hkc : (s.out.length : Int) ≤ (cap4 : Int) := by omega
          have RD := Lib.hid (hrd4.take s.out.length)
          rw [HPRE.out] at RD
          have BB := Lib.hid (HB3.out.trans (K6.out.below (by have := HB3.out.size; omega)))
          subst hE6
          clear hrd4 hcap4 HE' HTK HPRE S6 G6 K6 T6
          go_wp2_with fail
          go_ret2
          exact ⟨a4, s.out.length, rfl, RD.out, Nat.le_refl _, BB.out⟩
    · have hil : i = l.length := by omega
      have hE' := hE.out
      rw [hil, List.drop_length] at hE'
      unfold bringL at hE'
      subst hE'
      obtain ⟨a4, cap4, rfl, hrd4, hcap4⟩ := hsg.reads
      have c40 := hst.c0
      have hkc : (s.out.length : Int) ≤ (cap4 : Int) := by omega
      have hnl : ¬ (i : Int) < (l.length : Int) := by omega
      have RD := Lib.hid hrd4
      clear hE hst hsg hk hT hrd4 hcap4
      go_wp2_with fail
      go_ret2
      exact ⟨a4, s.out.length, rfl, RD.out, Nat.le_refl _, HB.out⟩
end Go.Proofs.YtgiibcnakiggaaaDoor
