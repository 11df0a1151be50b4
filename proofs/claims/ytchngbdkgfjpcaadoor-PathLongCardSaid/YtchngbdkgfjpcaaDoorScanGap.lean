/-
  The contracts of package scan's Blanks and Gap: loops, and a place that is set back by a deferred function.
-/
import Derived.Test.YtchngbdkgfjpcaaDoorScanRd
import Derived.Test.YtchngbdkgfjpcaaDoorDecFar
import Derived.Defers
namespace Go.Proofs.YtchngbdkgfjpcaaDoor
open Go.RowKit Go.Shelf

theorem gN_blank : 1 < gN := of_decide_eq_true (by kernel_rfl)
theorem Blks.below {w w' : World} {B : Nat} (h : Blks w) (t : Below B w w') (hB : gN ≤ B) : Blks w' := fun i hi => by
  rw [t.cell (p := ⟨1, i, none⟩) (Nat.lt_of_lt_of_le gN_blank hB)]; exact h i hi
theorem Blks.turned {w w' : World} {b : Nat} (h : Blks w) (t : Turned b w w') (hb : gN ≤ b) (hw : gN ≤ w.heap.size) : Blks w' := h.below (t.below hb hw) (Nat.le_refl _)
/-- The place of a reader, off memory. -/
def plc (b : Nat) (w : World) : Nat := match w.cell? ⟨b, 1, none⟩ with
  | some (.int _ n) => n.toNat
  | _ => 0
theorem Rdr.plc {b : Nat} {s : ByteArray} {k : Nat} {w : World} (H : Rdr b s k w) : plc b w = k := by
  unfold Go.Proofs.YtchngbdkgfjpcaaDoor.plc; rw [H.c1]; simp
theorem headBl (s : ByteArray) (k : Nat) : headIs isBl (s.data.toList.drop k) = (decide (k < s.size) && isBlN (pk s k)) := by
  by_cases h : k < s.size
  · rw [drop_cons s k h, pk_in h, decide_eq_true h]; rfl
  · rw [List.drop_of_length_le (by simp; exact Nat.le_of_not_lt h), decide_eq_false h]; rfl
theorem headCm (s : ByteArray) (k : Nat) : headIs isCm (s.data.toList.drop k) = (decide (k < s.size) && pk s k == 44) := by
  by_cases h : k < s.size
  · rw [drop_cons s k h, pk_in h, decide_eq_true h]; rfl
  · rw [List.drop_of_length_le (by simp; exact Nat.le_of_not_lt h), decide_eq_false h]; rfl

def BlInv (b : Nat) (s : ByteArray) (a : Nat) (w : World) (s4 s5 : Value) (wr : World) : Prop :=
  ∃ k : Nat, a ≤ k ∧ k ≤ s.size ∧ s4 = .int .u8 (pk s k : Int) ∧ s5 = .bool (decide (k < s.size)) ∧ Rdr b s k wr ∧ Turned b w wr ∧ Hid (a + blk (s.data.toList.drop a) = k + blk (s.data.toList.drop k))
theorem Blanks_any (b : Nat) (s : ByteArray) (a : Nat) (w : World) (H : Rdr b s a w) (hs : s.size ≤ maxLen) (ha : a ≤ s.size) (T : Blks w) (hb : gN ≤ b) :
    Calls Tryd.prog 37 #[.pointer (some ⟨b, 0, none⟩)] w fun e w' => e = .returned (.int .i64 (blk (s.data.toList.drop a) : Int)) ∧ Turned b w w' ∧ Rdr b s (a + blk (s.data.toList.drop a)) w' := by
  have P := Lib.hid (fun k w H hk => Peek_any b s k w H hs hk)
  unfold PeekPost at P
  have BL := Lib.hid (fun k w (T : Blks w) => blank_any (pk s k) w (pk_lt s k) T)
  have hs' : s.size ≤ 9223372036854775807 := hs
  have HT := Lib.hid T
  have HR := Lib.hid H
  have c1 := H.c1
  have hw : gN ≤ w.heap.size := by have := H.lt; omega
  clear T H hs
  go_enter Tryd.func37, Tryd.ntmps37
  go_wp2_with fail
  refine (P.out a _ HR.out ha).mono ?_
  rintro e w1 ⟨rfl, b1, R1⟩
  have HR1 := Lib.hid R1
  have B1 := Lib.hid (Turned.of_below (b := b) b1)
  clear R1 b1 c1 HR
  go_wp2_with fail
  go_loopw [4, 5] (fun s4 s5 wr => BlInv b s a w s4 s5 wr) (fun _ _ wr => s.size - plc b wr)
  case atStart => exact ⟨a, Nat.le_refl _, ha, rfl, rfl, HR1.out, B1.out, Lib.hid rfl⟩
  case round =>
    clear HR1 B1
    obtain ⟨k, hak, hk, rfl, rfl, R, B, hr⟩ := hrel
    have HR := Lib.hid R
    have HB := Lib.hid B
    have hd := headBl s k
    have c1 := R.c1
    have z1 := R.z1
    have HM := Lib.hid R.plc
    have T1 := Lib.hid (HT.out.turned B hb hw)
    clear R B
    by_cases hlt : k < s.size
    · have BK := Lib.hid (BL.out k)
      rw [decide_eq_true hlt] at hd ⊢
      rw [Bool.true_and] at hd
      have e1 : IntKind.i64.wrap ((k : Int) + 1) = ((k + 1 : Nat) : Int) := by rw [IntWalk.i64_in _ (by omega)]; omega
      by_cases hbl : isBlN (pk s k) = true
      · rw [hbl] at hd BK
        have HD := Lib.hid (blk_pos _ hd)
        rw [List.drop_drop] at HD
        clear hd hbl
        go_wp2_with fail
        refine (BK.out _ T1.out).mono ?_
        rintro e w2 ⟨rfl, rfl⟩
        go_wp2_with fail
        have R2 := Lib.hid (HR.out.set (j := k + 1))
        have B2 := Lib.hid (HB.out.set 1 (.int .i64 ((k + 1 : Nat) : Int)))
        refine (P.out (k + 1) _ R2.out (by omega)).mono ?_
        rintro e w3 ⟨rfl, b3, R3⟩
        have HR3 := Lib.hid R3
        have B3 := Lib.hid (B2.out.trans (Turned.of_below b3))
        clear R3 b3
        go_wp2_with fail
        go_roundw
        case rel => exact ⟨k + 1, by omega, by omega, rfl, rfl, HR3.out, B3.out, Lib.hid (by rw [hr.out, HD.out]; omega)⟩
        case measure => rw [HR3.out.plc, HM.out]; omega
      · rw [Bool.not_eq_true] at hbl
        rw [hbl] at hd BK
        have HD := Lib.hid (blk_zero _ hd)
        have e2 : IntKind.i64.wrap ((k : Int) - (a : Int)) = ((k - a : Nat) : Int) := by rw [IntWalk.i64_in _ (by omega)]; omega
        clear hd hbl
        go_wp2_with fail
        refine (BK.out _ T1.out).mono ?_
        rintro e w2 ⟨rfl, rfl⟩
        go_wp2_with fail
        go_ret
        have hr' := hr.out
        rw [HD.out] at hr'
        have e3 : blk (s.data.toList.drop a) = k - a := by omega
        rw [e3, show a + (k - a) = k from by omega]
        exact ⟨rfl, HB.out, HR.out⟩
    · rw [decide_eq_false hlt] at hd ⊢
      rw [Bool.false_and] at hd
      have HD := Lib.hid (blk_zero _ hd)
      have e2 : IntKind.i64.wrap ((k : Int) - (a : Int)) = ((k - a : Nat) : Int) := by rw [IntWalk.i64_in _ (by omega)]; omega
      clear hd
      go_wp2_with fail
      go_ret
      have hr' := hr.out
      rw [HD.out] at hr'
      have e3 : blk (s.data.toList.drop a) = k - a := by omega
      rw [e3, show a + (k - a) = k from by omega]
      exact ⟨rfl, HB.out, HR.out⟩

/-- The deferred function: it sets the reader to the saved place. -/
theorem gapBack (b p q : Nat) (s : ByteArray) (k j : Nat) (u : FrameMode) (w : World) (hp : w.cell? ⟨p, 0, none⟩ = some (.int .i64 (j : Int))) (hq : w.cell? ⟨q, 0, none⟩ = some (.pointer (some ⟨b, 0, none⟩))) (H : Rdr b s k w) :
    CallsD Tryd.prog 63 #[.pointer (some ⟨p, 0, none⟩), .pointer (some ⟨q, 0, none⟩)] u w fun e u' w' => u' = u ∧ (e = .returned (.tuple #[]) ∧ w' = w.setCell ⟨b, 1, none⟩ (.int .i64 (j : Int))) := by
  have z1 := H.z1
  have c1 := H.c1
  clear H
  go_enter_d Tryd.func63, Tryd.ntmps63
  go_wp2
  go_end0
  exact ⟨rfl, rfl⟩

/-- The two boxes: the pointer to the reader, the saved place. -/
structure Boxes (b p : Nat) (j : Nat) (w : World) : Prop where
  ptr : w.heap[p]? = some (.cells #[.pointer (some ⟨b, 0, none⟩)] 61)
  sav : w.heap[p + 1]? = some (.cells #[.int .i64 (j : Int)] 3)
theorem Boxes.c0 {b p j : Nat} {w : World} (H : Boxes b p j w) : w.cell? ⟨p, 0, none⟩ = some (.pointer (some ⟨b, 0, none⟩)) := by
  have := H.ptr; simp [World.cell?, this]
theorem Boxes.c1 {b p j : Nat} {w : World} (H : Boxes b p j w) : w.cell? ⟨p + 1, 0, none⟩ = some (.int .i64 (j : Int)) := by
  have := H.sav; simp [World.cell?, this]
theorem Boxes.z1 {b p j : Nat} {w : World} (H : Boxes b p j w) : w.frozen? ⟨p + 1, 0, none⟩ = false := by
  have := H.sav; simp [World.frozen?, this]
theorem Boxes.lt {b p j : Nat} {w : World} (H : Boxes b p j w) : p + 1 < w.heap.size := (Array.getElem?_eq_some_iff.1 H.sav).1
theorem Boxes.turned {b p j : Nat} {w w' : World} (H : Boxes b p j w) (t : Turned b w w') (hp : b < p) : Boxes b p j w' := by
  have := H.lt
  exact ⟨by rw [t.block p (by omega) (by omega)]; exact H.ptr, by rw [t.block (p + 1) (by omega) (by omega)]; exact H.sav⟩
theorem Boxes.save {b p j i : Nat} {w : World} (H : Boxes b p j w) : Boxes b p i (w.setCell ⟨p + 1, 0, none⟩ (.int .i64 (i : Int))) := by
  refine ⟨?_, ?_⟩
  · rw [Below.heap_setCell _ _ _ _ (by show p ≠ p + 1; omega)]; exact H.ptr
  · simp only [World.setCell, Array.getElem?_modify, H.sav]
    simp
theorem Boxes.new (b a : Nat) (w : World) : Boxes b w.heap.size a ((w.alloc (.cells #[.pointer (some ⟨b, 0, none⟩)] 61)).alloc (.cells #[.int .i64 (a : Int)] 3)) := by
  refine ⟨?_, ?_⟩
  · rw [Below.heap_alloc _ _ _ (by simp)]
    show (w.heap.push _)[w.heap.size]? = _
    rw [Array.getElem?_push, if_pos rfl]
  · show ((w.heap.push _).push _)[w.heap.size + 1]? = _
    rw [Array.getElem?_push, if_pos (by simp)]
theorem Rdr.other {b q o : Nat} {s : ByteArray} {k : Nat} {w : World} {v : Value} (H : Rdr b s k w) (hn : b ≠ q) : Rdr b s k (w.setCell ⟨q, o, none⟩ v) := by
  unfold Rdr at *
  rw [Below.heap_setCell _ _ _ _ (by exact hn)]; exact H
/-- The saved place, off memory. -/
def savd (p : Nat) (w : World) : Nat := match w.cell? ⟨p + 1, 0, none⟩ with
  | some (.int _ n) => n.toNat
  | _ => 0
theorem Boxes.savd {b p j : Nat} {w : World} (H : Boxes b p j w) : savd p w = j := by
  unfold Go.Proofs.YtchngbdkgfjpcaaDoor.savd; rw [H.c1]; simp
/-- Behind the loop: the saved place, and whether it lies behind. -/
theorem gap_fin {a j g : Nat} (h : a + g = j) : decide (a < j) = decide (0 < g) := by
  by_cases hg : 0 < g
  · rw [decide_eq_true hg, decide_eq_true (by omega)]
  · rw [decide_eq_false hg, decide_eq_false (by omega)]
def GapInv (b : Nat) (s : ByteArray) (a : Nat) (w : World) (s5 s6 s7 : Value) (wr : World) : Prop :=
  ∃ j c : Nat, a ≤ j ∧ j ≤ s.size ∧ c ≤ 1 ∧ s5 = .int .i64 (c : Int) ∧ s6 = .int .u8 (pk s j : Int) ∧ s7 = .bool (decide (j < s.size)) ∧ Rdr b s (stp s j) wr ∧ Boxes b w.heap.size j wr ∧ Turned b w wr ∧ Hid (a + gap 0 (s.data.toList.drop a) = j + gap c (s.data.toList.drop j))

theorem Gap_any (b : Nat) (s : ByteArray) (a : Nat) (w : World) (H : Rdr b s a w) (hs : s.size ≤ maxLen) (ha : a ≤ s.size) (T : Blks w) (hb : gN ≤ b) :
    Calls Tryd.prog 55 #[.pointer (some ⟨b, 0, none⟩)] w fun e w' => e = .returned (.bool (decide (0 < gap 0 (s.data.toList.drop a)))) ∧ Turned b w w' ∧ Rdr b s (a + gap 0 (s.data.toList.drop a)) w' := by
  have P := Lib.hid (fun k w H hk => rtake_any b s k w H hs hk)
  unfold RTakePost at P
  have BL := Lib.hid (fun k w (T : Blks w) => blank_any (pk s k) w (pk_lt s k) T)
  have hs' : s.size ≤ 9223372036854775807 := hs
  have HT := Lib.hid T
  have HR := Lib.hid H
  have c1 := H.c1
  have hlt := H.lt
  have hw : gN ≤ w.heap.size := by have := H.lt; omega
  have hmf : ∀ (fn : Fn) (first cap : Array Value) (w : World), (Instr.makeFunc fn first cap).run Tryd.prog w = .ok (.func fn first cap) w := fun _ _ _ _ => rfl
  clear T H hs
  have BX := Lib.hid (Boxes.new b a w)
  have W0 := Lib.hid (((Below.refl w.heap.size w).alloc (Nat.le_refl _) (.cells #[.pointer (some ⟨b, 0, none⟩)] 61)).alloc (by simp) (.cells #[.int .i64 (a : Int)] 3))
  go_enter_defers Tryd.func55, Tryd.ntmps55
  go_wp2_with fail
  have R0 := Lib.hid (HR.out.next W0.out)
  generalize ((w.alloc (.cells #[.pointer (some ⟨b, 0, none⟩)] 61)).alloc (.cells #[.int .i64 (a : Int)] 3)) = w0 at *
  refine (P.out a _ R0.out ha).mono ?_
  rintro e w1 ⟨rfl, b1, R1⟩
  have HR1 := Lib.hid R1
  have BX1 := Lib.hid (BX.out.turned b1 hlt)
  have B1 := Lib.hid ((Turned.of_below (b := b) W0.out).trans b1)
  clear R1 b1 c1 HR BX W0 R0
  go_wp2_with fail
  go_loopw [5, 6, 7] (fun s5 s6 s7 wr => GapInv b s a w s5 s6 s7 wr) (fun _ _ _ wr => s.size - savd w.heap.size wr)
  case atStart => exact ⟨a, 0, Nat.le_refl _, ha, by omega, rfl, rfl, rfl, HR1.out, BX1.out, B1.out, Lib.hid rfl⟩
  case round =>
    clear HR1 BX1 B1
    obtain ⟨j, c, haj, hj, hc, rfl, rfl, rfl, R, BX, B, hr⟩ := hrel
    have HR := Lib.hid R
    have HB := Lib.hid B
    have HX := Lib.hid BX
    have x0 := BX.c0
    have x1 := BX.c1
    have z1 := BX.z1
    have c1 := R.c1
    have HM := Lib.hid BX.savd
    have T1 := Lib.hid (HT.out.turned B hb hw)
    have hcm := headCm s j
    have hbl := headBl s j
    clear R B BX
    by_cases hlt' : j < s.size
    · rw [decide_eq_true hlt'] at hcm hbl ⊢
      rw [Bool.true_and] at hcm hbl
      rw [stp_in hlt'] at HR c1
      by_cases h44 : pk s j = 44
      · have hb' : isBlN (pk s j) = false := by rw [h44]; rfl
        rw [h44]
        rw [hb'] at hbl
        rw [h44] at hcm
        have hcm' : headIs isCm (s.data.toList.drop j) = true := hcm
        by_cases h0 : c = 0
        · subst h0
          have HG := Lib.hid (gap_comma _ hcm')
          rw [List.drop_drop] at HG
          have R2 := Lib.hid (HR.out.other (q := w.heap.size + 1) (o := 0) (v := .int .i64 ((j + 1 : Nat) : Int)) (by omega))
          have B2 := Lib.hid (HB.out.setNew (q := w.heap.size + 1) (by omega) 0 (.int .i64 ((j + 1 : Nat) : Int)))
          have X2 := Lib.hid (HX.out.save (i := j + 1))
          clear hcm hbl hcm' hb'
          go_wp2_with fail
          refine (P.out (j + 1) _ R2.out (by omega)).mono ?_
          rintro e w3 ⟨rfl, b3, R3⟩
          have HR3 := Lib.hid R3
          have X3 := Lib.hid (X2.out.turned b3 hlt)
          have B3 := Lib.hid (B2.out.trans b3)
          clear R3 b3
          go_wp2_with fail
          go_roundw
          case rel => exact ⟨j + 1, 1, by omega, by omega, by omega, rfl, rfl, rfl, HR3.out, X3.out, B3.out, Lib.hid (by rw [hr.out, HG.out]; omega)⟩
          case measure => rw [X3.out.savd, HM.out]; omega
        · obtain rfl : c = 1 := by omega
          have E := Lib.hid (show a + gap 0 (s.data.toList.drop a) = j by have := hr.out; rw [gap_comma2 _ _ hcm' (by decide)] at this; exact this)
          have R2 := Lib.hid (HR.out.set (j := j))
          have B2 := Lib.hid (HB.out.set 1 (.int .i64 (j : Int)))
          have BK := Lib.hid (fun u => gapBack b (w.heap.size + 1) w.heap.size s _ j u wr x1 x0 HR.out)
          clear hcm hbl hcm' hb'
          go_wp2_with fail
          refine leaves_cons (f := 63) (args := #[.pointer (some ⟨w.heap.size + 1, 0, none⟩), .pointer (some ⟨w.heap.size, 0, none⟩)]) (by simp) (by simp [go_sem]) ?_
          refine (BK.out _).mono ?_
          rintro e u' w2 ⟨rfl, rfl, rfl⟩
          refine ⟨_, results_tmp rfl _ _ _, ?_, B2.out, ?_⟩
          · show Ending.returned (.bool (decide (a < j))) = _
            rw [gap_fin E.out]
          · rw [E.out]; exact R2.out
      · have n44 : ((pk s j : Int) == 44) = false := by rw [beq_eq_false_iff_ne]; omega
        have hcm' : headIs isCm (s.data.toList.drop j) = false := by rw [hcm, beq_eq_false_iff_ne]; exact h44
        have m44 : ((pk s j : Int) != 44) = true := by rw [bne, n44]; rfl
        have hc1 : ¬ (1 : Int) < (c : Int) := by omega
        have BLj := Lib.hid (BL.out j)
        by_cases hb' : isBlN (pk s j) = true
        · rw [hb'] at hbl BLj
          have HG := Lib.hid (gap_pos_of c _ hbl)
          rw [List.drop_drop] at HG
          have R2 := Lib.hid (HR.out.other (q := w.heap.size + 1) (o := 0) (v := .int .i64 ((j + 1 : Nat) : Int)) (by omega))
          have B2 := Lib.hid (HB.out.setNew (q := w.heap.size + 1) (by omega) 0 (.int .i64 ((j + 1 : Nat) : Int)))
          have X2 := Lib.hid (HX.out.save (i := j + 1))
          clear hcm hbl hcm' hb'
          go_wp2_with fail
          refine (BLj.out _ T1.out).mono ?_
          rintro e w2 ⟨rfl, rfl⟩
          go_wp2_with fail
          refine (P.out (j + 1) _ R2.out (by omega)).mono ?_
          rintro e w3 ⟨rfl, b3, R3⟩
          have HR3 := Lib.hid R3
          have X3 := Lib.hid (X2.out.turned b3 hlt)
          have B3 := Lib.hid (B2.out.trans b3)
          clear R3 b3
          go_wp2_with fail
          go_roundw
          case rel => exact ⟨j + 1, c, by omega, by omega, hc, rfl, rfl, rfl, HR3.out, X3.out, B3.out, Lib.hid (by rw [hr.out, HG.out]; omega)⟩
          case measure => rw [X3.out.savd, HM.out]; omega
        · rw [Bool.not_eq_true] at hb'
          rw [hb'] at hbl BLj
          have E := Lib.hid (show a + gap 0 (s.data.toList.drop a) = j by have := hr.out; rw [gap_none _ _ hbl hcm'] at this; exact this)
          have R2 := Lib.hid (HR.out.set (j := j))
          have B2 := Lib.hid (HB.out.set 1 (.int .i64 (j : Int)))
          have BK := Lib.hid (fun u => gapBack b (w.heap.size + 1) w.heap.size s _ j u wr x1 x0 HR.out)
          clear hcm hbl hcm' hb'
          go_wp2_with fail
          refine (BLj.out _ T1.out).mono ?_
          rintro e w2 ⟨rfl, rfl⟩
          go_wp2_with fail
          refine leaves_cons (f := 63) (args := #[.pointer (some ⟨w.heap.size + 1, 0, none⟩), .pointer (some ⟨w.heap.size, 0, none⟩)]) (by simp) (by simp [go_sem]) ?_
          refine (BK.out _).mono ?_
          rintro e u' w2 ⟨rfl, rfl, rfl⟩
          refine ⟨_, results_tmp rfl _ _ _, ?_, B2.out, ?_⟩
          · show Ending.returned (.bool (decide (a < j))) = _
            rw [gap_fin E.out]
          · rw [E.out]; exact R2.out
    · rw [decide_eq_false hlt'] at hcm hbl ⊢
      rw [Bool.false_and] at hcm hbl
      have E := Lib.hid (show a + gap 0 (s.data.toList.drop a) = j by have := hr.out; rw [gap_none _ _ hbl hcm] at this; exact this)
      have R2 := Lib.hid (HR.out.set (j := j))
      have B2 := Lib.hid (HB.out.set 1 (.int .i64 (j : Int)))
      have BK := Lib.hid (fun u => gapBack b (w.heap.size + 1) w.heap.size s _ j u wr x1 x0 HR.out)
      clear hcm hbl
      go_wp2_with fail
      refine leaves_cons (f := 63) (args := #[.pointer (some ⟨w.heap.size + 1, 0, none⟩), .pointer (some ⟨w.heap.size, 0, none⟩)]) (by simp) (by simp [go_sem]) ?_
      refine (BK.out _).mono ?_
      rintro e u' w2 ⟨rfl, rfl, rfl⟩
      refine ⟨_, results_tmp rfl _ _ _, ?_, B2.out, ?_⟩
      · show Ending.returned (.bool (decide (a < j))) = _
        rw [gap_fin E.out]
      · rw [E.out]; exact R2.out
end Go.Proofs.YtchngbdkgfjpcaaDoor
