/-
  The contracts of the document's Sum and of wide.Add: the sum of any numbers, if it fits.
-/
import Derived.Test.YtlfdppcdkgfihaaPlain
namespace Go.Proofs.Ytlfdppcdkgfihaa
open Go.RowKit Go.Shelf

theorem plain_z (v : Value) (z : Int) (w : World) (f : Fair z) (h : NumV v z w) :
    Calls Try.prog 23 #[v] w fun e w' => e = .returned (Pair z) ∧ Below w.heap.size w w' := by
  obtain ⟨n, x, a, c, rfl, r, _, _, rfl⟩ := h
  exact plain_any n x a c w r f.len

/-- The sum of the first k numbers. -/
def sumTo (zs : List Int) (k : Nat) : Int := (zs.take k).sum
theorem sumTo_succ (zs : List Int) (k : Nat) (h : k < zs.length) : sumTo zs (k + 1) = sumTo zs k + zs.getD k 0 := by
  unfold sumTo
  rw [List.take_succ_eq_append_getElem h, List.sum_append, List.getD_eq_getElem?_getD, List.getElem?_eq_getElem h]
  simp
theorem sumTo_bound (zs : List Int) (k : Nat) (h : ∀ z ∈ zs, I64 z) : (sumTo zs k).natAbs ≤ k * 9223372036854775808 := by
  induction k with
  | zero => simp [sumTo]
  | succ k ih =>
    by_cases hk : k < zs.length
    · rw [sumTo_succ zs k hk]
      have hz := h (zs.getD k 0) (by simp [List.getD, List.getElem?_eq_getElem hk])
      unfold I64 at hz
      omega
    · have e : sumTo zs (k + 1) = sumTo zs k := by unfold sumTo; rw [List.take_of_length_le (by omega), List.take_of_length_le (by omega)]
      rw [e]; exact Nat.le_trans ih (Nat.mul_le_mul_right _ (Nat.le_succ k))
theorem fair_small (z : Int) (h : z.natAbs ≤ 1000 * 9223372036854775808) : Fair z := by
  unfold Fair
  have h6 : (65536 : Nat) ^ 6 ≤ 65536 ^ 200 := Nat.pow_le_pow_right (n := 65536) (by decide) (by decide)
  refine Nat.lt_of_lt_of_le (Nat.lt_of_le_of_lt h ?_) h6
  decide
theorem fair_i64 (z : Int) (h : I64 z) : Fair z := fair_small z (Nat.le_trans (show z.natAbs ≤ 9223372036854775808 by unfold I64 at h; omega) (by decide))

/-- What Sum's loop keeps. -/
def SumInv (zs : List Int) (w : World) (i : Value) (wr : World) : Prop :=
  ∃ (k : Nat) (neg : Bool) (a : Option Addr) (n cap : Nat), k ≤ zs.length ∧ i = .int .i64 (k : Int) ∧ NumAt w.heap.size neg (.slice a n cap) wr ∧ NumV (.agg #[.bool neg, .slice a n cap]) (sumTo zs k) wr ∧ Below w.heap.size w wr

theorem numv_zero (w : World) : NumV (.agg #[.bool false, .slice none 0 0]) 0 w :=
  ⟨false, 0, none, 0, by rw [dg_zero]; rfl, Or.inl dg_zero, by rw [dg_zero]; exact Nat.le_refl _, by simp, by simp [sgn]⟩

theorem getD_mem' (zs : List Int) (k : Nat) (hk : k < zs.length) : zs.getD k 0 ∈ zs := by
  simp [List.getD, List.getElem?_eq_getElem hk]

theorem sum_next (zs : List Int) (w wr w2 : World) {w' : World} (k : Nat) (z : Int) {neg neg2 : Bool} {a1 a2 : Option Addr} {n1 c1 x2 cap2 : Nat} (hk : k < zs.length) (hs : sumTo zs (k + 1) = sumTo zs k + z) (hB : Below w.heap.size w wr)
    (hb : Below wr.heap.size wr w') (hb2 : Below w'.heap.size w' w2) (hA : NumAt w.heap.size neg (.slice a1 n1 c1) w2)
    (hv : Row a2 (dg x2) w2 ∧ (dg x2).length ≤ cap2 ∧ cap2 ≤ maxLen ∧ sumTo zs k + z = sgn neg2 x2) :
    SumInv zs w (.int .i64 ((k : Int) + 1)) ((w2.setCell ⟨w.heap.size, 0, none⟩ (.bool neg2)).setCell ⟨w.heap.size, 1, none⟩ (.slice a2 (dg x2).length cap2)) := by
  refine ⟨k + 1, neg2, a2, (dg x2).length, cap2, by omega, by rw [show (k : Int) + 1 = ((k + 1 : Nat) : Int) from by omega], hA.set, ⟨neg2, x2, a2, cap2, rfl, hv.1.far hA, hv.2.1, hv.2.2.1, by rw [hs]; exact hv.2.2.2⟩, ?_⟩
  have s1 := hB.size
  have s2 := hb.size
  exact Below.setCell (Below.setCell ((hB.trans (hb.mono s1)).trans (hb2.mono (by omega))) (Nat.le_refl _) _) (Nat.le_refl _) _

set_option maxHeartbeats 2000000 in
theorem refsum_any (a : Option Addr) (zs : List Int) (cap : Nat) (w : World) (hz : ∀ z ∈ zs, I64 z) (hl : zs.length ≤ 100) (h : Ints a zs w) :
    Calls Try.prog 11 #[.slice a zs.length cap] w fun e w' => e = .returned (Pair (sumTo zs zs.length)) ∧ Below w.heap.size w w' := by
  have HZ := Lib.hid hz
  have HI := Lib.hid h
  clear hz h
  unfold Pair
  go_enter Try.func11, Try.ntmps11
  go_wp2_with fail
  go_loopw [5] (fun i wr => SumInv zs w i wr) (fun i _ => zs.length - natOf i)
  case atStart => exact ⟨0, false, none, 0, 0, by omega, rfl, NumAt.new w _ _, numv_zero _, (Below.refl _ _).alloc (Nat.le_refl _) _⟩
  case round =>
    obtain ⟨k, neg, a1, n1, c1, hk, rfl, hA, hV, hB⟩ := hrel
    by_cases hlt : k < zs.length
    · obtain ⟨b, off, rfl, hbl, hc⟩ := (HI.out.below hB (Nat.le_refl _)).pos hlt
      have hcell := hc k hlt
      have hz := HZ.out _ (getD_mem' zs k hlt)
      have HS := Lib.hid (sumTo_succ zs k hlt)
      have HF := Lib.hid (fair_small (sumTo zs k) (Nat.le_trans (sumTo_bound zs k HZ.out) (Nat.mul_le_mul_right _ (by omega))))
      have hsz := hA.lt
      have g0 := hA.c0; have g1 := hA.c1; have z0 := hA.z0; have z1 := hA.z1
      have HA := Lib.hid hA; have HV := Lib.hid hV; have HB := Lib.hid hB
      have HZ1 := Lib.hid hz
      clear hc hA hV hB hz
      generalize zs.getD k 0 = z at *
      go_wp2_with fail
      go_region_with
        (first
          | (go_at_call 22; refine (of_z z _ HZ1.out).mono ?_; rintro e w' ⟨v, rfl, hv, hb⟩; have k1 := (hb.cell (p := ⟨b, off + k, none⟩) hbl).trans hcell; have k2 := (hb.cell (p := ⟨w.heap.size, 0, none⟩) hsz).trans g0; have k3 := (hb.cell (p := ⟨w.heap.size, 1, none⟩) hsz).trans g1)
          | (go_at_call 21; refine (add_z _ _ (sumTo zs k) z _ HF.out (fair_i64 z HZ1.out) ?_ ?_).mono ?_; (exact (show NumV _ _ wr.drew from HV.out).below hb (Nat.le_refl _)); (exact hv); rintro e w2 ⟨v2, rfl, hv2, hb2⟩; obtain ⟨neg2, x2, a2, cap2, rfl, hv3⟩ := hv2; have m1 := (hb2.cell (p := ⟨b, off + k, none⟩) (Nat.lt_of_lt_of_le hbl hb.size)).trans k1; have m2 := (hb2.cell (p := ⟨w.heap.size, 0, none⟩) (Nat.lt_of_lt_of_le hsz hb.size)).trans k2; have m3 := (hb2.cell (p := ⟨w.heap.size, 1, none⟩) (Nat.lt_of_lt_of_le hsz hb.size)).trans k3; have nf0 := (hb2.frozen (p := ⟨w.heap.size, 0, none⟩) (Nat.lt_of_lt_of_le hsz hb.size)).trans ((hb.frozen (p := ⟨w.heap.size, 0, none⟩) hsz).trans z0); have nf1 := (hb2.frozen (p := ⟨w.heap.size, 1, none⟩) (Nat.lt_of_lt_of_le hsz hb.size)).trans ((hb.frozen (p := ⟨w.heap.size, 1, none⟩) hsz).trans z1)))
      all_goals
        go_wp2_with fail
        go_roundw
        case rel =>
          have hA2 : NumAt w.heap.size neg (.slice a1 n1 c1) w2 := ((show NumAt _ _ _ wr.drew from HA.out).below hb hsz).below hb2 (Nat.lt_of_lt_of_le hsz hb.size)
          exact sum_next zs w _ _ k z hlt HS.out HB.out ⟨hb.os, hb.tape, hb.output, hb.size, hb.block⟩ hb2 hA2 hv3
        case measure => simp [natOf]; omega
    · obtain rfl : k = zs.length := by omega
      have HF := Lib.hid (fair_small (sumTo zs zs.length) (Nat.le_trans (sumTo_bound zs _ HZ.out) (Nat.mul_le_mul_right _ (by omega))))
      have g0 := hA.c0; have g1 := hA.c1
      have HV := Lib.hid hV
      have P := Lib.hid (plain_z _ _ wr HF.out hV)
      unfold Pair at P
      clear hA hV
      go_wp2_with fail
      refine P.out.mono ?_
      rintro e w1 ⟨rfl, b1⟩
      go_wp2_with fail
      go_ret2
      exact ⟨rfl, hB.trans (b1.mono hB.size)⟩
end Go.Proofs.Ytlfdppcdkgfihaa
