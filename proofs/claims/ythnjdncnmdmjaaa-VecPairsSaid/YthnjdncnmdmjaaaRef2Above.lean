/-
  The contracts of the document's answers for layer 2: Above, and Wide, the number of two words.
-/
import Derived.Test.YthnjdncnmdmjaaaRef2Of
namespace Go.Proofs.Ythnjdncnmdmjaaa
open Go.RowKit Go.Shelf

/-- Is the difference above 0? -/
theorem above_bool (neg : Bool) (z : Nat) (x y : Nat) (h : (x : Int) + -(y : Int) = sgn neg z) : (!neg && decide (0 < (dg z).length)) = decide (y < x) := by
  have hz : (0 < (dg z).length) ↔ 0 < z := by
    rw [List.length_pos_iff, ne_eq, dg_nil]; omega
  cases neg
  · simp only [sgn, Bool.false_eq_true, if_false, Bool.not_false, Bool.true_and] at h ⊢
    rw [decide_eq_decide, hz]; omega
  · simp only [sgn, if_true, Bool.not_true, Bool.false_and] at h ⊢
    rw [eq_comm, decide_eq_false_iff_not]; omega

theorem minus_rep {m : Bool} {z y : Nat} (h : (y : Int) = sgn m z) : -(y : Int) = sgn true z := by
  cases m <;> simp [sgn] at h ⊢ <;> omega

set_option maxHeartbeats 1000000 in
theorem above_z (v1 v2 : Value) (x y : Nat) (w : World) (bx : x ≤ 4 * Big) (by' : y ≤ 4 * Big) (h1 : NumV v1 (x : Int) w) (h2 : NumV v2 (y : Int) w) :
    Calls Try.prog 64 #[v1, v2] w fun e w' => e = .returned (.bool (decide (y < x))) ∧ Below w.heap.size w w' := by
  obtain ⟨n, zx, a, c1, rfl, r1, l1, m1, ex⟩ := h1
  obtain ⟨m, zy, b, c2, rfl, r2, l2, m2, ey⟩ := h2
  have hB : Below w.heap.size w ((w.alloc (.cells #[.bool n, .slice a (dg zx).length c1] 66)).alloc (.cells #[.bool true, .slice b (dg zy).length c2] 66)) :=
    ((Below.refl _ w).alloc (Nat.le_refl _) _).alloc (by simp) _
  have P := Lib.hid (add_z (.agg #[.bool n, .slice a (dg zx).length c1]) (.agg #[.bool true, .slice b (dg zy).length c2]) (x : Int) (-(y : Int)) _ (fair_big _ (by omega)) (fair_big _ (by omega))
    ⟨n, zx, a, c1, rfl, r1.below hB (Nat.le_refl _), l1, m1, ex⟩ ⟨true, zy, b, c2, rfl, r2.below hB (Nat.le_refl _), l2, m2, minus_rep ey⟩)
  have HB := Lib.hid hB
  clear hB r1 r2 ex ey bx by' l1 m1 l2 m2
  generalize (dg zx).length = nx at *
  generalize (dg zy).length = ny at *
  go_enter Try.func64, Try.ntmps64
  go_wp2_with fail
  refine P.out.mono ?_
  rintro e w1 ⟨v, rfl, ⟨neg, z, a', c', rfl, r', l', m', ez⟩, hb⟩
  have HE := Lib.hid (above_bool neg z x y ez)
  clear r' l' m' ez
  generalize (dg z).length = nz at *
  cases neg
  · go_wp2_with fail
    go_ret
    refine ⟨by rw [← HE.out]; simp, ?_⟩
    exact (HB.out.trans (hb.mono HB.out.size)).alloc (Nat.le_trans HB.out.size hb.size) _
  · go_wp2_with fail
    go_ret
    refine ⟨by rw [← HE.out]; simp, ?_⟩
    exact (HB.out.trans (hb.mono HB.out.size)).alloc (Nat.le_trans HB.out.size hb.size) _

theorem big_word (x : Nat) (h : x < 18446744073709551616) : x ≤ Big := by
  have : (18446744073709551616 : Nat) ≤ Big := by unfold Big; decide
  omega
theorem big_two (x : Nat) (h : x < 340282366920938463463374607431768211456) : x ≤ Big := by
  have : (340282366920938463463374607431768211456 : Nat) ≤ Big := by unfold Big; decide
  omega

end Go.Proofs.Ythnjdncnmdmjaaa
