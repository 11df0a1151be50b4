/-
  The contracts of the document's answers for layer 2: Above, and Wide, the number of two words.
-/
import Derived.Test.YteidcfibmgjedaaRef2Of
namespace Go.Proofs.Yteidcfibmgjedaa
open Go.RowKit Go.Shelf

/-- Is the difference above 0? -/
theorem above_bool (neg : Bool) (z : Nat) (x y : Nat) (h : (x : Int) + -(y : Int) = sgn neg z) : (!neg && decide (0 < (dg z).length)) = decide (y < x) := by
  have hz : (0 < (dg z).length) ↔ 0 < z := by
    rw [List.length_pos_iff, ne_eq, dg_nil]; omega
  cases neg
  · simp only [sgn, Bool.false_eq_true, if_false, Bool.not_false, Bool.true_and] at h ⊢
    rw [decide_eq_decide, hz]; omega
  · simp only [sgn, if_true, Bool.not_true, Bool.false_and] at h ⊢
    rw [eq_comm, decide_eq_false_iff_not]; omega

theorem minus_rep {m : Bool} {z y : Nat} (h : (y : Int) = sgn m z) : -(y : Int) = sgn true z := by
  cases m <;> simp [sgn] at h ⊢ <;> omega

set_option maxHeartbeats 1000000 in
theorem above_z (v1 v2 : Value) (x y : Nat) (w : World) (bx : x ≤ 4 * Big) (by' : y ≤ 4 * Big) (h1 : NumV v1 (x : Int) w) (h2 : NumV v2 (y : Int) w) :
    Calls Try.prog 20 #[v1, v2] w fun e w' => e = .returned (.bool (decide (y < x))) ∧ Below w.heap.size w w' := by
  obtain ⟨n, zx, a, c1, rfl, r1, l1, m1, ex⟩ := h1
  obtain ⟨m, zy, b, c2, rfl, r2, l2, m2, ey⟩ := h2
  have hB : Below w.heap.size w ((w.alloc (.cells #[.bool n, .slice a (dg zx).length c1] 30)).alloc (.cells #[.bool true, .slice b (dg zy).length c2] 30)) :=
    ((Below.refl _ w).alloc (Nat.le_refl _) _).alloc (by simp) _
  have P := Lib.hid (add_z (.agg #[.bool n, .slice a (dg zx).length c1]) (.agg #[.bool true, .slice b (dg zy).length c2]) (x : Int) (-(y : Int)) _ (fair_big _ (by omega)) (fair_big _ (by omega))
    ⟨n, zx, a, c1, rfl, r1.below hB (Nat.le_refl _), l1, m1, ex⟩ ⟨true, zy, b, c2, rfl, r2.below hB (Nat.le_refl _), l2, m2, minus_rep ey⟩)
  have HB := Lib.hid hB
  clear hB r1 r2 ex ey bx by' l1 m1 l2 m2
  generalize (dg zx).length = nx at *
  generalize (dg zy).length = ny at *
  go_enter Try.func20, Try.ntmps20
  go_wp2_with fail
  refine P.out.mono ?_
  rintro e w1 ⟨v, rfl, ⟨neg, z, a', c', rfl, r', l', m', ez⟩, hb⟩
  have HE := Lib.hid (above_bool neg z x y ez)
  clear r' l' m' ez
  generalize (dg z).length = nz at *
  cases neg
  · go_wp2_with fail
    go_ret
    refine ⟨by rw [← HE.out]; simp, ?_⟩
    exact (HB.out.trans (hb.mono HB.out.size)).alloc (Nat.le_trans HB.out.size hb.size) _
  · go_wp2_with fail
    go_ret
    refine ⟨by rw [← HE.out]; simp, ?_⟩
    exact (HB.out.trans (hb.mono HB.out.size)).alloc (Nat.le_trans HB.out.size hb.size) _

theorem big_word (x : Nat) (h : x < 18446744073709551616) : x ≤ Big := by
  have : (18446744073709551616 : Nat) ≤ Big := by unfold Big; decide
  omega
theorem big_two (x : Nat) (h : x < 340282366920938463463374607431768211456) : x ≤ Big := by
  have : (340282366920938463463374607431768211456 : Nat) ≤ Big := by unfold Big; decide
  omega

set_option maxHeartbeats 1000000 in
/-- Wide: hi 2^64 + lo. -/
theorem wide2_z (hi lo : Nat) (w : World) (hh : hi < 18446744073709551616) (hl : lo < 18446744073709551616) :
    Calls Try.prog 12 #[.int .u64 (hi : Int), .int .u64 (lo : Int)] w (GivesZ ((hi * 18446744073709551616 + lo : Nat) : Int) w) := by
  have A := Lib.hid (fun w => of2_z hi w hh)
  have B := Lib.hid (fun w => power_z 64 w (by decide))
  rw [show ((2 ^ 64 : Nat) : Int) = ((18446744073709551616 : Nat) : Int) from rfl] at B
  have hp : hi * 18446744073709551616 < 340282366920938463463374607431768211456 := by omega
  have C := Lib.hid (fun v1 v2 w h1 h2 => mulz v1 v2 (hi : Int) ((18446744073709551616 : Nat) : Int) w (by rw [← Int.natCast_mul]; exact big_two _ hp) (big_word _ hh) (by exact big_two _ (by decide)) h1 h2)
  have D := Lib.hid (fun w => of2_z lo w hl)
  have E := Lib.hid (fun v1 v2 w h1 h2 => add_z v1 v2 ((hi : Int) * ((18446744073709551616 : Nat) : Int)) (lo : Int) w (fair_big _ (by rw [← Int.natCast_mul]; exact Nat.le_trans (big_two _ hp) (by omega))) (fair_big _ (by exact Nat.le_trans (big_word _ hl) (by omega))) h1 h2)
  have NA := Lib.hid (NumAt.new w false (.slice none 0 0))
  have BW := Lib.hid ((Below.refl w.heap.size w).alloc (Nat.le_refl _) (.cells #[.bool false, .slice none 0 0] 30))
  have hs0 : (w.alloc (.cells #[.bool false, .slice none 0 0] 30)).heap.size = w.heap.size + 1 := by simp
  have HS0 := Lib.hid hs0
  have EQ := Lib.hid (show (hi : Int) * ((18446744073709551616 : Nat) : Int) + (lo : Int) = ((hi * 18446744073709551616 + lo : Nat) : Int) by rw [Int.natCast_add, Int.natCast_mul])
  clear hp hh hl hs0
  generalize ((18446744073709551616 : Nat) : Int) = T at *
  generalize ((hi * 18446744073709551616 + lo : Nat) : Int) = Z at *
  go_enter Try.func12, Try.ntmps12
  go_wp2_with fail
  generalize w.alloc (.cells #[.bool false, .slice none 0 0] 30) = w0 at *
  refine (A.out _).mono ?_
  rintro e w1 ⟨v1, rfl, n1, b1⟩
  have N1 := Lib.hid n1
  clear n1
  go_wp2_with fail
  refine (B.out _).mono ?_
  rintro e w2 ⟨v2, rfl, n2, b2⟩
  have N2 := Lib.hid n2
  have N1' := Lib.hid (N1.out.below b2 (Nat.le_refl _))
  clear n2
  go_wp2_with fail
  refine (C.out _ _ _ N1'.out N2.out).mono ?_
  rintro e w3 ⟨v3, rfl, n3, b3⟩
  have N3 := Lib.hid n3
  clear n3
  go_wp2_with fail
  refine (D.out _).mono ?_
  rintro e w4 ⟨v4, rfl, n4, b4⟩
  have N4 := Lib.hid n4
  have N3' := Lib.hid (N3.out.below b4 (Nat.le_refl _))
  clear n4
  go_wp2_with fail
  refine (E.out _ _ _ N3'.out N4.out).mono ?_
  rintro e w5 ⟨v5, rfl, n5, b5⟩
  rw [EQ.out] at n5
  obtain ⟨neg, z, a', c', rfl, r', l', m', ez⟩ := n5
  have F := Lib.hid (And.intro ez (And.intro r' (And.intro l' m')))
  clear ez r' l' m'
  have s1 := b1.size
  have s2 := b2.size
  have s3 := b3.size
  have s4 := b4.size
  have HB := Lib.hid ((((b1.trans (b2.mono s1)).trans (b3.mono (by omega))).trans (b4.mono (by omega))).trans (b5.mono (by omega)))
  have NA2 := NA.out.below HB.out NA.out.lt
  have r0 := NA2.c0; have r1 := NA2.c1; have y0 := NA2.z0; have y1 := NA2.z1
  have HN := Lib.hid NA2
  have HBf := Lib.hid (BW.out.trans (HB.out.mono BW.out.size))
  clear NA2
  go_wp2_with fail
  exact num_closeZ Try.results12 HN.out HBf.out (Nat.le_refl _) F.out.2 F.out.1 rfl
end Go.Proofs.Yteidcfibmgjedaa
