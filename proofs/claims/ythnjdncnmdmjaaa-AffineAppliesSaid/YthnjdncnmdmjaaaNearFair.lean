/-
  Bounds of products and of what is nearest, for the document's numbers.
-/
import Derived.Test.YthnjdncnmdmjaaaNear
namespace Go.Proofs.Ythnjdncnmdmjaaa
open Go.RowKit Go.Shelf

theorem big_of (x : Nat) (h : x ≤ 85070591730234615865843651857942052864) : x ≤ Big := Nat.le_trans h (by unfold Big; decide)

theorem near_fair (z : Int) (d : Nat) (hd : 0 < d) (hd2 : d ≤ 9223372036854775808) (hz : z.natAbs ≤ 170141183460469231731687303715884105728) : Fair (near z d) := by
  refine fair_big _ (Nat.le_trans (show (near z d).natAbs ≤ 340282366920938463463374607431768211456 from ?_) (by unfold Big; decide))
  unfold near
  have b1 : -170141183460469231731687303715884105728 ≤ (z + (d : Int) / 2) / (d : Int) := by
    rw [Int.le_ediv_iff_mul_le (by omega)]
    have := Int.mul_le_mul_of_nonpos_left (show (-170141183460469231731687303715884105728 : Int) ≤ 0 by decide) (show (1 : Int) ≤ d by omega)
    omega
  have b2 : (z + (d : Int) / 2) / (d : Int) < 340282366920938463463374607431768211456 := by
    rw [Int.ediv_lt_iff_lt_mul (by omega)]
    have := Int.mul_le_mul_of_nonneg_left (show (1 : Int) ≤ d by omega) (show (0 : Int) ≤ 340282366920938463463374607431768211456 by decide)
    omega
  omega

theorem prod_abs (a b : Int) (ha : I64 a) (hb : I64 b) : (a * b).natAbs ≤ 85070591730234615865843651857942052864 := by
  rw [Int.natAbs_mul]
  exact Nat.mul_le_mul (show a.natAbs ≤ 9223372036854775808 by unfold I64 at ha; omega) (show b.natAbs ≤ 9223372036854775808 by unfold I64 at hb; omega)
end Go.Proofs.Ythnjdncnmdmjaaa
