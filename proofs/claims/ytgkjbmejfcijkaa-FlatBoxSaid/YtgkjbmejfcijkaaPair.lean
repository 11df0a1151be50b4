/-
  Plain words for what is told: does it fit, the nearest whole number, products and sums of products divided.
-/
import Derived.Test.YtgkjbmejfcijkaaBase
import Derived.Test.YtgkjbmejfcijkaaJCv
namespace Go.Proofs.Ytgkjbmejfcijkaa
open Go.RowKit Go.Shelf

/-- Does it fit? And the number that is told. -/
def fits (v : Int) : Bool := decide (-9223372036854775808 ≤ v ∧ v ≤ 9223372036854775807)
def told (v : Int) : Int := if fits v then v else 0
def Pair (v : Int) : Value := .tuple #[.int .i64 (told v), .bool (fits v)]

theorem near_bound (v : Int) (d : Nat) (hd : 0 < d) (h0 : -170141183460469231731687303715884105728 ≤ v) (h1 : v + (d : Int) / 2 < 170141183460469231731687303715884105728) :
    -170141183460469231731687303715884105728 ≤ near v d ∧ near v d < 170141183460469231731687303715884105728 := by
  unfold near
  generalize hu : v + (d : Int) / 2 = u at *
  have hu0 : -170141183460469231731687303715884105728 ≤ u := by omega
  constructor
  · rw [Int.le_ediv_iff_mul_le (by omega)]
    have : (-170141183460469231731687303715884105728 : Int) * d ≤ -170141183460469231731687303715884105728 * 1 := Int.mul_le_mul_of_nonpos_left (by decide) (by omega)
    omega
  · rw [Int.ediv_lt_iff_lt_mul (by omega)]
    have : (170141183460469231731687303715884105728 : Int) * 1 ≤ 170141183460469231731687303715884105728 * d := Int.mul_le_mul_of_nonneg_left (by omega) (by decide)
    omega

/-- What MulDiv tells. -/
def muldiv (a b c : Int) : Int := if 0 < c then near (a * b) c.natAbs else near (-(a * b)) c.natAbs

/-- The nearest whole number to the sum of two products by 2^s. -/
def dot (a b c d : Int) (s : Nat) : Int := near (a * b + c * d) (2 ^ s)

theorem pair_bad {x : Int} (h : fits x = false) : Pair x = .tuple #[.int .i64 0, .bool false] := by
  unfold Pair told; rw [h]; rfl

theorem fits_i64 {a : Int} (h : I64 a) : fits a = true := decide_eq_true h

theorem told_i64 {a : Int} (h : I64 a) : told a = a := by unfold told; rw [if_pos (fits_i64 h)]

theorem pair_i64 {a : Int} (h : I64 a) : Pair a = .tuple #[.int .i64 a, .bool true] := by unfold Pair; rw [told_i64 h, fits_i64 h]

theorem dot_comm (a b : Int) (s : Nat) : dot b a 0 0 s = dot a b 0 0 s := by unfold dot; rw [Int.mul_comm b a]

/-- A product divided by one of its factors is the other one. -/
theorem muldiv_back (a b : Int) (h : b ≠ 0) : muldiv a b b = a := by
  unfold muldiv near
  by_cases h1 : 0 < b
  · rw [if_pos h1, show (b.natAbs : Int) = b from by omega, Int.add_comm, Int.add_mul_ediv_right _ _ h, Int.ediv_eq_zero_of_lt (by omega) (by omega)]
    omega
  · rw [if_neg h1, show (b.natAbs : Int) = -b from by omega, ← Int.mul_neg, Int.add_comm, Int.add_mul_ediv_right _ _ (by omega), Int.ediv_eq_zero_of_lt (by omega) (by omega)]
    omega
end Go.Proofs.Ytgkjbmejfcijkaa
