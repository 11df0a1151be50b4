/-
  Matrices and points, as plain mathematics. No memory, no program.
-/
import Derived.Test.YthnjdncnmdmjaaaNearD
import Derived.Test.YthnjdncnmdmjaaaIn32
namespace Go.Proofs.Ythnjdncnmdmjaaa

/-- A matrix: its six numbers. -/
structure Mtx where
  a : Int
  b : Int
  c : Int
  d : Int
  e : Int
  f : Int
deriving DecidableEq
def Mtx.right (m : Mtx) : Prop := In32 m.a ∧ In32 m.b ∧ In32 m.c ∧ In32 m.d ∧ In32 m.e ∧ In32 m.f
instance (m : Mtx) : Decidable m.right := by unfold Mtx.right; infer_instance
/-- One number, rounded once. -/
def numA (a x b y c : Int) : Int := near (a * x + b * y) (2 ^ 16) + c
def appM (m : Mtx) (x y : Int) : Int × Int := (numA m.a x m.c y m.e, numA m.b x m.d y m.f)
def thenM (m n : Mtx) : Mtx := ⟨numA n.a m.a n.c m.b 0, numA n.b m.a n.d m.b 0, numA n.a m.c n.c m.d 0, numA n.b m.c n.d m.d 0, numA n.a m.e n.c m.f n.e, numA n.b m.e n.d m.f n.f⟩
def sameM : Mtx := ⟨65536, 0, 0, 65536, 0, 0⟩
theorem prod32 {a x : Int} (ha : In32 a) (hx : In32 x) : -18446744073709551616 ≤ a * x ∧ a * x ≤ 18446744073709551616 := by
  obtain ⟨a1, a2⟩ := ha
  obtain ⟨x1, x2⟩ := hx
  have h : (a * x).natAbs ≤ 4294967296 * 4294967296 := by
    rw [Int.natAbs_mul]
    exact Nat.mul_le_mul (by omega) (by omega)
  omega
theorem near16 (v : Int) : near v (2 ^ 16) = (v + 32768) / 65536 := rfl
/-- Far from what an int64 holds. -/
theorem num_near {a x b y : Int} (ha : In32 a) (hx : In32 x) (hb : In32 b) (hy : In32 y) : -1125899906842624 ≤ near (a * x + b * y) (2 ^ 16) ∧ near (a * x + b * y) (2 ^ 16) ≤ 1125899906842624 := by
  have h1 := prod32 ha hx
  have h2 := prod32 hb hy
  rw [near16]
  generalize a * x = p at *
  generalize b * y = q at *
  omega
theorem near_mul (x : Int) : near (65536 * x) (2 ^ 16) = x := by rw [near16]; omega
theorem num_id (x y c : Int) : numA 65536 x 0 y c = x + c := by
  unfold numA; rw [Int.zero_mul, Int.add_zero, near_mul]
theorem num_id' (x y c : Int) : numA 0 x 65536 y c = y + c := by
  unfold numA; rw [Int.zero_mul, Int.zero_add, near_mul]
theorem num_di (x y c : Int) : numA x 65536 y 0 c = x + c := by
  unfold numA; rw [Int.mul_zero, Int.add_zero, Int.mul_comm, near_mul]
theorem num_di' (x y c : Int) : numA x 0 y 65536 c = y + c := by
  unfold numA; rw [Int.mul_zero, Int.zero_add, Int.mul_comm, near_mul]
theorem num_zero (x y c : Int) : numA x 0 y 0 c = c := by
  unfold numA; rw [Int.mul_zero, Int.mul_zero, near16]; omega
theorem num_neg (x y c : Int) : numA 0 x (-65536) y c = -y + c := by
  unfold numA; rw [Int.zero_mul, Int.zero_add, near16]; omega
theorem num_neg' (x y c : Int) : numA (-65536) x 0 y c = -x + c := by
  unfold numA; rw [Int.zero_mul, Int.add_zero, near16]; omega
theorem app_same (x y : Int) : appM sameM x y = (x, y) := by
  unfold appM sameM; simp only [num_id, num_id', Int.add_zero]
theorem app_move (e f x y : Int) : appM ⟨65536, 0, 0, 65536, e, f⟩ x y = (x + e, y + f) := by
  unfold appM; simp only [num_id, num_id']
theorem then_same (m : Mtx) : thenM m sameM = m := by
  unfold thenM sameM; simp only [num_id, num_id', Int.add_zero]
theorem same_then (m : Mtx) : thenM sameM m = m := by
  unfold thenM sameM; simp only [num_di, num_di', num_zero, Int.add_zero]
def turnM : Mtx := ⟨0, 65536, -65536, 0, 0, 0⟩
def halfM : Mtx := ⟨-65536, 0, 0, -65536, 0, 0⟩
theorem app_turn (x y : Int) : appM turnM x y = (-y, x) := by
  unfold appM turnM; simp only [num_neg, num_id, Int.add_zero]
theorem app_half (x y : Int) : appM halfM x y = (-x, -y) := by
  unfold appM halfM; simp only [num_neg, num_neg', Int.add_zero]
theorem turn_turn : thenM turnM turnM = halfM := by decide
theorem half_half : thenM halfM halfM = sameM := by decide
theorem right_same : sameM.right := by decide
theorem right_turn : turnM.right := by decide
theorem right_half : halfM.right := by decide
theorem in_neg {x : Int} (h : In32 x) : In32 (-x) := by obtain ⟨h1, h2⟩ := h; exact ⟨by omega, by omega⟩
end Go.Proofs.Ythnjdncnmdmjaaa
