/-
  The terms of a series in whole numbers, whatever its first one is: each is at most half of the one ahead, so nothing goes over.
-/
import Derived.Test.YtdngoeabdpeigaaTrigBothM
namespace Go.Proofs.Ytdngoeabdpeigaa

/-- The terms: the first one, and the power of x that it is of. -/
def tT (f z : Int) (p : Nat) : Nat → Int
  | 0 => f
  | k + 1 => stepN (tT f z p k) z ((p + 2 * k + 1) * (p + 2 * k + 2))
theorem tT_a (x z : Int) (k : Nat) : tT x z 1 k = aT x z k := by
  induction k with
  | zero => rfl
  | succ k ih => rw [tT, aT, ih, show 1 + 2 * k + 1 = 2 * k + 2 from by omega, show 1 + 2 * k + 2 = 2 * k + 3 from by omega]
theorem tT_b (z : Int) (k : Nat) : tT 1152921504606846976 z 0 k = bT z k := by
  induction k with
  | zero => rfl
  | succ k ih => rw [tT, bT, ih, show 0 + 2 * k + 1 = 2 * k + 1 from by omega, show 0 + 2 * k + 2 = 2 * k + 2 from by omega]

/-- One step at most halves. -/
theorem near_le (a z : Int) (h0 : 0 ≤ a) (z0 : 0 ≤ z) (z1 : z ≤ 1152921504606846976) : 0 ≤ near (a * z) 1152921504606846976 ∧ near (a * z) 1152921504606846976 ≤ a := by
  unfold near
  have e1 := Int.mul_nonneg h0 z0
  have e2 := Int.mul_le_mul_of_nonneg_left z1 h0
  generalize a * z = y at *
  omega
theorem near_half (t A : Int) (m : Nat) (hm : 2 ≤ m) (h0 : 0 ≤ t) (h1 : t ≤ 2 * A) : 0 ≤ near t m ∧ near t m ≤ A := by
  unfold near
  have hA : 0 ≤ A := by omega
  constructor
  · exact Int.ediv_nonneg (by omega) (by omega)
  · refine Int.le_of_lt_add_one ?_
    rw [Int.ediv_lt_iff_lt_mul (by omega), Int.add_mul]
    have := Int.mul_le_mul_of_nonneg_left (show (2 : Int) ≤ m by omega) hA
    omega
theorem step_half (a z A : Int) (m : Nat) (hm : 2 ≤ m) (h0 : 0 ≤ a) (h1 : a ≤ 2 * A) (z0 : 0 ≤ z) (z1 : z ≤ 1152921504606846976) : 0 ≤ stepN a z m ∧ stepN a z m ≤ A := by
  have k := near_le a z h0 z0 z1
  unfold stepN
  generalize near (a * z) 1152921504606846976 = t at *
  exact near_half t A m hm k.1 (by omega)

theorem two_mul (p k : Nat) : 2 ≤ (p + 2 * k + 1) * (p + 2 * k + 2) := by
  have := Nat.mul_le_mul (show 1 ≤ p + 2 * k + 1 by omega) (show 2 ≤ p + 2 * k + 2 by omega)
  omega

theorem tT_bound (f z : Int) (p : Nat) (f0 : 0 ≤ f) (f1 : f ≤ 1152921504606846976) (z0 : 0 ≤ z) (z1 : z ≤ 1152921504606846976) (k : Nat) (hk : k ≤ 9) :
    ∃ A : Int, A = 2 ^ (60 - k) ∧ 0 < A ∧ A ≤ 1152921504606846976 ∧ 0 ≤ tT f z p k ∧ tT f z p k ≤ A ∧ altI (tT f z p) k ≤ 2305843009213693952 - A ∧ -(2305843009213693952 - A) ≤ altI (tT f z p) k := by
  induction k with
  | zero =>
    refine ⟨1152921504606846976, by decide, by decide, by decide, f0, f1, ?_, ?_⟩
    · show f ≤ _; omega
    · show _ ≤ f; omega
  | succ k ih =>
    obtain ⟨A, e, a0, a1, b0, b1, c0, c1⟩ := ih (by omega)
    have e2 : A = 2 * 2 ^ (60 - (k + 1)) := by
      rw [e, show 60 - k = (60 - (k + 1)) + 1 from by omega, Int.pow_succ, Int.mul_comm]
    refine ⟨2 ^ (60 - (k + 1)), rfl, ?_⟩
    generalize (2 : Int) ^ (60 - (k + 1)) = B at *
    have s := step_half (tT f z p k) z B _ (two_mul p k) b0 (by omega) z0 z1
    have e3 : tT f z p (k + 1) = stepN (tT f z p k) z ((p + 2 * k + 1) * (p + 2 * k + 2)) := rfl
    rw [← e3] at s
    refine ⟨by omega, by omega, s.1, s.2, ?_, ?_⟩
    · rw [altI]; split <;> omega
    · rw [altI]; split <;> omega

/-- What the series needs: each term, and each sum. -/
theorem tT_fits (f z : Int) (p : Nat) (f0 : 0 ≤ f) (f1 : f ≤ 1152921504606846976) (z0 : 0 ≤ z) (z1 : z ≤ 1152921504606846976) (k : Nat) (hk : k ≤ 9) :
    (0 ≤ tT f z p k ∧ tT f z p k ≤ 1152921504606846976) ∧ (-2305843009213693952 ≤ altI (tT f z p) k ∧ altI (tT f z p) k ≤ 2305843009213693952) := by
  obtain ⟨A, e, a0, a1, b0, b1, c0, c1⟩ := tT_bound f z p f0 f1 z0 z1 k hk
  omega

/-- The sign that goes with the k-th term. -/
def sgnK (k : Nat) : Int := if k % 2 = 0 then 1 else -1
theorem sgnK_succ (k : Nat) : sgnK (k + 1) = -sgnK k := by unfold sgnK; split <;> split <;> omega
theorem altI_sgn (t : Nat → Int) (k : Nat) : altI t (k + 1) = altI t k + sgnK (k + 1) * t (k + 1) := by
  rw [altI]
  unfold sgnK
  by_cases h : k % 2 = 0
  · rw [if_pos h, if_neg (by omega)]; omega
  · rw [if_neg h, if_pos (by omega)]; omega

/-- The place on the circle of a rest up to 45 degrees. -/
theorem serX_bound (r : Int) (h0 : 0 ≤ r) (h1 : r ≤ 2949120) : 0 ≤ serX r ∧ serX r ≤ 1152921504606846976 := by
  unfold serX near
  omega
theorem serZ_bound (x : Int) (h0 : 0 ≤ x) (h1 : x ≤ 1152921504606846976) : 0 ≤ serZ x ∧ serZ x ≤ 1152921504606846976 := by
  have := near_le x x h0 h0 h1
  unfold serZ
  omega
end Go.Proofs.Ytdngoeabdpeigaa
