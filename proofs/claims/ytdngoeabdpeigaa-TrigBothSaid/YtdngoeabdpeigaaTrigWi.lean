/-
  Plain arithmetic of fractions: what lies within a bound, products of such, the nearest whole number.
-/
import Derived.Test.YtdngoeabdpeigaaNearD
namespace Go.Proofs.Ytdngoeabdpeigaa

/-- a lies from -A to A. -/
def Wi (a A : Rat) : Prop := -A ≤ a ∧ a ≤ A

theorem Wi.mul {a A b B : Rat} (h : Wi a A) (k : Wi b B) : Wi (a * b) (A * B) := by
  obtain ⟨h1, h2⟩ := h
  obtain ⟨k1, k2⟩ := k
  have e1 := Rat.mul_nonneg (show 0 ≤ A - a by grind) (show 0 ≤ B + b by grind)
  have e2 := Rat.mul_nonneg (show 0 ≤ A + a by grind) (show 0 ≤ B - b by grind)
  have e3 := Rat.mul_nonneg (show 0 ≤ A - a by grind) (show 0 ≤ B - b by grind)
  have e4 := Rat.mul_nonneg (show 0 ≤ A + a by grind) (show 0 ≤ B + b by grind)
  constructor <;> grind
theorem Wi.add {a A b B : Rat} (h : Wi a A) (k : Wi b B) : Wi (a + b) (A + B) := by
  obtain ⟨h1, h2⟩ := h
  obtain ⟨k1, k2⟩ := k
  constructor <;> grind
theorem Wi.sub {a A b B : Rat} (h : Wi a A) (k : Wi b B) : Wi (a - b) (A + B) := by
  obtain ⟨h1, h2⟩ := h
  obtain ⟨k1, k2⟩ := k
  constructor <;> grind
theorem Wi.neg {a A : Rat} (h : Wi a A) : Wi (-a) A := by
  obtain ⟨h1, h2⟩ := h
  constructor <;> grind
theorem Wi.le {a A B : Rat} (h : Wi a A) (k : A ≤ B) : Wi a B := by
  obtain ⟨h1, h2⟩ := h
  constructor <;> grind
theorem Wi.nn {a A : Rat} (h : Wi a A) : 0 ≤ A := by
  obtain ⟨h1, h2⟩ := h
  grind
theorem Wi.pow {a A : Rat} (h : Wi a A) (n : Nat) : Wi (a ^ n) (A ^ n) := by
  induction n with
  | zero => rw [Rat.pow_zero, Rat.pow_zero]; constructor <;> decide
  | succ n ih => rw [Rat.pow_succ, Rat.pow_succ]; exact ih.mul h
theorem Wi.of {a A : Rat} (h1 : 0 ≤ a) (h2 : a ≤ A) : Wi a A := by
  constructor <;> grind

theorem near_int (v : Int) (d : Nat) (hd : 0 < d) : 2 * v - (d : Int) ≤ 2 * (near v d) * (d : Int) ∧ 2 * (near v d) * (d : Int) ≤ 2 * v + (d : Int) := by
  unfold near
  have e := Int.mul_ediv_add_emod (v + (d : Int) / 2) (d : Int)
  have h0 := Int.emod_nonneg (v + (d : Int) / 2) (show (d : Int) ≠ 0 by omega)
  have h1 := Int.emod_lt_of_pos (v + (d : Int) / 2) (show 0 < (d : Int) by omega)
  generalize (v + (d : Int) / 2) / (d : Int) = q at *
  generalize (v + (d : Int) / 2) % (d : Int) = r at *
  rw [Int.mul_comm] at e
  have e2 : 2 * q * (d : Int) = 2 * (q * (d : Int)) := by rw [Int.mul_assoc]
  rw [e2]
  omega

theorem near_rat (v : Int) (d : Nat) (hd : 0 < d) : Wi ((near v d : Rat) * (d : Rat) - (v : Rat)) ((d : Rat) / 2) := by
  obtain ⟨h1, h2⟩ := near_int v d hd
  have k1 : ((2 * v - (d : Int) : Int) : Rat) ≤ ((2 * (near v d) * (d : Int) : Int) : Rat) := Rat.intCast_le_intCast.2 h1
  have k2 : ((2 * (near v d) * (d : Int) : Int) : Rat) ≤ ((2 * v + (d : Int) : Int) : Rat) := Rat.intCast_le_intCast.2 h2
  simp only [Rat.intCast_sub, Rat.intCast_mul, Rat.intCast_add, Rat.intCast_natCast, Rat.intCast_ofNat] at k1 k2
  constructor <;> grind
end Go.Proofs.Ytdngoeabdpeigaa
