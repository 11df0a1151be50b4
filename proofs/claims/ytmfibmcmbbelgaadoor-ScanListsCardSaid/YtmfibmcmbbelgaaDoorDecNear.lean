/-
  Numbers' texts, as plain mathematics: what is made of the digits that are kept is the nearest number. No memory, no program.
-/
import Derived.Test.YtmfibmcmbbelgaaDoorDecVal
namespace Go.Proofs.YtmfibmcmbbelgaaDoor

def restB (kp : Nat) (more : Bool) : Bool := more || decide (kp % 762939453125 ≠ 0)
def halvesN (wh kp : Nat) : Nat := wh * 131072 + kp / 762939453125
def roundV (neg : Bool) (wh kp : Nat) (more : Bool) : Int :=
  if neg then -(((halvesN wh kp + if restB kp more then 1 else 0) / 2 : Nat) : Int) else ((halvesN wh kp + 1) / 2 : Nat)

/-- The value as a fraction, over what is kept. -/
theorem flr_frac (D : Nat) (p : Int) :
    ∃ ρ, D * 10 ^ p.toNat * 100000000000000000 = flr D (p + 17) * 10 ^ (-p).toNat + ρ ∧ ρ < 10 ^ (-p).toNat ∧ rst D (p + 17) = decide (ρ ≠ 0) := by
  by_cases a : 0 ≤ p
  · obtain ⟨P, rfl⟩ : ∃ P : Nat, p = (P : Int) := ⟨p.toNat, by omega⟩
    have e : (P : Int) + 17 = ((P + 17 : Nat) : Int) := by omega
    refine ⟨0, ?_, Nat.pow_pos (by decide), ?_⟩
    · rw [e, flr_nat, show ((P : Int)).toNat = P from by omega, show (-(P : Int)).toNat = 0 from by omega, Nat.pow_add, Nat.pow_zero, Nat.mul_one, Nat.add_zero, Nat.mul_assoc]
    · rw [e, rst_nat]; rfl
  · by_cases b : -17 ≤ p
    · obtain ⟨m, rfl⟩ : ∃ m : Nat, p = -(m : Int) := ⟨(-p).toNat, by omega⟩
      have e : -(m : Int) + 17 = ((17 - m : Nat) : Int) := by omega
      refine ⟨0, ?_, Nat.pow_pos (by decide), ?_⟩
      · rw [e, flr_nat, show (-(m : Int)).toNat = 0 from by omega, show (- -(m : Int)).toNat = m from by omega, Nat.pow_zero, Nat.mul_one, Nat.add_zero, Nat.mul_assoc, ← Nat.pow_add, show 17 - m + m = 17 from by omega]
      · rw [e, rst_nat]; rfl
    · obtain ⟨m, rfl⟩ : ∃ m : Nat, p = -((m + 17 : Nat) : Int) := ⟨(-p - 17).toNat, by omega⟩
      have e : -((m + 17 : Nat) : Int) + 17 = -(m : Int) := by omega
      have p0 : 0 < 10 ^ m := Nat.pow_pos (by decide)
      refine ⟨D % 10 ^ m * 100000000000000000, ?_, ?_, ?_⟩
      · rw [e, flr_neg, show (-((m + 17 : Nat) : Int)).toNat = 0 from by omega, show (- -((m + 17 : Nat) : Int)).toNat = m + 17 from by omega, Nat.pow_zero, Nat.mul_one, Nat.pow_add]
        show D * 100000000000000000 = D / 10 ^ m * (10 ^ m * 100000000000000000) + D % 10 ^ m * 100000000000000000
        rw [← Nat.mul_assoc, ← Nat.add_mul, Nat.mul_comm (D / 10 ^ m), Nat.div_add_mod]
      · rw [show (- -((m + 17 : Nat) : Int)).toNat = m + 17 from by omega, Nat.pow_add]
        have := Nat.mod_lt D p0
        generalize D % 10 ^ m = x at *
        generalize 10 ^ m = y at *
        show x * 100000000000000000 < y * 100000000000000000
        omega
      · rw [e, rst_neg]
        refine decide_eq_decide.2 ?_
        omega

theorem kept_frac {D : Nat} {p : Int} {wh kp : Nat} {more : Bool} (h : Kept D (p + 17) wh kp more false) :
    ∃ ρ, D * 10 ^ p.toNat * 100000000000000000 = (wh * 100000000000000000 + kp) * 10 ^ (-p).toNat + ρ ∧ ρ < 10 ^ (-p).toNat ∧ more = decide (ρ ≠ 0) := by
  obtain ⟨h1, _, _, h4, h5⟩ := h
  have hlt : flr D (p + 17) < 10000000000000000000000 := by simpa using h5
  rw [Nat.mod_eq_of_lt hlt] at h1
  rw [h1, h4]
  exact flr_frac D p

theorem halves_arith (X c T H t a kp wh ρ : Nat) (hT : T = wh * 100000000000000000 + kp) (hH : H = wh * 131072 + a) (ht : 762939453125 * a + t = kp) (t1 : t ≤ 762939453124) (h : X * 100000000000000000 = T * c + ρ) (hρ : ρ < c) :
    ∃ r, 131072 * X = H * c + r ∧ r < c ∧ (r = 0 ↔ t = 0 ∧ ρ = 0) := by
  have e : T = H * 762939453125 + t := by
    rw [hT, ← ht, hH, Nat.add_mul, Nat.mul_assoc wh, Nat.mul_comm a, Nat.add_assoc]
  rw [e, Nat.add_mul, Nat.mul_right_comm] at h
  have l : t * c ≤ 762939453124 * c := Nat.mul_le_mul_right _ t1
  have z : t * c = 0 ↔ t = 0 := by
    constructor
    · intro e; rcases Nat.mul_eq_zero.1 e with e | e; exact e; omega
    · rintro rfl; simp
  clear hH hT ht e
  refine ⟨131072 * X - H * c, ?_, ?_, ?_⟩
  · generalize H * c = A at *; generalize t * c = B at *; omega
  · generalize H * c = A at *; generalize t * c = B at *; omega
  · rw [← z]; generalize H * c = A at *; generalize t * c = B at *; omega

theorem round_near {D : Nat} {p : Int} {wh kp : Nat} {more : Bool} (neg : Bool) (h : Kept D (p + 17) wh kp more false) : roundV neg wh kp more = nearV neg D p := by
  obtain ⟨ρ, h1, h2, h3⟩ := kept_frac h
  have c0 : 0 < 10 ^ (-p).toNat := Nat.pow_pos (by decide)
  unfold roundV nearV
  rw [show D * 65536 * 10 ^ p.toNat = 65536 * (D * 10 ^ p.toNat) from by rw [Nat.mul_comm D 65536, Nat.mul_assoc]]
  generalize D * 10 ^ p.toNat = X at *
  generalize 10 ^ (-p).toNat = c at *
  obtain ⟨r, r1, r2, r3⟩ := halves_arith X c _ (halvesN wh kp) (kp % 762939453125) (kp / 762939453125) kp wh ρ rfl rfl (Nat.div_add_mod _ _) (Nat.le_of_lt_succ (Nat.mod_lt _ (by decide))) h1 h2
  have hr : (if restB kp more then 1 else 0) = if r = 0 then 0 else 1 := by
    unfold restB
    rw [h3]
    by_cases a : r = 0
    · have := r3.1 a; simp [a, this]
    · rw [if_neg a, if_pos]
      simp only [Bool.or_eq_true, decide_eq_true_eq]
      by_cases b : ρ = 0
      · exact Or.inr fun e => a (r3.2 ⟨e, b⟩)
      · exact Or.inl b
  generalize halvesN wh kp = H at *
  cases neg
  · rw [sg_false]
    have := near_pos_arith X c c0
    rw [r1, Nat.add_comm (H * c), Nat.mul_comm H c, Nat.add_mul_div_left _ _ c0, Nat.div_eq_of_lt r2, Nat.zero_add] at this
    simp only [Bool.false_eq_true, if_false]
    rw [← this]; congr 1
  · rw [sg_true]
    have := near_neg_arith X c H r c0 r1 r2
    simp only [if_true]
    rw [hr, ← this]; congr 1

/-- The answer that is told: the number and the error. -/
def ansV (n : Int) : Int × Int := if -4294967296 < n ∧ n < 4294967296 then (n, 0) else (0, 2)
/-- Too great: a digit ahead of all that is kept. -/
theorem great_near {D : Nat} {p : Int} {wh kp : Nat} {more : Bool} (neg : Bool) (h : Kept D (p + 17) wh kp more true) : ansV (nearV neg D p) = (0, 2) := by
  have hT : 10000000000000000000000 ≤ flr D (p + 17) := by have := h.hg; simpa using this.symm
  obtain ⟨ρ, h1, _, _⟩ := flr_frac D p
  have c0 : 0 < 10 ^ (-p).toNat := Nat.pow_pos (by decide)
  unfold nearV
  rw [show D * 65536 * 10 ^ p.toNat = 65536 * (D * 10 ^ p.toNat) from by rw [Nat.mul_comm D 65536, Nat.mul_assoc]]
  generalize D * 10 ^ p.toNat = X at *
  generalize 10 ^ (-p).toNat = c at *
  generalize flr D (p + 17) = T at *
  have l : 10000000000000000000000 * c ≤ T * c := Nat.mul_le_mul_right _ hT
  have x : 100000 * c ≤ X := by omega
  clear h1 l hT
  refine if_neg ?_
  rintro ⟨a, b⟩
  have ci : (0 : Int) < c := by omega
  unfold near at a b
  cases neg
  · rw [sg_false] at b
    have : (6553600000 : Int) ≤ (((65536 * X : Nat) : Int) + (c : Int) / 2) / c := by
      rw [Int.le_ediv_iff_mul_le ci]; omega
    omega
  · rw [sg_true] at a
    have : (-((65536 * X : Nat) : Int) + (c : Int) / 2) / c ≤ -6553600000 := by
      refine Int.le_of_lt_add_one ?_
      rw [Int.ediv_lt_iff_lt_mul ci]; omega
    omega
end Go.Proofs.YtmfibmcmbbelgaaDoor
