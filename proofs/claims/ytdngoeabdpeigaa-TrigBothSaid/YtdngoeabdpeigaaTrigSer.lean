/-
  The series in whole numbers, with 60 places behind the point, and how near it is to the series itself.
-/
import Derived.Test.YtdngoeabdpeigaaTrigSum
namespace Go.Proofs.Ytdngoeabdpeigaa

/-- One term out of the one ahead. -/
def stepN (a z : Int) (m : Nat) : Int := near (near (a * z) 1152921504606846976) m
def aT (x z : Int) : Nat → Int
  | 0 => x
  | k + 1 => stepN (aT x z k) z ((2 * k + 2) * (2 * k + 3))
def bT (z : Int) : Nat → Int
  | 0 => 1152921504606846976
  | k + 1 => stepN (bT z k) z ((2 * k + 1) * (2 * k + 2))
/-- The sum of terms whose signs alternate. -/
def altI (t : Nat → Int) : Nat → Int
  | 0 => t 0
  | k + 1 => if k % 2 = 0 then altI t k - t (k + 1) else altI t k + t (k + 1)
def altR (t : Nat → Rat) : Nat → Rat
  | 0 => t 0
  | k + 1 => if k % 2 = 0 then altR t k - t (k + 1) else altR t k + t (k + 1)
def tS (X : Rat) : Nat → Rat
  | 0 => X
  | k + 1 => tS X k * (X * X) / (((2 * k + 2) * (2 * k + 3) : Nat) : Rat)
def tC (X : Rat) : Nat → Rat
  | 0 => 1
  | k + 1 => tC X k * (X * X) / (((2 * k + 1) * (2 * k + 2) : Nat) : Rat)

theorem altR_sf (X : Rat) : altR (tS X) 9 = sf X := by
  simp [altR, tS, sf]
  grind
theorem altR_cf (X : Rat) : altR (tC X) 9 = cf X := by
  simp [altR, tC, cf]
  grind

theorem step_err (a z : Int) (m : Nat) (T Q : Rat) (hm : 2 ≤ m) (hT : Wi T 1) (hQ : Wi Q (63 / 100)) (ha : Wi ((a : Rat) - 1152921504606846976 * T) 4) (hz : Wi ((z : Rat) - 1152921504606846976 * Q) 2) :
    Wi ((stepN a z m : Rat) - 1152921504606846976 * (T * Q / (m : Rat))) 4 := by
  unfold stepN
  have h1 := near_rat (a * z) 1152921504606846976 (by decide)
  generalize near (a * z) 1152921504606846976 = t at *
  have h2 := near_rat t m (by omega)
  generalize near t m = q at *
  rw [Rat.intCast_mul] at h1
  have hm' : (2 : Rat) ≤ (m : Rat) := by
    have := Rat.natCast_le_natCast.2 hm
    exact this
  have e1 := ha.mul hQ
  have e2 := ha.mul hz
  have e3 := hT.mul hz
  generalize (a : Rat) = A at *
  generalize (z : Rat) = Z at *
  generalize (t : Rat) = t' at *
  generalize (q : Rat) = q' at *
  generalize (m : Rat) = M at *
  have hM : M * (T * Q / M) = T * Q := by
    rw [Rat.div_def, ← Rat.mul_assoc, Rat.mul_comm M, Rat.mul_assoc, Rat.mul_inv_cancel _ (by grind), Rat.mul_one]
  refine wi_div (k := 1152921504606846976 * M) (by grind) ?_
  rw [show 1152921504606846976 * M * (q' - 1152921504606846976 * (T * Q / M)) = 1152921504606846976 * (q' * M - t') + (t' * 1152921504606846976 - A * Z) + 1152921504606846976 * ((A - 1152921504606846976 * T) * Q) + (A - 1152921504606846976 * T) * (Z - 1152921504606846976 * Q) + 1152921504606846976 * (T * (Z - 1152921504606846976 * Q)) from by grind]
  have u0 : Wi (1152921504606846976 : Rat) 1152921504606846976 := Wi.of (by decide +kernel) (Rat.le_refl)
  refine (((((u0.mul h2).add h1).add (u0.mul e1)).add e2).add (u0.mul e3)).le ?_
  clear e1 e2 e3 h1 h2 hM u0 ha hz hT hQ
  grind

theorem wi_quot {a : Rat} {m : Nat} (hm : 2 ≤ m) (h : Wi a 1) : Wi (a / (m : Rat)) 1 := by
  have hm' : (2 : Rat) ≤ (m : Rat) := by
    have := Rat.natCast_le_natCast.2 hm
    exact this
  generalize (m : Rat) = M at *
  have hM : M * (a / M) = a := by
    rw [Rat.div_def, Rat.mul_comm a, ← Rat.mul_assoc, Rat.mul_inv_cancel _ (by grind), Rat.one_mul]
  refine wi_div (k := M) (by grind) ?_
  rw [hM]
  exact h.le (by grind)

/-- Both kinds of terms. -/
theorem aT_err (x z : Int) (X : Rat) (hX : Wi X (786 / 1000)) (hx : Wi ((x : Rat) - 1152921504606846976 * X) 4) (hz : Wi ((z : Rat) - 1152921504606846976 * (X * X)) 2) (k : Nat) :
    Wi ((aT x z k : Rat) - 1152921504606846976 * tS X k) 4 ∧ Wi (tS X k) 1 := by
  have hQ : Wi (X * X) (63 / 100) := (hX.mul hX).le (by decide +kernel)
  induction k with
  | zero => exact ⟨hx, hX.le (by decide +kernel)⟩
  | succ k ih =>
    rw [aT, tS]
    have hm : 2 ≤ (2 * k + 2) * (2 * k + 3) := by
      have := Nat.mul_le_mul (show 2 ≤ 2 * k + 2 by omega) (show 1 ≤ 2 * k + 3 by omega)
      omega
    exact ⟨step_err _ _ _ _ _ hm ih.2 hQ ih.1 hz, wi_quot hm ((ih.2.mul hQ).le (by decide +kernel))⟩
theorem bT_err (z : Int) (X : Rat) (hX : Wi X (786 / 1000)) (hz : Wi ((z : Rat) - 1152921504606846976 * (X * X)) 2) (k : Nat) :
    Wi ((bT z k : Rat) - 1152921504606846976 * tC X k) 4 ∧ Wi (tC X k) 1 := by
  have hQ : Wi (X * X) (63 / 100) := (hX.mul hX).le (by decide +kernel)
  induction k with
  | zero => exact ⟨⟨by rw [bT, tC]; decide +kernel, by rw [bT, tC]; decide +kernel⟩, ⟨by rw [tC]; decide, by rw [tC]; decide⟩⟩
  | succ k ih =>
    rw [bT, tC]
    have hm : 2 ≤ (2 * k + 1) * (2 * k + 2) := by
      have := Nat.mul_le_mul (show 1 ≤ 2 * k + 1 by omega) (show 2 ≤ 2 * k + 2 by omega)
      omega
    exact ⟨step_err _ _ _ _ _ hm ih.2 hQ ih.1 hz, wi_quot hm ((ih.2.mul hQ).le (by decide +kernel))⟩

theorem alt_err (t : Nat → Int) (T : Nat → Rat) (h : ∀ k, Wi ((t k : Rat) - 1152921504606846976 * T k) 4) (k : Nat) :
    Wi ((altI t k : Rat) - 1152921504606846976 * altR T k) (4 * ((k : Rat) + 1)) := by
  induction k with
  | zero =>
    rw [altI, altR]
    exact (h 0).le (by decide +kernel)
  | succ k ih =>
    rw [altI, altR]
    have e : (((k + 1 : Nat) : Rat)) = (k : Rat) + 1 := by rw [Rat.natCast_add]; rfl
    rw [e]
    split
    · rw [Rat.intCast_sub, show ((altI t k : Rat) - (t (k + 1) : Rat)) - 1152921504606846976 * (altR T k - T (k + 1)) = ((altI t k : Rat) - 1152921504606846976 * altR T k) - ((t (k + 1) : Rat) - 1152921504606846976 * T (k + 1)) from by grind]
      exact (ih.sub (h (k + 1))).le (by grind)
    · rw [Rat.intCast_add, show ((altI t k : Rat) + (t (k + 1) : Rat)) - 1152921504606846976 * (altR T k + T (k + 1)) = ((altI t k : Rat) - 1152921504606846976 * altR T k) + ((t (k + 1) : Rat) - 1152921504606846976 * T (k + 1)) from by grind]
      exact (ih.add (h (k + 1))).le (by grind)

/-- The series of r: its place on the circle, sine and cosine. -/
def serX (r : Int) : Int := near (r * 3622009729038561421) 11796480
def serZ (x : Int) : Int := near (x * x) 1152921504606846976
def serS (r : Int) : Int := near (altI (aT (serX r) (serZ (serX r))) 9) 1073741824
def serC (r : Int) : Int := near (altI (bT (serZ (serX r))) 9) 1073741824
/-- r degrees' 2^16ths as a fraction of the radius. -/
def ang (r : Int) : Rat := (r : Rat) * (3622009729038561421 / 13600415470664578215444480)

theorem ang_wi (r : Int) (h0 : 0 ≤ r) (h1 : r ≤ 2949120) : Wi (ang r) (786 / 1000) := by
  unfold ang
  have k0 : (0 : Rat) ≤ (r : Rat) := by have := Rat.intCast_le_intCast.2 h0; exact this
  have k1 : (r : Rat) ≤ 2949120 := by have := Rat.intCast_le_intCast.2 h1; exact this
  constructor <;> grind
theorem ang_wi2 (r : Int) (h0 : 0 ≤ r) (h1 : r ≤ 5898240) : Wi (ang r) (1571 / 1000) := by
  unfold ang
  have k0 : (0 : Rat) ≤ (r : Rat) := by have := Rat.intCast_le_intCast.2 h0; exact this
  have k1 : (r : Rat) ≤ 5898240 := by have := Rat.intCast_le_intCast.2 h1; exact this
  constructor <;> grind
theorem ang_add (a b : Int) : ang (a + b) = ang a + ang b := by
  unfold ang
  rw [Rat.intCast_add]
  grind

theorem serX_err (r : Int) : Wi ((serX r : Rat) - 1152921504606846976 * ang r) (1 / 2) := by
  have h := near_rat (r * 3622009729038561421) 11796480 (by decide)
  unfold serX ang
  generalize near (r * 3622009729038561421) 11796480 = x at *
  rw [Rat.intCast_mul] at h
  obtain ⟨h1, h2⟩ := h
  have e1 : ((11796480 : Nat) : Rat) = 11796480 := rfl
  have e2 : ((3622009729038561421 : Int) : Rat) = 3622009729038561421 := rfl
  rw [e1, e2] at h1 h2
  constructor <;> grind
theorem serZ_err (x : Int) (X : Rat) (hX : Wi X (786 / 1000)) (hx : Wi ((x : Rat) - 1152921504606846976 * X) (1 / 2)) : Wi ((serZ x : Rat) - 1152921504606846976 * (X * X)) 2 := by
  have h := near_rat (x * x) 1152921504606846976 (by decide)
  unfold serZ
  generalize near (x * x) 1152921504606846976 = z at *
  rw [Rat.intCast_mul] at h
  have e1 : ((1152921504606846976 : Nat) : Rat) = 1152921504606846976 := rfl
  rw [e1] at h
  have g1 := hx.mul hX
  have g2 := hx.mul hx
  generalize (x : Rat) = x' at *
  generalize (z : Rat) = z' at *
  refine wi_div (k := 1152921504606846976) (by decide +kernel) ?_
  rw [show 1152921504606846976 * (z' - 1152921504606846976 * (X * X)) = (z' * 1152921504606846976 - x' * x') + 1152921504606846976 * 2 * ((x' - 1152921504606846976 * X) * X) + (x' - 1152921504606846976 * X) * (x' - 1152921504606846976 * X) from by grind]
  have u0 : Wi (1152921504606846976 * 2 : Rat) (1152921504606846976 * 2) := Wi.of (by decide +kernel) (Rat.le_refl)
  exact ((h.add (u0.mul g1)).add g2).le (by decide +kernel)

theorem ser_end (v : Int) (F : Rat) (h : Wi ((v : Rat) - 1152921504606846976 * F) 40) : Wi ((near v 1073741824 : Rat) - 1073741824 * F) (501 / 1000) := by
  have k := near_rat v 1073741824 (by decide)
  generalize near v 1073741824 = s at *
  have e1 : ((1073741824 : Nat) : Rat) = 1073741824 := rfl
  rw [e1] at k
  obtain ⟨h1, h2⟩ := h
  obtain ⟨k1, k2⟩ := k
  constructor <;> grind

/-- Sine and cosine of 0 to 45 degrees are as near to the series as half of the last place, and a thousandth of it. -/
theorem ser_err (r : Int) (h0 : 0 ≤ r) (h1 : r ≤ 2949120) : Wi ((serS r : Rat) - 1073741824 * sf (ang r)) (501 / 1000) ∧ Wi ((serC r : Rat) - 1073741824 * cf (ang r)) (501 / 1000) := by
  have hX := ang_wi r h0 h1
  have hx := serX_err r
  have hz := serZ_err (serX r) (ang r) hX hx
  constructor
  · refine ser_end _ _ ?_
    rw [← altR_sf]
    exact (alt_err _ _ (fun k => (aT_err _ _ _ hX (hx.le (by decide +kernel)) hz k).1) 9).le (by decide +kernel)
  · refine ser_end _ _ ?_
    rw [← altR_cf]
    exact (alt_err _ _ (fun k => (bT_err _ _ hX hz k).1) 9).le (by decide +kernel)
end Go.Proofs.Ytdngoeabdpeigaa
