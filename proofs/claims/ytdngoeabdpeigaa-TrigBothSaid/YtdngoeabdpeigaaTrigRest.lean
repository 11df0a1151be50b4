/-
  Sine and cosine of 0 to 90 degrees: within 1, on the circle, and those of a sum.
-/
import Derived.Test.YtdngoeabdpeigaaTrigSer
namespace Go.Proofs.Ytdngoeabdpeigaa

theorem sf_neg (X : Rat) : sf (-X) = -sf X := by unfold sf; grind
theorem cf_neg (X : Rat) : cf (-X) = cf X := by unfold cf; grind
theorem cf_zero : cf 0 = 1 := by decide +kernel

theorem circ {X : Rat} (hX : Wi X (786 / 1000)) : Wi (1 - (cf X * cf X + sf X * sf X)) (12 / 1000000000000) := by
  have h := add_cf (hX.le (by decide +kernel)) hX.neg
  rw [cf_neg, sf_neg, show X + -X = 0 from by grind, cf_zero] at h
  rw [show cf X * cf X - sf X * -sf X = cf X * cf X + sf X * sf X from by grind] at h
  exact h

theorem sq_wi {a e : Rat} (he : 0 ≤ e) (h : a * a ≤ 1 + e) : Wi a (1 + e) := by
  constructor
  · refine Rat.not_lt.1 fun hlt => ?_
    have := Rat.mul_pos (show 0 < -(1 + e) - a by grind) (show 0 < -(1 + e) - a by grind)
    have h2 := Rat.mul_pos (show 0 < -(1 + e) - a by grind) (show (0 : Rat) < 1 + e by grind)
    have h3 := Rat.mul_nonneg he he
    grind
  · refine Rat.not_lt.1 fun hlt => ?_
    have := Rat.mul_pos (show 0 < a - (1 + e) by grind) (show 0 < a - (1 + e) by grind)
    have h2 := Rat.mul_pos (show 0 < a - (1 + e) by grind) (show (0 : Rat) < 1 + e by grind)
    have h3 := Rat.mul_nonneg he he
    grind
theorem sq_nn (a : Rat) : 0 ≤ a * a := by
  by_cases h : 0 ≤ a
  · exact Rat.mul_nonneg h h
  · have := Rat.mul_nonneg (show 0 ≤ -a by grind) (show 0 ≤ -a by grind)
    grind

theorem one_wi {X : Rat} (hX : Wi X (786 / 1000)) : Wi (sf X) (1 + 12 / 1000000000000) ∧ Wi (cf X) (1 + 12 / 1000000000000) := by
  obtain ⟨h1, h2⟩ := circ hX
  have k1 := sq_nn (sf X)
  have k2 := sq_nn (cf X)
  exact ⟨sq_wi (by decide +kernel) (by grind), sq_wi (by decide +kernel) (by grind)⟩

/-- A quarter. -/
theorem quarter_sf : Wi (sf (ang 5898240) - 1) (1 / 10000000000000) := by
  constructor <;> decide +kernel
theorem quarter_cf : Wi (cf (ang 5898240)) (1 / 10000000000000) := by
  constructor <;> decide +kernel

def restS (r : Int) : Int := if r ≤ 2949120 then serS r else serC (5898240 - r)
def restC (r : Int) : Int := if r ≤ 2949120 then serC r else serS (5898240 - r)

theorem ang_back (r : Int) : ang r = ang 5898240 + -ang (5898240 - r) := by
  have := ang_add r (5898240 - r)
  rw [show r + (5898240 - r) = 5898240 from by omega] at this
  grind

theorem rest_err (r : Int) (h0 : 0 ≤ r) (h1 : r ≤ 5898240) : Wi ((restS r : Rat) - 1073741824 * sf (ang r)) (52 / 100) ∧ Wi ((restC r : Rat) - 1073741824 * cf (ang r)) (52 / 100) := by
  unfold restS restC
  by_cases h : r ≤ 2949120
  · rw [if_pos h, if_pos h]
    have k := ser_err r h0 h
    exact ⟨k.1.le (by decide +kernel), k.2.le (by decide +kernel)⟩
  · rw [if_neg h, if_neg h]
    have k := ser_err (5898240 - r) (by omega) (by omega)
    have hY := ang_wi (5898240 - r) (by omega) (by omega)
    have hH := ang_wi2 5898240 (by decide) (by decide)
    have o := one_wi hY
    have a1 := add_sf hH hY.neg
    have a2 := add_cf hH hY.neg
    rw [← ang_back r, sf_neg, cf_neg] at a1 a2
    have q1 := quarter_sf.mul o.2
    have q2 := quarter_cf.mul o.1
    have q3 := quarter_cf.mul o.2
    have q4 := quarter_sf.mul o.1
    generalize sf (ang (5898240 - r)) = S' at *
    generalize cf (ang (5898240 - r)) = C' at *
    generalize sf (ang r) = S at *
    generalize cf (ang r) = C at *
    generalize sf (ang 5898240) = SH at *
    generalize cf (ang 5898240) = CH at *
    generalize (serS (5898240 - r) : Rat) = s at *
    generalize (serC (5898240 - r) : Rat) = c at *
    have U : Wi (1073741824 : Rat) 1073741824 := Wi.of (by decide +kernel) (Rat.le_refl)
    constructor
    · rw [show c - 1073741824 * S = (c - 1073741824 * C') - 1073741824 * (S - (SH * C' + CH * -S')) - 1073741824 * ((SH - 1) * C') + 1073741824 * (CH * S') from by grind]
      exact (((k.2.sub (U.mul a1)).sub (U.mul q1)).add (U.mul q2)).le (by decide +kernel)
    · rw [show s - 1073741824 * C = (s - 1073741824 * S') - 1073741824 * (C - (CH * C' - SH * -S')) - 1073741824 * (CH * C') - 1073741824 * ((SH - 1) * S') from by grind]
      exact (((k.1.sub (U.mul a2)).sub (U.mul q3)).sub (U.mul q4)).le (by decide +kernel)

theorem int_le {a : Int} {b : Int} (h : (a : Rat) < (b : Rat) + 1) : a ≤ b := by
  have e : (b : Rat) + 1 = ((b + 1 : Int) : Rat) := by rw [Rat.intCast_add]; rfl
  rw [e] at h
  have := Rat.intCast_lt_intCast.1 h
  omega

/-- Both lie from -1 to 1. -/
theorem ser_one (r : Int) (h0 : 0 ≤ r) (h1 : r ≤ 2949120) : (-1073741824 ≤ serS r ∧ serS r ≤ 1073741824) ∧ (-1073741824 ≤ serC r ∧ serC r ≤ 1073741824) := by
  have k := ser_err r h0 h1
  have o := one_wi (ang_wi r h0 h1)
  obtain ⟨⟨k1, k2⟩, ⟨k3, k4⟩⟩ := k
  obtain ⟨⟨o1, o2⟩, ⟨o3, o4⟩⟩ := o
  have e1 : ((1073741824 : Int) : Rat) = 1073741824 := rfl
  have e2 : ((-1073741824 : Int) : Rat) = -1073741824 := by decide +kernel
  refine ⟨⟨int_le ?_, int_le ?_⟩, ⟨int_le ?_, int_le ?_⟩⟩
  · rw [e2]; grind
  · rw [e1]; grind
  · rw [e2]; grind
  · rw [e1]; grind
theorem rest_one (r : Int) (h0 : 0 ≤ r) (h1 : r ≤ 5898240) : (-1073741824 ≤ restS r ∧ restS r ≤ 1073741824) ∧ (-1073741824 ≤ restC r ∧ restC r ≤ 1073741824) := by
  unfold restS restC
  by_cases h : r ≤ 2949120
  · rw [if_pos h, if_pos h]
    exact ser_one r h0 h
  · rw [if_neg h, if_neg h]
    exact (ser_one (5898240 - r) (by omega) (by omega)).symm

theorem one_rat {s : Int} (h : -1073741824 ≤ s ∧ s ≤ 1073741824) : Wi (s : Rat) 1073741824 := by
  have h1 := Rat.intCast_le_intCast.2 h.1
  have h2 := Rat.intCast_le_intCast.2 h.2
  have e1 : ((1073741824 : Int) : Rat) = 1073741824 := rfl
  have e2 : ((-1073741824 : Int) : Rat) = -1073741824 := by decide +kernel
  rw [e2] at h1
  rw [e1] at h2
  exact ⟨h1, h2⟩

/-- A product of two whole numbers that are near to two fractions. -/
theorem prod_err {a b A B : Rat} (h1 : Wi (a - A) (52 / 100)) (h2 : Wi (b - B) (52 / 100)) (ha : Wi a 1073741824) (hb : Wi b 1073741824) : Wi (a * b - A * B) (1116691500) := by
  have e1 := h1.mul h2
  have e2 := h1.mul hb
  have e3 := ha.mul h2
  rw [show a * b - A * B = (a - A) * b + a * (b - B) - (a - A) * (b - B) from by grind]
  exact ((e2.add e3).sub e1).le (by decide +kernel)

/-- On the circle. -/
theorem ser_circle (r : Int) (h0 : 0 ≤ r) (h1 : r ≤ 2949120) : -4294967296 ≤ serS r * serS r + serC r * serC r - 1152921504606846976 ∧ serS r * serS r + serC r * serC r - 1152921504606846976 ≤ 4294967296 := by
  have k := ser_err r h0 h1
  have o := ser_one r h0 h1
  have c := circ (ang_wi r h0 h1)
  have p1 := prod_err (k.1.le (by decide +kernel)) (k.1.le (by decide +kernel)) (one_rat o.1) (one_rat o.1)
  have p2 := prod_err (k.2.le (by decide +kernel)) (k.2.le (by decide +kernel)) (one_rat o.2) (one_rat o.2)
  generalize sf (ang r) = S at *
  generalize cf (ang r) = C at *
  have U : Wi (1152921504606846976 : Rat) 1152921504606846976 := Wi.of (by decide +kernel) (Rat.le_refl)
  have e : Wi ((serS r : Rat) * serS r + (serC r : Rat) * serC r - 1152921504606846976) 4294967296 := by
    rw [show (serS r : Rat) * serS r + (serC r : Rat) * serC r - 1152921504606846976 = ((serS r : Rat) * serS r - 1073741824 * S * (1073741824 * S)) + ((serC r : Rat) * serC r - 1073741824 * C * (1073741824 * C)) - 1152921504606846976 * (1 - (C * C + S * S)) from by grind]
    exact ((p1.add p2).sub (U.mul c)).le (by decide +kernel)
  obtain ⟨e1, e2⟩ := e
  have f : ((serS r * serS r + serC r * serC r - 1152921504606846976 : Int) : Rat) = (serS r : Rat) * serS r + (serC r : Rat) * serC r - 1152921504606846976 := by
    rw [Rat.intCast_sub, Rat.intCast_add, Rat.intCast_mul, Rat.intCast_mul]; rfl
  rw [← f] at e1 e2
  constructor
  · refine Rat.intCast_le_intCast.1 ?_
    exact Rat.le_trans (by decide +kernel) e1
  · refine Rat.intCast_le_intCast.1 ?_
    exact Rat.le_trans e2 (by decide +kernel)
end Go.Proofs.Ytdngoeabdpeigaa
