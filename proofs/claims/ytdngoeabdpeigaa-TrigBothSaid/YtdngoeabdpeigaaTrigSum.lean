/-
  Sine and cosine of a sum, as near as 12 in 10^12, where the one is at most 1571 thousandths and the other one 786 thousandths.
-/
import Derived.Test.YtdngoeabdpeigaaTrigWi
import Derived.Test.YtdngoeabdpeigaaTrigAddS
import Derived.Test.YtdngoeabdpeigaaTrigAddC
namespace Go.Proofs.Ytdngoeabdpeigaa

def ab (c : Rat) : Rat := if c < 0 then -c else c
theorem ab_wi (c : Rat) : Wi c (ab c) := by
  unfold ab
  split <;> constructor <;> grind
def absL : List (Rat × Nat × Nat) → List (Rat × Nat × Nat)
  | [] => []
  | (c, i, j) :: l => (ab c, i, j) :: absL l
theorem evalL_wi (l : List (Rat × Nat × Nat)) {X Y a b : Rat} (hX : Wi X a) (hY : Wi Y b) : Wi (evalL l X Y) (evalL (absL l) a b) := by
  induction l with
  | nil => constructor <;> simp only [evalL, absL] <;> decide
  | cons h l ih =>
    obtain ⟨c, i, j⟩ := h
    exact (((ab_wi c).mul (hX.pow i)).mul (hY.pow j)).add ih

theorem restS_le : evalL (absL restSL) (1571 / 1000) (786 / 1000) ≤ 121645100408832000 * 6402373705728000 * (12 / 1000000000000) := by decide +kernel
theorem restC_le : evalL (absL restCL) (1571 / 1000) (786 / 1000) ≤ 121645100408832000 * 121645100408832000 * (12 / 1000000000000) := by decide +kernel

theorem wi_div {a A k : Rat} (hk : 0 < k) (h : Wi (k * a) (k * A)) : Wi a A := by
  obtain ⟨h1, h2⟩ := h
  constructor
  · refine Rat.not_lt.1 fun hlt => ?_
    have := Rat.mul_pos hk (show 0 < -A - a by grind)
    grind
  · refine Rat.not_lt.1 fun hlt => ?_
    have := Rat.mul_pos hk (show 0 < a - A by grind)
    grind

theorem add_sf {X Y : Rat} (hX : Wi X (1571 / 1000)) (hY : Wi Y (786 / 1000)) : Wi (sf (X + Y) - (sf X * cf Y + cf X * sf Y)) (12 / 1000000000000) := by
  have h := (evalL_wi restSL hX hY).le restS_le
  rw [← add_ss, ss_sf, ss_sf, ss_sf, cc_cf, cc_cf] at h
  refine wi_div (k := 121645100408832000 * 6402373705728000) (by decide +kernel) ?_
  rw [show (121645100408832000 : Rat) * 6402373705728000 * (sf (X + Y) - (sf X * cf Y + cf X * sf Y)) = 6402373705728000 * (121645100408832000 * sf (X + Y)) - (121645100408832000 * sf X * (6402373705728000 * cf Y) + 6402373705728000 * cf X * (121645100408832000 * sf Y)) from by grind]
  exact h
theorem add_cf {X Y : Rat} (hX : Wi X (1571 / 1000)) (hY : Wi Y (786 / 1000)) : Wi (cf (X + Y) - (cf X * cf Y - sf X * sf Y)) (12 / 1000000000000) := by
  have h := (evalL_wi restCL hX hY).le restC_le
  rw [← add_cc, ss_sf, ss_sf, cc_cf, cc_cf, cc_cf] at h
  refine wi_div (k := 121645100408832000 * 121645100408832000) (by decide +kernel) ?_
  rw [show (121645100408832000 : Rat) * 121645100408832000 * (cf (X + Y) - (cf X * cf Y - sf X * sf Y)) = 361 * 6402373705728000 * (6402373705728000 * cf (X + Y)) - (361 * (6402373705728000 * cf X * (6402373705728000 * cf Y)) - 121645100408832000 * sf X * (121645100408832000 * sf Y)) from by grind]
  rw [show (361 : Rat) * 6402373705728000 = 2311256907767808000 from by decide +kernel]
  exact h
end Go.Proofs.Ytdngoeabdpeigaa
