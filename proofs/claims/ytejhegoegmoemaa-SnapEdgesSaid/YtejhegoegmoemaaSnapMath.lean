/-
  Snapping, plainly: a number to the nearest multiple of 1024, of two that are as near to the greater one.
-/
import Derived.Test.YtejhegoegmoemaaBase
namespace Go.Proofs.Ytejhegoegmoemaa

def snapN (n : Int) : Int := if 512 ≤ n % 1024 then n - n % 1024 + 1024 else n - n % 1024
theorem snap_near (n : Int) : snapN n - n ≤ 512 ∧ n - snapN n ≤ 511 := by unfold snapN; split <;> omega
theorem snap_mul (n : Int) : snapN n % 1024 = 0 := by unfold snapN; split <;> omega
theorem snap_again (n : Int) : snapN (snapN n) = snapN n := by
  have h := snap_mul n
  generalize snapN n = x at *
  unfold snapN
  rw [h]
  split <;> omega
theorem snap_mono {n k : Int} (h : n ≤ k) : snapN n ≤ snapN k := by
  unfold snapN
  split <;> split <;> omega
theorem snap_move (n b : Int) : snapN (n + b * 1024) = snapN n + b * 1024 := by
  have e : (n + b * 1024) % 1024 = n % 1024 := by omega
  unfold snapN
  rw [e]
  split <;> omega
/-- The document's: what is left over (Go's %) is taken away, or made whole. -/
theorem left_over (n : Int) : (if n.tmod 1024 < 0 then n.tmod 1024 + 1024 else n.tmod 1024) = n % 1024 := by
  rw [Int.tmod_eq_emod]
  split <;> split <;> omega
theorem snap_bd {n B : Int} (h : -B ≤ n ∧ n ≤ B) : -B - 512 ≤ snapN n ∧ snapN n ≤ B + 512 := by
  have := snap_near n
  omega
/-- Shifts: what a shift down and up again leaves. -/
theorem snap_shift (n : Int) : (n + 512) / 1024 * 1024 = snapN n := by unfold snapN; split <;> omega
theorem snap_mask (n : Int) : n + 512 - (n + 512) % 1024 = snapN n := by unfold snapN; split <;> omega
end Go.Proofs.Ytejhegoegmoemaa
