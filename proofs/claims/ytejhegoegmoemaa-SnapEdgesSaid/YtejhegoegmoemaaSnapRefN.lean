/-
  The document's answer of layer 14: Number.
-/
import Derived.Test.YtejhegoegmoemaaSnapMath
namespace Go.Proofs.Ytejhegoegmoemaa
open Go.RowKit Go.Shelf

set_option maxRecDepth 100000 in
theorem rnumber_any (n : Int) (w : World) (h1 : -9223372036854774784 ≤ n) (h2 : n ≤ 9223372036854774783) :
    Calls Try.prog 9 #[.int .i64 n] w fun e w' => e = .returned (.int .i64 (snapN n)) ∧ w = w' := by
  have hl := left_over n
  have hr : -1023 ≤ n.tmod 1024 ∧ n.tmod 1024 ≤ 1023 := by
    have := Int.tmod_lt_of_pos n (show (0 : Int) < 1024 by decide)
    have := Int.lt_tmod_of_pos n (show (0 : Int) < 1024 by decide)
    omega
  have hq : 0 ≤ n % 1024 ∧ n % 1024 < 1024 := by omega
  unfold snapN
  obtain ⟨r, er⟩ : ∃ r, n.tmod 1024 = r := ⟨_, rfl⟩
  rw [er] at hl hr
  generalize n % 1024 = q at *
  obtain ⟨hr1, hr2⟩ := hr
  obtain ⟨hq1, hq2⟩ := hq
  by_cases hc : r < 0
  · rw [if_pos hc] at hl
    subst hl
    have ew : wrap64 (r + 1024) = r + 1024 := by unfold wrap64; omega
    by_cases hd : 512 ≤ r + 1024
    · rw [if_pos hd]
      have d1 : decide (512 ≤ r + 1024) = true := decide_eq_true hd
      have e1 : wrap64 (n - (r + 1024)) = n - (r + 1024) := by unfold wrap64; omega
      have e2 : wrap64 (n - (r + 1024) + 1024) = n - (r + 1024) + 1024 := by unfold wrap64; omega
      go_enter Try.func9, Try.ntmps9
      go_wp2_with fail
      go_ret
      exact ⟨rfl, rfl⟩
    · rw [if_neg hd]
      have d1 : decide (512 ≤ r + 1024) = false := decide_eq_false hd
      have e1 : wrap64 (n - (r + 1024)) = n - (r + 1024) := by unfold wrap64; omega
      go_enter Try.func9, Try.ntmps9
      go_wp2_with fail
      go_ret
      exact ⟨rfl, rfl⟩
  · rw [if_neg hc] at hl
    subst hl
    by_cases hd : 512 ≤ r
    · rw [if_pos hd]
      have e1 : wrap64 (n - r) = n - r := by unfold wrap64; omega
      have e2 : wrap64 (n - r + 1024) = n - r + 1024 := by unfold wrap64; omega
      go_enter Try.func9, Try.ntmps9
      go_wp2_with fail
      go_ret
      exact ⟨rfl, rfl⟩
    · rw [if_neg hd]
      have e1 : wrap64 (n - r) = n - r := by unfold wrap64; omega
      go_enter Try.func9, Try.ntmps9
      go_wp2_with fail
      go_ret
      exact ⟨rfl, rfl⟩
end Go.Proofs.Ytejhegoegmoemaa
