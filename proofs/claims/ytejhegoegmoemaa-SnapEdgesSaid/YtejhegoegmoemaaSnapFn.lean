/-
  Package snap: Number.
-/
import Derived.Test.YtejhegoegmoemaaSnapMath
namespace Go.Proofs.Ytejhegoegmoemaa
open Go.RowKit Go.Shelf

theorem mask_low (M : Nat) (h : M < 18446744073709551616) : M &&& 18446744073709550592 = M / 1024 * 1024 := by
  have e1 : (18446744073709550592 : Nat) = (2 ^ 54 - 1) <<< 10 := by decide
  have e2 : M / 1024 * 1024 = (M >>> 10) <<< 10 := by rw [Nat.shiftLeft_eq, Nat.shiftRight_eq_div_pow]
  rw [e1, e2]
  refine Nat.eq_of_testBit_eq fun i => ?_
  rw [Nat.testBit_and, Nat.testBit_shiftLeft, Nat.testBit_shiftLeft, Nat.testBit_two_pow_sub_one, Nat.testBit_shiftRight]
  by_cases hi : 10 ≤ i
  · rw [Nat.add_sub_cancel' hi]
    by_cases h2 : i < 64
    · simp [hi, show i - 10 < 54 by omega]
    · rw [Nat.testBit_lt_two_pow (Nat.lt_of_lt_of_le (show M < 2 ^ 64 from h) (Nat.pow_le_pow_right (by decide) (by omega)))]
      simp
  · simp [hi]
theorem ofInt_i64 {m : Int} (h : I64 m) : ((BitVec.ofInt 64 m).toNat : Int) = if m < 0 then m + 18446744073709551616 else m := by
  obtain ⟨h1, h2⟩ := h
  rw [BitVec.toNat_ofInt]
  split <;> omega
/-- The low ten bits cleared: the multiple of 1024 below. -/
theorem andNot_low {m : Int} (h : I64 m) : bits .andNot .i64 m 1023 = m - m % 1024 := by
  show IntKind.i64.wrap ((BitVec.ofInt 64 m &&& ~~~BitVec.ofInt 64 1023).toNat : Int) = _
  have hx := ofInt_i64 h
  have hl := (BitVec.ofInt 64 m).isLt
  obtain ⟨h1, h2⟩ := h
  rw [BitVec.toNat_and, BitVec.toNat_not, show (BitVec.ofInt 64 1023).toNat = 1023 by decide, show 2 ^ 64 - 1 - 1023 = 18446744073709550592 by decide, mask_low _ hl]
  generalize (BitVec.ofInt 64 m).toNat = M at *
  simp only [IntKind.wrap, IntKind.bits, IntKind.signed]
  split at hx <;> (simp; split <;> omega)
theorem number_any (n : Int) (w : World) (h1 : -9223372036854774784 ≤ n) (h2 : n ≤ 9223372036854774783) :
    Calls Try.prog 8 #[.int .i64 n] w fun e w' => e = .returned (.int .i64 (snapN n)) ∧ w = w' := by
  have ew : wrap64 (n + 512) = n + 512 := by unfold wrap64; omega
  have eb := andNot_low (m := n + 512) ⟨by omega, by omega⟩
  rw [snap_mask] at eb
  go_enter Try.func8, Try.ntmps8
  go_wp2_with fail
  go_ret
  exact ⟨rfl, rfl⟩
end Go.Proofs.Ytejhegoegmoemaa
