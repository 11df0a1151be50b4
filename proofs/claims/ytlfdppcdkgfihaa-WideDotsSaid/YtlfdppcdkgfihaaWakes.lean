/-
  The laws' first question: the document's examples hold; and the plain arithmetic of MulDiv and MulShift that the laws lean on.
-/
import Derived.Test.YtlfdppcdkgfihaaOps
namespace Go.Proofs.Ytlfdppcdkgfihaa
open Go.RowKit Go.Shelf

theorem wake1 : Pair (muldiv 7 3 2) = .tuple #[.int .i64 11, .bool true] := by
  have e : muldiv 7 3 2 = 11 := by decide
  rw [e]; rfl
theorem wake2 : Pair (muldiv (-7) 3 2) = .tuple #[.int .i64 (-10), .bool true] := by
  have e : muldiv (-7) 3 2 = -10 := by decide
  rw [e]; rfl
theorem wake3 : Pair (dot (-5) 1 0 0 1) = .tuple #[.int .i64 (-2), .bool true] := by
  have e : dot (-5) 1 0 0 1 = -2 := by decide
  rw [e]; rfl

theorem wakes_any (w : World) : Calls Try.prog 9 #[] w fun e w' => e = .returned (.bool true) ∧ Below w.heap.size w w' := by
  have A := Lib.hid (fun w => muldiv_any 7 3 2 w (by unfold I64; omega) (by unfold I64; omega) (by unfold I64; omega) (by decide))
  have B := Lib.hid (fun w => muldiv_any (-7) 3 2 w (by unfold I64; omega) (by unfold I64; omega) (by unfold I64; omega) (by decide))
  have C := Lib.hid (fun w => mulshift_any (-5) 1 1 w (by unfold I64; omega) (by unfold I64; omega) (by omega))
  rw [wake1] at A
  rw [wake2] at B
  rw [wake3] at C
  go_enter Try.func9, Try.ntmps9
  go_wp2_with fail
  refine (A.out _).mono ?_
  rintro e w1 ⟨rfl, b1⟩
  go_wp2_with fail
  refine (B.out _).mono ?_
  rintro e w2 ⟨rfl, b2⟩
  go_wp2_with fail
  refine (C.out _).mono ?_
  rintro e w3 ⟨rfl, b3⟩
  go_wp2
  go_ret
  have s1 := b1.size
  have s2 := b2.size
  exact ⟨rfl, (b1.trans (b2.mono s1)).trans (b3.mono (by omega))⟩

theorem i64_wf {a : Int} (h : (Lit.int .i64 a).wf = true) : I64 a := by
  simp [Lit.wf, IntKind.min, IntKind.max, IntKind.signed, IntKind.bits] at h
  exact ⟨by omega, by omega⟩

/-- A product divided by one of its factors is the other one. -/
theorem muldiv_back (a b : Int) (h : b ≠ 0) : muldiv a b b = a := by
  unfold muldiv near
  by_cases h1 : 0 < b
  · rw [if_pos h1, show (b.natAbs : Int) = b from by omega, Int.add_comm, Int.add_mul_ediv_right _ _ h, Int.ediv_eq_zero_of_lt (by omega) (by omega)]
    omega
  · rw [if_neg h1, show (b.natAbs : Int) = -b from by omega, ← Int.mul_neg, Int.add_comm, Int.add_mul_ediv_right _ _ (by omega), Int.ediv_eq_zero_of_lt (by omega) (by omega)]
    omega
theorem fits_i64 {a : Int} (h : I64 a) : fits a = true := decide_eq_true h
theorem told_i64 {a : Int} (h : I64 a) : told a = a := by unfold told; rw [if_pos (fits_i64 h)]
theorem pair_i64 {a : Int} (h : I64 a) : Pair a = .tuple #[.int .i64 a, .bool true] := by unfold Pair; rw [told_i64 h, fits_i64 h]
theorem dot_comm (a b : Int) (s : Nat) : dot b a 0 0 s = dot a b 0 0 s := by unfold dot; rw [Int.mul_comm b a]
end Go.Proofs.Ytlfdppcdkgfihaa
