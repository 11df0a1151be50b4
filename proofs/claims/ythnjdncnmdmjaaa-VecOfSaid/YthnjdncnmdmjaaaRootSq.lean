/-
  The contracts of package root's square, squareAbove and size.
-/
import Derived.Test.YthnjdncnmdmjaaaMul64
import Derived.Test.YthnjdncnmdmjaaaRootMath
namespace Go.Proofs.Ythnjdncnmdmjaaa
open Go.RowKit Go.Shelf

theorem square_any (n : Nat) (hn : n < 18446744073709551616) (w : World) :
    Calls Try.prog 59 #[.int .u64 n] w fun e w' => e = .returned (.tuple #[.int .u64 ((n * n / 18446744073709551616 : Nat) : Int), .int .u64 ((n * n % 18446744073709551616 : Nat) : Int)]) ∧ w = w' := by
  have C := Lib.hid (mul64_any n n hn hn w)
  clear hn
  generalize n * n / 18446744073709551616 = h at *
  generalize n * n % 18446744073709551616 = l at *
  go_enter Try.func59, Try.ntmps59
  go_wp2_with fail
  refine C.out.mono ?_
  rintro e w' ⟨rfl, rfl⟩
  go_wp2_with fail
  go_ret2
  exact ⟨rfl, rfl⟩

/-- Is the square of n greater than N? -/
def aboveB (n N : Nat) : Bool := decide (N < n * n)

theorem above_words (n hi lo : Nat) (hl : lo < 18446744073709551616) :
    aboveB n (hi * 18446744073709551616 + lo) = (decide (hi < n * n / 18446744073709551616) || (decide (n * n / 18446744073709551616 = hi) && decide (lo < n * n % 18446744073709551616))) := by
  unfold aboveB
  generalize n * n = q
  rw [Bool.eq_iff_iff]
  simp only [decide_eq_true_eq, Bool.or_eq_true, Bool.and_eq_true]
  omega

theorem squareAbove_any (n hi lo : Nat) (hn : n < 18446744073709551616) (hl : lo < 18446744073709551616) (w : World) :
    Calls Try.prog 91 #[.int .u64 n, .int .u64 hi, .int .u64 lo] w fun e w' => e = .returned (.bool (aboveB n (hi * 18446744073709551616 + lo))) ∧ w = w' := by
  have C := Lib.hid (square_any n hn w)
  rw [above_words n hi lo hl]
  clear hn hl
  generalize n * n / 18446744073709551616 = h at *
  generalize n * n % 18446744073709551616 = l at *
  by_cases g1 : hi < h
  · have d1 : decide (hi < h) = true := by simp [g1]
    rw [d1]
    go_enter Try.func91, Try.ntmps91
    go_wp2_with fail
    refine C.out.mono ?_
    rintro e w' ⟨rfl, rfl⟩
    go_wp2_with fail
    go_ret
    exact ⟨by simp, rfl⟩
  · have d1 : decide (hi < h) = false := by simp; omega
    rw [d1]
    by_cases g2 : h = hi
    · subst g2
      go_enter Try.func91, Try.ntmps91
      go_wp2_with fail
      refine C.out.mono ?_
      rintro e w' ⟨rfl, rfl⟩
      go_wp2_with fail
      go_ret
      exact ⟨by simp, rfl⟩
    · have d2 : decide (h = hi) = false := by simp [g2]
      have d3 : ((h : Int) == (hi : Int)) = false := by rw [beq_eq_false_iff_ne]; omega
      rw [d2]
      go_enter Try.func91, Try.ntmps91
      go_wp2_with fail
      refine C.out.mono ?_
      rintro e w' ⟨rfl, rfl⟩
      go_wp2_with fail
      go_ret
      exact ⟨by simp, rfl⟩

theorem rsize_neg (a : Int) (w : World) (h : a < 0) (h1 : -9223372036854775808 ≤ a) :
    Calls Try.prog 60 #[.int .i64 a] w fun e w' => e = .returned (.int .u64 (-a)) ∧ w = w' := by
  go_enter Try.func60, Try.ntmps60
  go_wp2
  go_ret
  refine ⟨?_, rfl⟩
  show Ending.returned (.int .u64 _) = _
  rw [show IntKind.u64.wrap (-IntKind.u64.wrap a) = -a from by rw [IntKind.wrap_u64, IntKind.wrap_u64]; omega]

theorem rsize_pos (a : Int) (w : World) (h : 0 ≤ a) (h1 : a ≤ 9223372036854775807) :
    Calls Try.prog 60 #[.int .i64 a] w fun e w' => e = .returned (.int .u64 a) ∧ w = w' := by
  go_enter Try.func60, Try.ntmps60
  go_wp2
  go_ret
  refine ⟨?_, rfl⟩
  show Ending.returned (.int .u64 _) = _
  first
    | rfl
    | rw [show IntKind.u64.wrap a = a from by rw [IntKind.wrap_u64]; omega]

/-- size: the number without its sign. -/
theorem rsize_any (a : Int) (w : World) (h0 : -9223372036854775808 ≤ a) (h1 : a ≤ 9223372036854775807) :
    Calls Try.prog 60 #[.int .i64 a] w fun e w' => e = .returned (.int .u64 (a.natAbs : Int)) ∧ w = w' := by
  by_cases h : a < 0
  · rw [show (a.natAbs : Int) = -a from by omega]; exact rsize_neg a w h h0
  · rw [show (a.natAbs : Int) = a from by omega]; exact rsize_pos a w (by omega) h1
end Go.Proofs.Ythnjdncnmdmjaaa
