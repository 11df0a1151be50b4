/-
  The document's answers of layer 9: near, in, Right.
-/
import Derived.Test.YthnjdncnmdmjaaaVecMath
import Derived.Test.YthnjdncnmdmjaaaAffMust
import Derived.Test.YthnjdncnmdmjaaaRefMulDiv
import Derived.Deep.DeepCutAuto
namespace Go.Proofs.Ythnjdncnmdmjaaa
open Go.RowKit Go.Shelf

set_option maxHeartbeats 1000000 in
theorem rnear9 (a b c : Int) (w : World) (ha : I64 a) (hb : I64 b) (hc : I64 c) (h : c ≠ 0) (hf : I64 (muldiv a b c)) :
    Calls Try.prog 48 #[.int .i64 a, .int .i64 b, .int .i64 c] w fun e w' => e = .returned (.int .i64 (muldiv a b c)) ∧ Below w.heap.size w w' := by
  have M := Lib.hid (fun w => refmuldiv_any a b c w ha hb hc h)
  rw [pair_i64 hf] at M
  generalize muldiv a b c = s at *
  clear ha hb hc h hf
  go_enter Try.func48, Try.ntmps48
  go_wp2_with fail
  refine (M.out _).mono ?_
  rintro e w1 ⟨rfl, b1⟩
  go_wp2_with fail
  go_ret
  exact ⟨rfl, b1⟩
/-- No greater than 1 and 64, either way. -/
theorem rin9 (n : Int) (w : World) : Calls Try.prog 49 #[.int .i64 n] w fun e w' => e = .returned (.bool (decide (n ≤ 1073741888 ∧ -1073741888 ≤ n))) ∧ w = w' := by
  by_cases h1 : n ≤ 1073741888
  · by_cases h2 : -1073741888 ≤ n
    · rw [decide_eq_true (show n ≤ 1073741888 ∧ -1073741888 ≤ n from ⟨h1, h2⟩)]
      go_enter Try.func49, Try.ntmps49
      go_wp2_with fail
      go_ret
      exact ⟨rfl, rfl⟩
    · rw [decide_eq_false (show ¬ (n ≤ 1073741888 ∧ -1073741888 ≤ n) from fun h => h2 h.2)]
      go_enter Try.func49, Try.ntmps49
      go_wp2_with fail
      go_ret
      exact ⟨rfl, rfl⟩
  · rw [decide_eq_false (show ¬ (n ≤ 1073741888 ∧ -1073741888 ≤ n) from fun h => h1 h.1)]
    go_enter Try.func49, Try.ntmps49
    go_wp2_with fail
    go_ret
    exact ⟨rfl, rfl⟩
/-- The square of a number that is no greater than 1 and 64. -/
theorem sq_in1 {x : Int} (h : x ≤ 1073741888 ∧ -1073741888 ≤ x) : 0 ≤ x * x ∧ x * x ≤ 1152921642045804544 := by
  have e := nat_sq x
  have l := sq_le_nat x 1073741888 (by omega)
  omega
set_option maxHeartbeats 4000000 in
set_option maxRecDepth 100000 in
theorem rright9 (x y : Int) (w : World) : Calls Try.prog 23 #[.agg #[.int .i64 x, .int .i64 y]] w fun e w' => e = .returned (.bool (decide (rightD x y))) ∧ Below w.heap.size w w' := by
  have I1 := Lib.hid (fun w => rin9 x w)
  have I2 := Lib.hid (fun w => rin9 y w)
  have al := (Below.refl w.heap.size w).alloc (Nat.le_refl _) (.cells #[.int .i64 x, .int .i64 y] 25)
  have HB0 := Lib.hid al
  have HP0 := Lib.hid (PBox.new w x y)
  clear al
  by_cases h1 : x ≤ 1073741888 ∧ -1073741888 ≤ x
  case neg =>
    rw [decide_eq_false (show ¬ rightD x y from fun h => h1 h.1)]
    rw [decide_eq_false h1] at I1
    clear h1
    go_enter Try.func23, Try.ntmps23
    go_upto_region 1 with fail
    generalize w.alloc (.cells #[.int .i64 x, .int .i64 y] 25) = w1 at *
    have z0 := HP0.out.c0; have z1 := HP0.out.c1
    go_wp2_with fail
    refine (I1.out _).mono ?_
    rintro e w2 ⟨rfl, rfl⟩
    go_wp2_with fail
    go_ret
    exact ⟨rfl, HB0.out⟩
  by_cases h2 : y ≤ 1073741888 ∧ -1073741888 ≤ y
  case neg =>
    rw [decide_eq_false (show ¬ rightD x y from fun h => h2 h.2.1)]
    rw [decide_eq_true h1] at I1
    rw [decide_eq_false h2] at I2
    clear h1 h2
    go_enter Try.func23, Try.ntmps23
    go_upto_region 1 with fail
    generalize w.alloc (.cells #[.int .i64 x, .int .i64 y] 25) = w1 at *
    have z0 := HP0.out.c0; have z1 := HP0.out.c1
    go_wp2_with fail
    refine (I1.out _).mono ?_
    rintro e w2 ⟨rfl, rfl⟩
    go_wp2_with fail
    refine (I2.out _).mono ?_
    rintro e w2 ⟨rfl, rfl⟩
    go_wp2_with fail
    go_ret
    exact ⟨rfl, HB0.out⟩
  have dd : decide (rightD x y) = decide (1152921367167897600 ≤ x * x + y * y ∧ x * x + y * y < 1152921644193288321) := decide_eq_decide.2 ⟨fun h => h.2.2, fun h => ⟨h1, h2, h⟩⟩
  rw [dd]
  clear dd
  rw [decide_eq_true h1] at I1
  rw [decide_eq_true h2] at I2
  have q1 := sq_in1 h1
  have q2 := sq_in1 h2
  clear h1 h2
  obtain ⟨R, hR⟩ : ∃ R, decide (1152921367167897600 ≤ x * x + y * y ∧ x * x + y * y < 1152921644193288321) = R := ⟨_, rfl⟩
  rw [hR]
  go_enter Try.func23, Try.ntmps23
  go_upto_region 1 with fail
  generalize w.alloc (.cells #[.int .i64 x, .int .i64 y] 25) = w1 at *
  have z0 := HP0.out.c0; have z1 := HP0.out.c1
  go_wp2_with fail
  refine (I1.out _).mono ?_
  rintro e w2 ⟨rfl, rfl⟩
  go_wp2_with fail
  refine (I2.out _).mono ?_
  rintro e w2 ⟨rfl, rfl⟩
  by_cases h1 : 1152921367167897600 ≤ x * x + y * y
  · obtain rfl : decide (x * x + y * y < 1152921644193288321) = R := by rw [← hR]; exact decide_eq_decide.2 ⟨fun h => ⟨h1, h⟩, fun h => h.2⟩
    clear hR
    go_wp2_with fail
    go_ret
    exact ⟨rfl, HB0.out⟩
  · obtain rfl : false = R := by rw [← hR]; exact (decide_eq_false (fun h => h1 h.1)).symm
    clear hR
    go_wp2_with fail
    go_ret
    exact ⟨rfl, HB0.out⟩
end Go.Proofs.Ythnjdncnmdmjaaa
