/-
  The contract of root's Hypot: the root of two squares together.
-/
import Derived.Test.YthnjdncnmdmjaaaRootLast
namespace Go.Proofs.Ythnjdncnmdmjaaa
open Go.RowKit Go.Shelf

theorem radd64 (x y c : Int) (hx : 0 ≤ x) (hy : 0 ≤ y) (hc0 : 0 ≤ c) (hc : c ≤ 1) (w : World) : (callFunc 61 #[.int .u64 x, .int .u64 y, .int .u64 c]).run Try.prog w =
    .ok (.value (.tuple #[.int .u64 ((x + y + c) % 18446744073709551616), .int .u64 ((x + y + c) / 18446744073709551616)])) w := by
  rw [run_callFunc_extern Try.func61 (by kernel_rfl) (by kernel_rfl) (by kernel_rfl) (e := add64Entry) (by kernel_rfl), run_add64 x y c hx hy hc0 hc]
  simp only [Result.andThen]

theorem radd64_0 (x y : Int) (hx : 0 ≤ x) (hy : 0 ≤ y) (w : World) : (callFunc 61 #[.int .u64 x, .int .u64 y, .int .u64 0]).run Try.prog w =
    .ok (.value (.tuple #[.int .u64 ((x + y) % 18446744073709551616), .int .u64 ((x + y) / 18446744073709551616)])) w := by
  simpa using radd64 x y 0 hx hy (Int.le_refl 0) (by decide) w

theorem half_square (x : Nat) (h : x ≤ 9223372036854775808) : x * x ≤ 85070591730234615865843651857942052864 := by
  have := Nat.mul_le_mul h h
  exact this

theorem hyp_words (P Q : Nat) (hP : P ≤ 85070591730234615865843651857942052864) (hQ : Q ≤ 85070591730234615865843651857942052864) :
    (P / 18446744073709551616 + Q / 18446744073709551616 + (P % 18446744073709551616 + Q % 18446744073709551616) / 18446744073709551616) % 18446744073709551616 * 18446744073709551616 +
      (P % 18446744073709551616 + Q % 18446744073709551616) % 18446744073709551616 = P + Q := by omega

set_option maxHeartbeats 1000000 in
theorem Hypot_any (x y : Int) (w : World) (hx : I64 x) (hy : I64 y) :
    Calls Try.prog 44 #[.int .i64 x, .int .i64 y] w fun e w' => e = .returned (.int .u64 ((rt (x.natAbs * x.natAbs + y.natAbs * y.natAbs) : Nat) : Int)) ∧ Below w.heap.size w w' := by
  have sx : x.natAbs ≤ 9223372036854775808 := by unfold I64 at hx; omega
  have sy : y.natAbs ≤ 9223372036854775808 := by unfold I64 at hy; omega
  have A1 := Lib.hid (fun w => rsize_any x w hx.1 hx.2)
  have A2 := Lib.hid (fun w => rsize_any y w hy.1 hy.2)
  have B1 := Lib.hid (fun w => square_any x.natAbs (by omega) w)
  have B2 := Lib.hid (fun w => square_any y.natAbs (by omega) w)
  have qx := half_square _ sx
  have qy := half_square _ sy
  clear hx hy sx sy
  generalize x.natAbs = a at *
  generalize y.natAbs = b at *
  generalize a * a = P at *
  generalize b * b = Q at *
  have e := hyp_words P Q qx qy
  have C := Lib.hid (fun w => Wide_any ((P / 18446744073709551616 + Q / 18446744073709551616 + (P % 18446744073709551616 + Q % 18446744073709551616) / 18446744073709551616) % 18446744073709551616) ((P % 18446744073709551616 + Q % 18446744073709551616) % 18446744073709551616) w (Nat.mod_lt _ (by decide)))
  rw [e] at C
  have c1 : (P % 18446744073709551616 + Q % 18446744073709551616) / 18446744073709551616 ≤ 1 := by omega
  clear e qx qy
  generalize hp : P / 18446744073709551616 = ph at *
  generalize hp' : P % 18446744073709551616 = pl at *
  generalize hq : Q / 18446744073709551616 = qh at *
  generalize hq' : Q % 18446744073709551616 = ql at *
  generalize rt (P + Q) = r at *
  clear hp hp' hq hq'
  have a0 := radd64_0 (pl : Int) (ql : Int) (by omega) (by omega)
  have a1 := radd64 (ph : Int) (qh : Int) (((pl : Int) + (ql : Int)) / 18446744073709551616) (by omega) (by omega) (by omega) (by omega)
  have C' := Lib.hid (fun w => C.out w)
  rw [show (((ph + qh + (pl + ql) / 18446744073709551616) % 18446744073709551616 : Nat) : Int) = ((ph : Int) + (qh : Int) + ((pl : Int) + (ql : Int)) / 18446744073709551616) % 18446744073709551616 from by omega,
    show (((pl + ql) % 18446744073709551616 : Nat) : Int) = ((pl : Int) + (ql : Int)) % 18446744073709551616 from by omega] at C'
  clear C c1
  go_enter Try.func44, Try.ntmps44
  go_wp2_with fail
  refine (A1.out _).mono ?_
  rintro e w1 ⟨rfl, rfl⟩
  go_wp2_with fail
  refine (B1.out _).mono ?_
  rintro e w1 ⟨rfl, rfl⟩
  go_wp2_with fail
  refine (A2.out _).mono ?_
  rintro e w1 ⟨rfl, rfl⟩
  go_wp2_with fail
  refine (B2.out _).mono ?_
  rintro e w1 ⟨rfl, rfl⟩
  go_wp2_with fail
  refine (C'.out _).mono ?_
  rintro e w1 ⟨rfl, hb⟩
  go_wp2_with fail
  go_ret
  exact ⟨rfl, hb⟩
end Go.Proofs.Ythnjdncnmdmjaaa
