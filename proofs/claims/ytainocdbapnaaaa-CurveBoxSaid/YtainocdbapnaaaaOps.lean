/-
  The contract of wide.MulDiv, for every argument.
-/
import Derived.Test.YtainocdbapnaaaaOpsDot
namespace Go.Proofs.Ytainocdbapnaaaa
open Go.RowKit Go.Shelf

theorem muldiv_zero (a b : Int) (w : World) :
    Calls Try.prog 39 #[.int .i64 a, .int .i64 b, .int .i64 0] w fun e w' => e = .returned (.tuple #[.int .i64 0, .bool false]) ∧ w = w' := by
  go_enter Try.func39, Try.ntmps39
  go_wp2
  go_ret2
  exact ⟨rfl, rfl⟩

theorem muldiv_pos (a b c : Int) (d : Nat) (w : World) (ha : I64 a) (hb : I64 b) (hc : I64 c) (h : 0 < c) (hd : c.natAbs = d) :
    Calls Try.prog 39 #[.int .i64 a, .int .i64 b, .int .i64 c] w fun e w' => e = .returned (Pair (near (a * b) d)) ∧ Below w.heap.size w w' := by
  have B := mul_bound a b ha hb
  have A := Lib.hid (product_any a b w ha.1 ha.2 hb.1 hb.2)
  have S := Lib.hid (fun w => size_any c w hc.1 hc.2)
  rw [hd] at S
  have hd1 : 0 < d := by omega
  have hd2 : d ≤ 9223372036854775808 := by unfold I64 at hc; omega
  have nz : (c == 0) = false := by rw [beq_eq_false_iff_ne]; omega
  have ng : ¬ c < 0 := by omega
  generalize a * b = v at *
  have nb := near_bound v d hd1 (by omega) (by omega)
  have D := Lib.hid (fun k w => divide_any k d v w hd1 (by omega) (by omega) (by omega))
  have F := Lib.hid (fun w => narrow_any (near v d) w nb.1 nb.2)
  unfold Pair at F ⊢
  unfold AggN at A F
  clear B hd hd1 hd2 nb ha hb hc h
  go_enter Try.func39, Try.ntmps39
  go_wp2_with fail
  refine A.out.mono ?_
  rintro e w1 ⟨rfl, b1⟩
  go_wp2_with fail
  refine (S.out _).mono ?_
  rintro e w2 ⟨rfl, rfl⟩
  go_wp2_with fail
  refine (D.out w1.heap.size _ (by exact Two.mk1 w1 _ _)).mono ?_
  rintro e w3 ⟨rfl, t3, n3⟩
  have c0 := n3.c0; have c1 := n3.c1
  go_wp2_with fail
  refine (F.out _).mono ?_
  rintro e w4 ⟨rfl, b4⟩
  go_wp2_with fail
  go_ret2
  exact ⟨rfl, below_num b1 t3 b4⟩

theorem muldiv_neg (a b c : Int) (d : Nat) (w : World) (ha : I64 a) (hb : I64 b) (hc : I64 c) (h : c < 0) (hd : c.natAbs = d) :
    Calls Try.prog 39 #[.int .i64 a, .int .i64 b, .int .i64 c] w fun e w' => e = .returned (Pair (near (-(a * b)) d)) ∧ Below w.heap.size w w' := by
  have B := mul_bound a b ha hb
  have A := Lib.hid (product_any a b w ha.1 ha.2 hb.1 hb.2)
  have S := Lib.hid (fun w => size_any c w hc.1 hc.2)
  rw [hd] at S
  have hd1 : 0 < d := by omega
  have hd2 : d ≤ 9223372036854775808 := by unfold I64 at hc; omega
  have nz : (c == 0) = false := by rw [beq_eq_false_iff_ne]; omega
  generalize a * b = v at *
  have nb := near_bound (-v) d hd1 (by omega) (by omega)
  have D := Lib.hid (fun k w => divide_any k d (-v) w hd1 (by omega) (by omega) (by omega))
  have F := Lib.hid (fun w => narrow_any (near (-v) d) w nb.1 nb.2)
  unfold Pair at F ⊢
  unfold AggN at A F
  clear B hd hd1 hd2 nb ha hb hc
  go_enter Try.func39, Try.ntmps39
  go_wp2_with fail
  refine A.out.mono ?_
  rintro e w1 ⟨rfl, b1⟩
  go_wp2_with fail
  refine (negate_num w1.heap.size v _ (by exact Two.mk1 w1 _ _)).mono ?_
  rintro e w2 ⟨rfl, t2, n2⟩
  go_wp2_with fail
  refine (S.out _).mono ?_
  rintro e w3 ⟨rfl, rfl⟩
  go_wp2_with fail
  refine (D.out w1.heap.size _ (by exact n2)).mono ?_
  rintro e w3 ⟨rfl, t3, n3⟩
  have c0 := n3.c0; have c1 := n3.c1
  go_wp2_with fail
  refine (F.out _).mono ?_
  rintro e w4 ⟨rfl, b4⟩
  go_wp2_with fail
  go_ret2
  exact ⟨rfl, below_num b1 (t2.trans t3) b4⟩

theorem muldiv_any (a b c : Int) (w : World) (ha : I64 a) (hb : I64 b) (hc : I64 c) (h : c ≠ 0) :
    Calls Try.prog 39 #[.int .i64 a, .int .i64 b, .int .i64 c] w fun e w' => e = .returned (Pair (muldiv a b c)) ∧ Below w.heap.size w w' := by
  unfold muldiv
  by_cases h1 : 0 < c
  · rw [if_pos h1]; exact muldiv_pos a b c _ w ha hb hc h1 rfl
  · rw [if_neg h1]; exact muldiv_neg a b c _ w ha hb hc (by omega) rfl

end Go.Proofs.Ytainocdbapnaaaa
