/-
  The contracts of wide's divide and narrow: the nearest whole number of a fraction, and whether it fits.
-/
import Derived.Test.YtgkjbmejfcijkaaWide
namespace Go.Proofs.Ytgkjbmejfcijkaa
open Go.RowKit Go.Shelf

theorem hw_half (d : Nat) (hd : d < 18446744073709551616) : hw ((d : Int) / 2) = 0 := by unfold hw; omega
theorem lw_half (d : Nat) (hd : d < 18446744073709551616) : lw ((d : Int) / 2) = (d : Int) / 2 := by unfold lw; omega

/-- The words of a number that is not below 0, as whole numbers. -/
theorem words_nat (u : Int) (h0 : 0 ≤ u) (h1 : u < 170141183460469231731687303715884105728) :
    ∃ H L : Nat, hw u = (H : Int) ∧ lw u = (L : Int) ∧ L < 18446744073709551616 ∧ H < 9223372036854775808 ∧ u = ((H * 18446744073709551616 + L : Nat) : Int) := by
  refine ⟨(u / 18446744073709551616).toNat, (u % 18446744073709551616).toNat, ?_, ?_, ?_, ?_, ?_⟩ <;> (try unfold hw) <;> (try unfold lw) <;> omega

/-- The two quotients are the words of the quotient. -/
theorem quot_words (H L d : Nat) (hd : 0 < d) (hL : L < 18446744073709551616) (hH : H < 9223372036854775808) :
    ((H / d : Nat) : Int) = hw (((H * 18446744073709551616 + L : Nat) : Int) / (d : Int)) ∧ (((H % d * 18446744073709551616 + L) / d : Nat) : Int) = lw (((H * 18446744073709551616 + L : Nat) : Int) / (d : Int)) := by
  have k := div_words H L d hd hL
  have q : H / d ≤ H := Nat.div_le_self _ _
  have e : ((H * 18446744073709551616 + L : Nat) : Int) / (d : Int) = (((H * 18446744073709551616 + L) / d : Nat) : Int) := rfl
  rw [e, k.1]
  have k2 := k.2
  clear k e
  generalize (H % d * 18446744073709551616 + L) / d = x at *
  generalize H / d = y at *
  unfold hw lw
  omega

theorem sign_word (v : Int) (h0 : -170141183460469231731687303715884105728 ≤ v) (h1 : v < 170141183460469231731687303715884105728) : wrap64 (hw v) < 0 ↔ v < 0 := by
  unfold wrap64
  unfold hw
  omega

/-- Two cells of block b, as the walk wants them. -/
theorem Turn.stores {b : Nat} {w w1 : World} (t : Turn b w w1) (x y : Value) : Turn b w ((w1.setCell ⟨b, 0, none⟩ x).setCell ⟨b, 1, none⟩ y) := (t.set 0 x).set 1 y

/-- Rounding down, from the other side. -/
theorem div_mirror (u d : Int) (hd : 0 < d) : u / d = -1 - (-1 - u) / d := by
  have e := Int.mul_ediv_add_emod (-1 - u) d
  have l0 := Int.emod_nonneg (-1 - u) (show d ≠ 0 by omega)
  have l1 := Int.emod_lt_of_pos (-1 - u) hd
  generalize (-1 - u) / d = q at *
  generalize (-1 - u) % d = r at *
  have k : u = (d - 1 - r) + d * (-1 - q) := by rw [Int.mul_sub]; omega
  rw [k, Int.add_mul_ediv_left _ _ (by omega), Int.ediv_eq_zero_of_lt (by omega) (by omega)]
  omega

theorem Turn.drewN {b : Nat} {u w : World} (h : Turn b u w) (n : Nat) : Turn b u (w.drewN n) := ⟨h.os, h.tape, h.output, h.size, h.block⟩
theorem heap_drewN {b : Nat} {o : Obj} {w : World} (n : Nat) (h : w.heap[b]? = some o) : (w.drewN n).heap[b]? = some o := h

theorem divide_pos (b d : Nat) (v : Int) (w : World) (hd : 0 < d) (hd2 : d < 18446744073709551616) (h0 : 0 ≤ v + (d : Int) / 2) (h1 : v + (d : Int) / 2 < 170141183460469231731687303715884105728) (H : Num b v w) :
    Calls Try.prog 58 #[.pointer (some ⟨b, 0, none⟩), .int .u64 d] w fun e w' => e = .returned (.tuple #[]) ∧ Turn b w w' ∧ Num b ((v + (d : Int) / 2) / (d : Int)) w' := by
  have A := Lib.hid (add_num b v ((d : Int) / 2) w H)
  unfold AggN at A
  rw [hw_half d hd2, lw_half d hd2] at A
  have sg : 0 ≤ wrap64 (hw (v + (d : Int) / 2)) := by
    have := sign_word (v + (d : Int) / 2) (by omega) h1
    omega
  generalize v + (d : Int) / 2 = u at *
  obtain ⟨HH, LL, e1, e2, hL, hH, e3⟩ := words_nat u h0 h1
  have Q := quot_words HH LL d hd hL hH
  rw [← e3] at Q
  have D1 := Lib.hid (fun w => div64_zero HH d hd (by omega) w)
  have D2 := Lib.hid (fun w => div64_any (HH % d) LL d (Nat.mod_lt _ hd) hL hd2 w)
  rw [Q.1] at D1
  rw [Q.2] at D2
  have E := Lib.hid (And.intro e1 e2)
  clear e1 e2 e3 hL hH h0 h1 Q
  generalize u / (d : Int) = q at *
  go_enter Try.func58, Try.ntmps58
  go_wp2_with fail
  refine A.out.mono ?_
  rintro e w1 ⟨rfl, t1, n1⟩
  have c0 := n1.c0; have c1 := n1.c1; have z0 := n1.z0; have z1 := n1.z1
  rw [E.out.1] at c0 sg
  rw [E.out.2] at c1
  go_wp2_with fail
  refine (D1.out _).mono ?_
  rintro e w2 ⟨rfl, n, rfl⟩
  go_wp2_with fail
  refine (D2.out _).mono ?_
  rintro e w2 ⟨rfl, m, rfl⟩
  go_wp2_with fail
  go_end0
  exact ⟨rfl, (((t1.drewN n).set 0 _).drewN m).set 1 _, heap_set 1 _ (heap_drewN m (heap_set 0 _ (heap_drewN n n1)))⟩

theorem divide_neg (b d : Nat) (v : Int) (w : World) (hd : 0 < d) (hd2 : d < 18446744073709551616) (h0 : v + (d : Int) / 2 < 0) (h1 : -170141183460469231731687303715884105728 ≤ v + (d : Int) / 2) (H : Num b v w) :
    Calls Try.prog 58 #[.pointer (some ⟨b, 0, none⟩), .int .u64 d] w fun e w' => e = .returned (.tuple #[]) ∧ Turn b w w' ∧ Num b ((v + (d : Int) / 2) / (d : Int)) w' := by
  have A := Lib.hid (add_num b v ((d : Int) / 2) w H)
  unfold AggN at A
  rw [hw_half d hd2, lw_half d hd2] at A
  have sg : wrap64 (hw (v + (d : Int) / 2)) < 0 := (sign_word (v + (d : Int) / 2) h1 (by omega)).2 h0
  have eq : (v + (d : Int) / 2) / (d : Int) = -1 - (-1 - (v + (d : Int) / 2)) / (d : Int) := div_mirror _ _ (by omega)
  rw [eq]
  clear eq
  generalize v + (d : Int) / 2 = u at *
  obtain ⟨HH, LL, e1, e2, hL, hH, e3⟩ := words_nat (-1 - u) (by omega) (by omega)
  have Q := quot_words HH LL d hd hL hH
  rw [← e3] at Q
  have D1 := Lib.hid (fun w => div64_zero HH d hd (by omega) w)
  have D2 := Lib.hid (fun w => div64_any (HH % d) LL d (Nat.mod_lt _ hd) hL hd2 w)
  rw [Q.1] at D1
  rw [Q.2] at D2
  have E := Lib.hid (And.intro e1 e2)
  clear e1 e2 e3 hL hH h0 h1 Q
  generalize (-1 - u) / (d : Int) = q at *
  go_enter Try.func58, Try.ntmps58
  go_wp2_with fail
  refine A.out.mono ?_
  rintro e w1 ⟨rfl, t1, n1⟩
  have c0 := n1.c0
  go_wp2_with fail
  refine (invert_num b u _ (by exact n1)).mono ?_
  rintro e w3 ⟨rfl, t3, n3⟩
  clear c0
  have c0 := n3.c0; have c1 := n3.c1; have z0 := n3.z0; have z1 := n3.z1
  rw [E.out.1] at c0
  rw [E.out.2] at c1
  go_wp2_with fail
  refine (D1.out _).mono ?_
  rintro e w2 ⟨rfl, n, rfl⟩
  go_wp2_with fail
  refine (D2.out _).mono ?_
  rintro e w2 ⟨rfl, m, rfl⟩
  go_wp2_with fail
  refine (invert_num b q _ (by exact heap_set 1 _ (heap_drewN m (heap_set 0 _ (heap_drewN n n3))))).mono ?_
  rintro e w4 ⟨rfl, t4, n4⟩
  go_wp2_with fail
  go_end0
  exact ⟨rfl, (((((t1.trans t3).drewN n).set 0 _).drewN m).set 1 _).trans t4, n4⟩

/-- divide: the nearest whole number to v / d; of two that are as near the greater one. -/
theorem divide_any (b d : Nat) (v : Int) (w : World) (hd : 0 < d) (hd2 : d < 18446744073709551616) (h0 : -170141183460469231731687303715884105728 ≤ v + (d : Int) / 2) (h1 : v + (d : Int) / 2 < 170141183460469231731687303715884105728) (H : Num b v w) :
    Calls Try.prog 58 #[.pointer (some ⟨b, 0, none⟩), .int .u64 d] w fun e w' => e = .returned (.tuple #[]) ∧ Turn b w w' ∧ Num b ((v + (d : Int) / 2) / (d : Int)) w' := by
  by_cases h : v + (d : Int) / 2 < 0
  · exact divide_neg b d v w hd hd2 h h0 H
  · exact divide_pos b d v w hd hd2 (by omega) h1 H
end Go.Proofs.Ytgkjbmejfcijkaa
