/-
  The contracts of package wide: numbers of 128 bits (negate, product, divide, narrow), MulDiv, Dot, MulShift.
-/
import Derived.Test.YtgkjbmejfcijkaaDiv
namespace Go.Proofs.Ytgkjbmejfcijkaa
open Go.RowKit Go.Shelf

/-- The high and the low word of a whole number, in two's complement. -/
def hw (v : Int) : Int := v / 18446744073709551616 % 18446744073709551616
def lw (v : Int) : Int := v % 18446744073709551616
theorem hw_word (v : Int) : Word (hw v) := by unfold Word hw; omega
theorem lw_word (v : Int) : Word (lw v) := by unfold Word lw; omega
theorem hw_add (v u : Int) : (hw v + hw u + (lw v + lw u) / 18446744073709551616) % 18446744073709551616 = hw (v + u) := by unfold hw lw; omega
theorem lw_add (v u : Int) : (lw v + lw u) % 18446744073709551616 = lw (v + u) := by unfold lw; omega
theorem hw_inv (v : Int) : 18446744073709551615 - hw v = hw (-1 - v) := by unfold hw; omega
theorem lw_inv (v : Int) : 18446744073709551615 - lw v = lw (-1 - v) := by unfold lw; omega
theorem hw_one : hw 1 = 0 := by decide
theorem lw_one : lw 1 = 1 := by decide

/-- The number that lies in block b. -/
def Num (b : Nat) (v : Int) (w : World) : Prop := Two b (hw v) (lw v) w
def AggN (v : Int) : Value := .agg #[.int .u64 (hw v), .int .u64 (lw v)]

theorem add_num (b : Nat) (v u : Int) (w : World) (H : Num b v w) :
    Calls Try.prog 57 #[.pointer (some ⟨b, 0, none⟩), AggN u] w fun e w' => e = .returned (.tuple #[]) ∧ Turn b w w' ∧ Num b (v + u) w' := by
  have k := add_any b (hw v) (lw v) (hw u) (lw u) w (hw_word v) (lw_word v) (hw_word u) (lw_word u) H
  rw [hw_add, lw_add] at k
  exact k

theorem invert_num (b : Nat) (v : Int) (w : World) (H : Num b v w) :
    Calls Try.prog 64 #[.pointer (some ⟨b, 0, none⟩)] w fun e w' => e = .returned (.tuple #[]) ∧ Turn b w w' ∧ Num b (-1 - v) w' := by
  have k := invert_any b (hw v) (lw v) w (hw_word v) (lw_word v) H
  rw [hw_inv, lw_inv] at k
  exact k

theorem negate_num (b : Nat) (v : Int) (w : World) (H : Num b v w) :
    Calls Try.prog 62 #[.pointer (some ⟨b, 0, none⟩)] w fun e w' => e = .returned (.tuple #[]) ∧ Turn b w w' ∧ Num b (-v) w' := by
  have C := Lib.hid (invert_num b v w H)
  have D := Lib.hid (fun w => add_num b (-1 - v) 1 w)
  unfold AggN at D
  rw [hw_one, lw_one, show -1 - v + 1 = -v from by omega] at D
  go_enter Try.func62, Try.ntmps62
  go_wp2_with fail
  refine C.out.mono ?_
  rintro e w1 ⟨rfl, t1, n1⟩
  have N1 := Lib.hid n1; clear n1
  go_wp2_with fail
  refine (D.out _ N1.out).mono ?_
  rintro e w2 ⟨rfl, t2, n2⟩
  go_wp2_with fail
  go_end0
  exact ⟨rfl, t1.trans t2, n2⟩

theorem hw_nat (n : Nat) (h : n < 18446744073709551616 * 18446744073709551616) : ((n / 18446744073709551616 : Nat) : Int) = hw (n : Int) := by unfold hw; omega
theorem lw_nat (n : Nat) : ((n % 18446744073709551616 : Nat) : Int) = lw (n : Int) := by unfold lw; omega

theorem mul_words (na nb : Nat) (h1 : na ≤ 9223372036854775808) (h2 : nb ≤ 9223372036854775808) (w : World) :
    Calls Try.prog 60 #[.int .u64 na, .int .u64 nb] w fun e w' => e = .returned (.tuple #[.int .u64 (hw ((na * nb : Nat) : Int)), .int .u64 (lw ((na * nb : Nat) : Int))]) ∧ w = w' := by
  have k := mul64_any na nb (by omega) (by omega) w
  have hm : na * nb ≤ 9223372036854775808 * 9223372036854775808 := Nat.mul_le_mul h1 h2
  rw [hw_nat _ (by omega), lw_nat] at k
  exact k

/-- The cells of a fresh number. -/
theorem Two.mk1 (w : World) (h l : Int) : Two w.heap.size h l (w.alloc (.cells #[.int .u64 h, .int .u64 l] 92)) := by
  show (w.heap.push _)[w.heap.size]? = _
  rw [Array.getElem?_push, if_pos rfl]
theorem Two.mk0 (w : World) (o : Obj) (h l : Int) : Two w.heap.size h l ((w.alloc (.cells #[.int .u64 h, .int .u64 l] 92)).alloc o) := (Two.mk1 w h l).alloc o
theorem Two.mk2 (w : World) (o : Obj) (h l : Int) : Two (w.heap.size + 1) h l ((w.alloc o).alloc (.cells #[.int .u64 h, .int .u64 l] 92)) := by
  have := Two.mk1 (w.alloc o) h l
  rwa [show (w.alloc o).heap.size = w.heap.size + 1 from by simp] at this

theorem product_same (a b : Int) (na nb : Nat) (w : World) (ha0 : -9223372036854775808 ≤ a) (ha1 : a ≤ 9223372036854775807) (hb0 : -9223372036854775808 ≤ b) (hb1 : b ≤ 9223372036854775807)
    (ha : a.natAbs = na) (hb : b.natAbs = nb) (hs : (decide (a < 0) = true ∧ decide (b < 0) = true) ∨ (decide (a < 0) = false ∧ decide (b < 0) = false)) :
    Calls Try.prog 56 #[.int .i64 a, .int .i64 b] w fun e w' => e = .returned (AggN ((na * nb : Nat) : Int)) ∧ Below w.heap.size w w' := by
  have A := Lib.hid (fun w => size_any a w ha0 ha1)
  have B := Lib.hid (fun w => size_any b w hb0 hb1)
  have M := Lib.hid (fun w => mul_words na nb (by omega) (by omega) w)
  rw [ha] at A
  rw [hb] at B
  clear ha hb
  generalize ((na * nb : Nat) : Int) = v at *
  unfold AggN
  rcases hs with ⟨s1, s2⟩ | ⟨s1, s2⟩
  all_goals
    go_enter Try.func56, Try.ntmps56
    go_wp2_with fail
    refine (A.out _).mono ?_
    rintro e w1 ⟨rfl, rfl⟩
    go_wp2_with fail
    refine (B.out _).mono ?_
    rintro e w1 ⟨rfl, rfl⟩
    go_wp2_with fail
    refine (M.out _).mono ?_
    rintro e w1 ⟨rfl, rfl⟩
    go_wp2_with fail
    exact bodyPost_ret (v := .agg #[.int .u64 (hw v), .int .u64 (lw v)]) (by simp [results, Try.results56, go_sem]) rfl ⟨rfl, ((Below.refl _ _).alloc (Nat.le_refl _) _).alloc (by simp) _⟩

theorem product_other (a b : Int) (na nb : Nat) (w : World) (ha0 : -9223372036854775808 ≤ a) (ha1 : a ≤ 9223372036854775807) (hb0 : -9223372036854775808 ≤ b) (hb1 : b ≤ 9223372036854775807)
    (ha : a.natAbs = na) (hb : b.natAbs = nb) (hs : (decide (a < 0) = true ∧ decide (b < 0) = false) ∨ (decide (a < 0) = false ∧ decide (b < 0) = true)) :
    Calls Try.prog 56 #[.int .i64 a, .int .i64 b] w fun e w' => e = .returned (AggN (-((na * nb : Nat) : Int))) ∧ Below w.heap.size w w' := by
  have A := Lib.hid (fun w => size_any a w ha0 ha1)
  have B := Lib.hid (fun w => size_any b w hb0 hb1)
  have M := Lib.hid (fun w => mul_words na nb (by omega) (by omega) w)
  rw [ha] at A
  rw [hb] at B
  clear ha hb
  generalize ((na * nb : Nat) : Int) = v at *
  unfold AggN
  rcases hs with ⟨s1, s2⟩ | ⟨s1, s2⟩
  all_goals
    go_enter Try.func56, Try.ntmps56
    go_wp2_with fail
    refine (A.out _).mono ?_
    rintro e w1 ⟨rfl, rfl⟩
    go_wp2_with fail
    refine (B.out _).mono ?_
    rintro e w1 ⟨rfl, rfl⟩
    go_wp2_with fail
    refine (M.out _).mono ?_
    rintro e w1 ⟨rfl, rfl⟩
    go_wp2_with fail
    refine (negate_num (w.heap.size + 1) v _ (by exact Two.mk2 w _ _ _)).mono ?_
    rintro e w1 ⟨rfl, t, n⟩
    have R := (Two.mk0 w (.cells #[.int .u64 (hw v), .int .u64 (lw v)] 92) 0 0).kept t (by omega)
    have c0 := n.c0; have c1 := n.c1
    have r0 := R.c0; have r1 := R.c1; have z0 := R.z0; have z1 := R.z1
    go_wp2_with fail
    have F : Two w.heap.size (hw (-v)) (lw (-v)) ((w1.setCell ⟨w.heap.size, 0, none⟩ (.int .u64 (hw (-v)))).setCell ⟨w.heap.size, 1, none⟩ (.int .u64 (lw (-v)))) := heap_set 1 _ (heap_set 0 _ R)
    refine bodyPost_ret (v := .agg #[.int .u64 (hw (-v)), .int .u64 (lw (-v))]) (by simp [results, Try.results56, go_sem, F.c0, F.c1]) rfl ⟨rfl, ?_⟩
    refine Below.setCell (Below.setCell (Below.trans (((Below.refl _ _).alloc (Nat.le_refl _) _).alloc (by simp) _) (t.below (by omega) (by simp; omega))) (Nat.le_refl _) _) (Nat.le_refl _) _

theorem natAbs_mul_same (a b : Int) (h : (a < 0 ∧ b < 0) ∨ (0 ≤ a ∧ 0 ≤ b)) : ((a.natAbs * b.natAbs : Nat) : Int) = a * b := by
  rw [Int.natCast_mul]
  rcases h with ⟨h1, h2⟩ | ⟨h1, h2⟩
  · rw [show (a.natAbs : Int) = -a from by omega, show (b.natAbs : Int) = -b from by omega, Int.neg_mul_neg]
  · rw [show (a.natAbs : Int) = a from by omega, show (b.natAbs : Int) = b from by omega]
theorem natAbs_mul_other (a b : Int) (h : (a < 0 ∧ 0 ≤ b) ∨ (0 ≤ a ∧ b < 0)) : -((a.natAbs * b.natAbs : Nat) : Int) = a * b := by
  rw [Int.natCast_mul]
  rcases h with ⟨h1, h2⟩ | ⟨h1, h2⟩
  · rw [show (a.natAbs : Int) = -a from by omega, show (b.natAbs : Int) = b from by omega, Int.neg_mul, Int.neg_neg]
  · rw [show (a.natAbs : Int) = a from by omega, show (b.natAbs : Int) = -b from by omega, Int.mul_neg, Int.neg_neg]

/-- product: the two words of the product. -/
theorem product_any (a b : Int) (w : World) (ha0 : -9223372036854775808 ≤ a) (ha1 : a ≤ 9223372036854775807) (hb0 : -9223372036854775808 ≤ b) (hb1 : b ≤ 9223372036854775807) :
    Calls Try.prog 56 #[.int .i64 a, .int .i64 b] w fun e w' => e = .returned (AggN (a * b)) ∧ Below w.heap.size w w' := by
  by_cases h1 : a < 0 <;> by_cases h2 : b < 0
  · rw [← natAbs_mul_same a b (by omega)]
    exact product_same a b _ _ w ha0 ha1 hb0 hb1 rfl rfl (by simp [h1, h2])
  · rw [← natAbs_mul_other a b (by omega)]
    exact product_other a b _ _ w ha0 ha1 hb0 hb1 rfl rfl (by simp [h1, h2])
  · rw [← natAbs_mul_other a b (by omega)]
    exact product_other a b _ _ w ha0 ha1 hb0 hb1 rfl rfl (by simp [h1, h2])
  · rw [← natAbs_mul_same a b (by omega)]
    exact product_same a b _ _ w ha0 ha1 hb0 hb1 rfl rfl (by simp [h1, h2])
end Go.Proofs.Ytgkjbmejfcijkaa
