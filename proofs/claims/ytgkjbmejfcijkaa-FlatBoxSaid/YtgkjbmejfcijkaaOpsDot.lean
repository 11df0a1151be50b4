/-
  The contract of wide.Dot, for every argument.
-/
import Derived.Test.YtgkjbmejfcijkaaCalls
namespace Go.Proofs.Ytgkjbmejfcijkaa
open Go.RowKit Go.Shelf

/-- A product of two numbers of 64 bits. -/
theorem mul_bound (a b : Int) (ha : I64 a) (hb : I64 b) : -85070591730234615856620279821087277056 ≤ a * b ∧ a * b ≤ 85070591730234615865843651857942052864 := by
  have hn : (a * b).natAbs ≤ 9223372036854775808 * 9223372036854775808 := by
    rw [Int.natAbs_mul]
    exact Nat.mul_le_mul (by unfold I64 at ha; omega) (by unfold I64 at hb; omega)
  unfold I64 at ha hb
  refine ⟨?_, by omega⟩
  by_cases h1 : a < 0 <;> by_cases h2 : b < 0
  · have := Int.mul_nonneg_of_nonpos_of_nonpos (show a ≤ 0 by omega) (show b ≤ 0 by omega); omega
  · have e : (a * b).natAbs ≤ 9223372036854775808 * 9223372036854775807 := by
      rw [Int.natAbs_mul]; exact Nat.mul_le_mul (by omega) (by omega)
    omega
  · have e : (a * b).natAbs ≤ 9223372036854775807 * 9223372036854775808 := by
      rw [Int.natAbs_mul]; exact Nat.mul_le_mul (by omega) (by omega)
    omega
  · have := Int.mul_nonneg (show 0 ≤ a by omega) (show 0 ≤ b by omega); omega

theorem mul_top (a b : Int) (ha : I64 a) (hb : I64 b) : a * b = 85070591730234615865843651857942052864 ∨ a * b ≤ 85070591730234615856620279821087277056 := by
  unfold I64 at ha hb
  by_cases h1 : a = -9223372036854775808
  · by_cases h2 : b = -9223372036854775808
    · subst h1 h2; left; decide
    · right
      have hn : (a * b).natAbs ≤ 9223372036854775808 * 9223372036854775807 := by
        rw [Int.natAbs_mul]; exact Nat.mul_le_mul (by omega) (by omega)
      omega
  · right
    have hn : (a * b).natAbs ≤ 9223372036854775807 * 9223372036854775808 := by
      rw [Int.natAbs_mul]; exact Nat.mul_le_mul (by omega) (by omega)
    omega

theorem below_num {w w1 w3 w4 : World} {o : Obj} (b1 : Below w.heap.size w w1) (t3 : Turn w1.heap.size (w1.alloc o) w3) (b4 : Below w3.heap.size w3 w4) : Below w.heap.size w w4 := by
  have s1 := b1.size
  have s3 := t3.size
  simp at s3
  exact ((b1.alloc s1 o).trans (t3.below s1 (by simp; omega))).trans (b4.mono (by omega))

theorem below_two {w w1 w2 w3 w4 : World} {o : Obj} (b1 : Below w.heap.size w w1) (b2 : Below (w1.alloc o).heap.size (w1.alloc o) w2) (t3 : Turn w1.heap.size w2 w3) (b4 : Below w3.heap.size w3 w4) : Below w.heap.size w w4 := by
  have s1 := b1.size
  have s2 := b2.size
  have s3 := t3.size
  simp at s2
  exact (((b1.alloc s1 o).trans (b2.mono (by simp; omega))).trans (t3.below s1 (by omega))).trans (b4.mono (by omega))

theorem dot_bad (a b c d s : Int) (w : World) (hs : s < 0 ∨ 62 < s) :
    Calls Try.prog 55 #[.int .i64 a, .int .i64 b, .int .i64 c, .int .i64 d, .int .i64 s] w fun e w' => e = .returned (.tuple #[.int .i64 0, .bool false]) ∧ w = w' := by
  rcases hs with h | h
  · go_enter Try.func55, Try.ntmps55
    go_wp2
    go_ret2
    exact ⟨rfl, rfl⟩
  · have h2 : ¬ s < 0 := by omega
    go_enter Try.func55, Try.ntmps55
    go_wp2
    go_ret2
    exact ⟨rfl, rfl⟩

/-- The sum of two products, as it lies in two words: the one that goes over comes round. -/
def around (v : Int) : Int := if v = 170141183460469231731687303715884105728 then -170141183460469231731687303715884105728 else v

theorem dot_gen (a b c d : Int) (s k : Nat) (w : World) (ha : I64 a) (hb : I64 b) (hc : I64 c) (hd : I64 d) (hs : s ≤ 62) (hk : 2 ^ s = k) (hk1 : 0 < k) (hk2 : k ≤ 4611686018427387904) :
    Calls Try.prog 55 #[.int .i64 a, .int .i64 b, .int .i64 c, .int .i64 d, .int .i64 s] w fun e w' => e = .returned (Pair (near (around (a * b + c * d)) k)) ∧ Below w.heap.size w w' := by
  have B1 := mul_bound a b ha hb
  have B2 := mul_bound c d hc hd
  have T1 := mul_top a b ha hb
  have T2 := mul_top c d hc hd
  have A := Lib.hid (product_any a b w ha.1 ha.2 hb.1 hb.2)
  have C := Lib.hid (fun w => product_any c d w hc.1 hc.2 hd.1 hd.2)
  generalize a * b = v at *
  generalize c * d = u at *
  have G := Lib.hid (fun k w => add_num k v u w)
  have HA : hw (v + u) = hw (around (v + u)) ∧ lw (v + u) = lw (around (v + u)) := by unfold around hw lw; split <;> omega
  have R : -170141183460469231731687303715884105728 ≤ around (v + u) ∧ around (v + u) + (k : Int) / 2 < 170141183460469231731687303715884105728 := by unfold around; split <;> omega
  unfold Num at G
  rw [HA.1, HA.2] at G
  generalize around (v + u) = x at *
  have nb := near_bound x k hk1 R.1 R.2
  have D := Lib.hid (fun i w => divide_any i k x w hk1 (by omega) (by omega) R.2)
  have F := Lib.hid (fun w => narrow_any (near x k) w nb.1 nb.2)
  have sh : IntKind.u64.wrap (2 ^ s) = (k : Int) := by
    rw [IntKind.wrap_u64, ← hk]
    have e : ((2 ^ s : Nat) : Int) = (2 : Int) ^ s := by simp
    rw [← e, hk]
    omega
  unfold Pair at F ⊢
  unfold AggN at A C G F
  have s1 : ¬ (s : Int) < 0 := by omega
  have s2 : ¬ 62 < (s : Int) := by omega
  clear B1 B2 T1 T2 HA R nb ha hb hc hd hk hk1 hk2
  go_enter Try.func55, Try.ntmps55
  go_wp2_with fail
  refine A.out.mono ?_
  rintro e w1 ⟨rfl, b1⟩
  go_wp2_with fail
  refine (C.out _).mono ?_
  rintro e w2 ⟨rfl, b2⟩
  have n1 : Num w1.heap.size v w2 := (Two.mk1 w1 _ _).below b2 (by simp)
  go_wp2_with fail
  refine (G.out w1.heap.size _ (by exact n1)).mono ?_
  rintro e w3 ⟨rfl, t3, n3⟩
  go_wp2_with fail
  refine (D.out w1.heap.size _ (by exact n3)).mono ?_
  rintro e w4 ⟨rfl, t4, n4⟩
  have c0 := n4.c0; have c1 := n4.c1
  go_wp2_with fail
  refine (F.out _).mono ?_
  rintro e w5 ⟨rfl, b5⟩
  go_wp2_with fail
  go_ret2
  exact ⟨rfl, below_two b1 b2 (t3.trans t4) b5⟩

theorem dot_around (v : Int) (k : Nat) (hk1 : 0 < k) (hk2 : k ≤ 4611686018427387904) : Pair (near (around v) k) = Pair (near v k) := by
  unfold around
  by_cases h : v = 170141183460469231731687303715884105728
  · rw [if_pos h, h]
    have f1 : fits (near (-170141183460469231731687303715884105728) k) = false := by
      unfold fits near
      simp only [decide_eq_false_iff_not]
      rintro ⟨h1, _⟩
      rw [Int.le_ediv_iff_mul_le (by omega)] at h1
      have := Int.mul_le_mul_of_nonpos_left (show (-9223372036854775808 : Int) ≤ 0 by decide) (show (k : Int) ≤ 4611686018427387904 by omega)
      omega
    have f2 : fits (near 170141183460469231731687303715884105728 k) = false := by
      unfold fits near
      simp only [decide_eq_false_iff_not]
      rintro ⟨_, h1⟩
      have h2 := Int.lt_add_one_of_le h1
      rw [Int.ediv_lt_iff_lt_mul (by omega)] at h2
      have := Int.mul_le_mul_of_nonneg_left (show (k : Int) ≤ 4611686018427387904 by omega) (show (0 : Int) ≤ 9223372036854775807 + 1 by decide)
      omega
    rw [pair_bad f1, pair_bad f2]
  · rw [if_neg h]

theorem two_pow_le (s : Nat) (hs : s ≤ 62) : 2 ^ s ≤ 4611686018427387904 := Nat.pow_le_pow_right (n := 2) (by decide) hs

theorem dot_any (a b c d : Int) (s : Nat) (w : World) (ha : I64 a) (hb : I64 b) (hc : I64 c) (hd : I64 d) (hs : s ≤ 62) :
    Calls Try.prog 55 #[.int .i64 a, .int .i64 b, .int .i64 c, .int .i64 d, .int .i64 s] w fun e w' => e = .returned (Pair (dot a b c d s)) ∧ Below w.heap.size w w' := by
  have k := dot_gen a b c d s (2 ^ s) w ha hb hc hd hs rfl (Nat.two_pow_pos s) (two_pow_le s hs)
  rw [dot_around _ _ (Nat.two_pow_pos s) (two_pow_le s hs)] at k
  exact k
end Go.Proofs.Ytgkjbmejfcijkaa
