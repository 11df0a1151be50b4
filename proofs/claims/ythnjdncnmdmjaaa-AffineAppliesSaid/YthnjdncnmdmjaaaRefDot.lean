/-
  The contract of the document's Dot: the nearest whole number to a sum of two products divided by a power of two, or none.
-/
import Derived.Test.YthnjdncnmdmjaaaNearFair
import Derived.Test.YthnjdncnmdmjaaaPower
import Derived.Test.YthnjdncnmdmjaaaPlain
namespace Go.Proofs.Ythnjdncnmdmjaaa
open Go.RowKit Go.Shelf

theorem refdot_bad (a b c d s : Int) (w : World) (hs : s < 0 ∨ 62 < s) :
    Calls Try.prog 54 #[.int .i64 a, .int .i64 b, .int .i64 c, .int .i64 d, .int .i64 s] w fun e w' => e = .returned (.tuple #[.int .i64 0, .bool false]) ∧ w = w' := by
  rcases hs with h | h
  · go_enter Try.func54, Try.ntmps54
    go_wp2
    go_ret2
    exact ⟨rfl, rfl⟩
  · have h2 : ¬ s < 0 := by omega
    go_enter Try.func54, Try.ntmps54
    go_wp2
    go_ret2
    exact ⟨rfl, rfl⟩

theorem nearZ_pow (z : Int) (s : Nat) : nearZ z ((2 ^ s : Nat) : Int) = near z (2 ^ s) := by
  have h := Nat.two_pow_pos s
  unfold nearZ
  rw [if_pos (by omega), Int.natAbs_natCast]

set_option maxHeartbeats 1000000 in
theorem refdot_any (a b c d : Int) (s : Nat) (w : World) (ha : I64 a) (hb : I64 b) (hc : I64 c) (hd : I64 d) (hs : s ≤ 62) :
    Calls Try.prog 54 #[.int .i64 a, .int .i64 b, .int .i64 c, .int .i64 d, .int .i64 s] w fun e w' => e = .returned (Pair (dot a b c d s)) ∧ Below w.heap.size w w' := by
  have hp := prod_abs a b ha hb
  have hq := prod_abs c d hc hd
  have sa : a.natAbs ≤ 9223372036854775808 := by unfold I64 at ha; omega
  have sb : b.natAbs ≤ 9223372036854775808 := by unfold I64 at hb; omega
  have sc : c.natAbs ≤ 9223372036854775808 := by unfold I64 at hc; omega
  have sd : d.natAbs ≤ 9223372036854775808 := by unfold I64 at hd; omega
  have A := Lib.hid (fun w => of_z a w ha)
  have B := Lib.hid (fun w => of_z b w hb)
  have C := Lib.hid (fun w => of_z c w hc)
  have D := Lib.hid (fun w => of_z d w hd)
  have M1 := Lib.hid (fun v1 v2 w => mulz v1 v2 a b w (big_of _ hp) (big_of _ (Nat.le_trans sa (by decide))) (big_of _ (Nat.le_trans sb (by decide))))
  have M2 := Lib.hid (fun v1 v2 w => mulz v1 v2 c d w (big_of _ hq) (big_of _ (Nat.le_trans sc (by decide))) (big_of _ (Nat.le_trans sd (by decide))))
  have hz : (a * b + c * d).natAbs ≤ 170141183460469231731687303715884105728 := by omega
  have h2 : 2 ^ s ≤ 4611686018427387904 := Nat.pow_le_pow_right (n := 2) (by decide) hs
  have h20 := Nat.two_pow_pos s
  have G := Lib.hid (fun v1 v2 w => add_z v1 v2 (a * b) (c * d) w (fair_big _ (Nat.le_trans hp (by unfold Big; decide))) (fair_big _ (Nat.le_trans hq (by unfold Big; decide))))
  have W := Lib.hid (fun w => power_z s w (by omega))
  have N := Lib.hid (fun v1 v2 w => near_z v1 v2 (a * b + c * d) ((2 ^ s : Nat) : Int) w (by omega) (Nat.le_trans hz (by unfold Big; decide)) (by rw [Int.natAbs_natCast]; exact big_of _ (by omega)))
  have P := Lib.hid (fun v w => plain_z v (near (a * b + c * d) (2 ^ s)) w (near_fair _ _ h20 (by omega) hz))
  rw [nearZ_pow] at N
  unfold dot
  unfold Pair at P ⊢
  generalize near (a * b + c * d) (2 ^ s) = r at *
  generalize ((2 ^ s : Nat) : Int) = q2 at *
  have s1 : ¬ (s : Int) < 0 := by omega
  have s2 : ¬ 62 < (s : Int) := by omega
  clear hp hq sa sb sc sd hz h2 h20 ha hb hc hd
  generalize a * b = p1 at *
  generalize c * d = p2 at *
  go_enter Try.func54, Try.ntmps54
  go_wp2_with fail
  refine (A.out _).mono ?_
  rintro e w1 ⟨v1, rfl, hv1, b1⟩
  go_wp2_with fail
  refine (B.out _).mono ?_
  rintro e w2 ⟨v2, rfl, hv2, b2⟩
  go_wp2_with fail
  refine (M1.out _ _ _ (hv1.below b2 (Nat.le_refl _)) hv2).mono ?_
  rintro e w3 ⟨v3, rfl, hv3, b3⟩
  go_wp2_with fail
  refine (C.out _).mono ?_
  rintro e w4 ⟨v4, rfl, hv4, b4⟩
  go_wp2_with fail
  refine (D.out _).mono ?_
  rintro e w5 ⟨v5, rfl, hv5, b5⟩
  go_wp2_with fail
  refine (M2.out _ _ _ (hv4.below b5 (Nat.le_refl _)) hv5).mono ?_
  rintro e w6 ⟨v6, rfl, hv6, b6⟩
  go_wp2_with fail
  refine (G.out _ _ _ (((hv3.below b4 (Nat.le_refl _)).below b5 (Nat.le_refl _)).below b6 (Nat.le_refl _)) hv6).mono ?_
  rintro e w7 ⟨v7, rfl, hv7, b7⟩
  go_wp2_with fail
  refine (W.out _).mono ?_
  rintro e w8 ⟨v8, rfl, hv8, b8⟩
  go_wp2_with fail
  refine (N.out _ _ _ (hv7.below b8 (Nat.le_refl _)) hv8).mono ?_
  rintro e w9 ⟨v9, rfl, hv9, b9⟩
  go_wp2_with fail
  refine (P.out _ _ hv9).mono ?_
  rintro e w10 ⟨rfl, b10⟩
  go_wp2_with fail
  go_ret2
  have z1 := b1.size; have z2 := b2.size; have z3 := b3.size; have z4 := b4.size; have z5 := b5.size; have z6 := b6.size; have z7 := b7.size; have z8 := b8.size; have z9 := b9.size
  exact ⟨rfl, ((((((((b1.trans (b2.mono z1)).trans (b3.mono (by omega))).trans (b4.mono (by omega))).trans (b5.mono (by omega))).trans (b6.mono (by omega))).trans (b7.mono (by omega))).trans (b8.mono (by omega))).trans (b9.mono (by omega))).trans (b10.mono (by omega))⟩
end Go.Proofs.Ythnjdncnmdmjaaa
