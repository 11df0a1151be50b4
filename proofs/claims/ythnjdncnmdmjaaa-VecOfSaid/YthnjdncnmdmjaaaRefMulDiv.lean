/-
  The contract of the document's MulDiv: the nearest whole number to a product divided, or none.
-/
import Derived.Test.YthnjdncnmdmjaaaNearFair
namespace Go.Proofs.Ythnjdncnmdmjaaa
open Go.RowKit Go.Shelf

theorem refmuldiv_zero (a b : Int) (w : World) :
    Calls Try.prog 67 #[.int .i64 a, .int .i64 b, .int .i64 0] w fun e w' => e = .returned (.tuple #[.int .i64 0, .bool false]) ∧ w = w' := by
  go_enter Try.func67, Try.ntmps67
  go_wp2
  go_ret2
  exact ⟨rfl, rfl⟩

theorem refmuldiv_any (a b c : Int) (w : World) (ha : I64 a) (hb : I64 b) (hc : I64 c) (h : c ≠ 0) :
    Calls Try.prog 67 #[.int .i64 a, .int .i64 b, .int .i64 c] w fun e w' => e = .returned (Pair (muldiv a b c)) ∧ Below w.heap.size w w' := by
  have hp := prod_abs a b ha hb
  have sa : a.natAbs ≤ 9223372036854775808 := by unfold I64 at ha; omega
  have sb : b.natAbs ≤ 9223372036854775808 := by unfold I64 at hb; omega
  have sc : c.natAbs ≤ 9223372036854775808 := by unfold I64 at hc; omega
  have A := Lib.hid (fun w => of_z a w ha)
  have B := Lib.hid (fun w => of_z b w hb)
  have C := Lib.hid (fun w => of_z c w hc)
  have M := Lib.hid (fun v1 v2 w => mulz v1 v2 a b w (big_of _ hp) (big_of _ (Nat.le_trans sa (by decide))) (big_of _ (Nat.le_trans sb (by decide))))
  have N := Lib.hid (fun v1 v2 w => near_z v1 v2 (a * b) c w h (big_of _ hp) (big_of _ (by omega)))
  have hf : Fair (nearZ (a * b) c) := by
    unfold nearZ
    split
    · exact near_fair _ _ (by omega) sc (by omega)
    · exact near_fair _ _ (by omega) sc (by omega)
  have P := Lib.hid (fun v w => plain_z v (nearZ (a * b) c) w hf)
  have e : nearZ (a * b) c = muldiv a b c := rfl
  rw [e] at N P
  unfold Pair at P ⊢
  have nz : (c == 0) = false := by rw [beq_eq_false_iff_ne]; exact h
  clear hp sa sb sc hf e h ha hb hc
  go_enter Try.func67, Try.ntmps67
  go_wp2_with fail
  refine (A.out _).mono ?_
  rintro e w1 ⟨v1, rfl, hv1, b1⟩
  go_wp2_with fail
  refine (B.out _).mono ?_
  rintro e w2 ⟨v2, rfl, hv2, b2⟩
  go_wp2_with fail
  refine (M.out _ _ _ (hv1.below b2 (Nat.le_refl _)) hv2).mono ?_
  rintro e w3 ⟨v3, rfl, hv3, b3⟩
  go_wp2_with fail
  refine (C.out _).mono ?_
  rintro e w4 ⟨v4, rfl, hv4, b4⟩
  go_wp2_with fail
  refine (N.out _ _ _ (hv3.below b4 (Nat.le_refl _)) hv4).mono ?_
  rintro e w5 ⟨v5, rfl, hv5, b5⟩
  go_wp2_with fail
  refine (P.out _ _ hv5).mono ?_
  rintro e w6 ⟨rfl, b6⟩
  go_wp2_with fail
  go_ret2
  have s1 := b1.size; have s2 := b2.size; have s3 := b3.size; have s4 := b4.size; have s5 := b5.size
  exact ⟨rfl, ((((b1.trans (b2.mono s1)).trans (b3.mono (by omega))).trans (b4.mono (by omega))).trans (b5.mono (by omega))).trans (b6.mono (by omega))⟩
end Go.Proofs.Ythnjdncnmdmjaaa
