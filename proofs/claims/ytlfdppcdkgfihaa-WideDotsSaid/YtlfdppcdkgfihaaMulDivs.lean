/-
  WideMulDivs answers true for every a, b and c: MulDiv tells the nearest whole number to a times b, divided by c, or none, just as the document's answer. No condition; memory that was there stays as it was.
-/
import Derived.Test.YtlfdppcdkgfihaaNear
namespace Go.Proofs.Ytlfdppcdkgfihaa.wideMulDivs
open Go.ChangeShapes Go.WideShapes Go.ChangeAt Go.RowKit Go.Proofs.Ytlfdppcdkgfihaa

theorem big_of (x : Nat) (h : x ≤ 85070591730234615865843651857942052864) : x ≤ Big := Nat.le_trans h (by unfold Big; decide)

theorem near_fair (z : Int) (d : Nat) (hd : 0 < d) (hd2 : d ≤ 9223372036854775808) (hz : z.natAbs ≤ 170141183460469231731687303715884105728) : Fair (near z d) := by
  refine fair_big _ (Nat.le_trans (show (near z d).natAbs ≤ 340282366920938463463374607431768211456 from ?_) (by unfold Big; decide))
  unfold near
  have b1 : -170141183460469231731687303715884105728 ≤ (z + (d : Int) / 2) / (d : Int) := by
    rw [Int.le_ediv_iff_mul_le (by omega)]
    have := Int.mul_le_mul_of_nonpos_left (show (-170141183460469231731687303715884105728 : Int) ≤ 0 by decide) (show (1 : Int) ≤ d by omega)
    omega
  have b2 : (z + (d : Int) / 2) / (d : Int) < 340282366920938463463374607431768211456 := by
    rw [Int.ediv_lt_iff_lt_mul (by omega)]
    have := Int.mul_le_mul_of_nonneg_left (show (1 : Int) ≤ d by omega) (show (0 : Int) ≤ 340282366920938463463374607431768211456 by decide)
    omega
  omega

theorem prod_abs (a b : Int) (ha : I64 a) (hb : I64 b) : (a * b).natAbs ≤ 85070591730234615865843651857942052864 := by
  rw [Int.natAbs_mul]
  exact Nat.mul_le_mul (show a.natAbs ≤ 9223372036854775808 by unfold I64 at ha; omega) (show b.natAbs ≤ 9223372036854775808 by unfold I64 at hb; omega)

theorem refmuldiv_zero (a b : Int) (w : World) :
    Calls Try.prog 13 #[.int .i64 a, .int .i64 b, .int .i64 0] w fun e w' => e = .returned (.tuple #[.int .i64 0, .bool false]) ∧ w = w' := by
  go_enter Try.func13, Try.ntmps13
  go_wp2
  go_ret2
  exact ⟨rfl, rfl⟩

theorem refmuldiv_any (a b c : Int) (w : World) (ha : I64 a) (hb : I64 b) (hc : I64 c) (h : c ≠ 0) :
    Calls Try.prog 13 #[.int .i64 a, .int .i64 b, .int .i64 c] w fun e w' => e = .returned (Pair (muldiv a b c)) ∧ Below w.heap.size w w' := by
  have hp := prod_abs a b ha hb
  have sa : a.natAbs ≤ 9223372036854775808 := by unfold I64 at ha; omega
  have sb : b.natAbs ≤ 9223372036854775808 := by unfold I64 at hb; omega
  have sc : c.natAbs ≤ 9223372036854775808 := by unfold I64 at hc; omega
  have A := Lib.hid (fun w => of_z a w ha)
  have B := Lib.hid (fun w => of_z b w hb)
  have C := Lib.hid (fun w => of_z c w hc)
  have M := Lib.hid (fun v1 v2 w => mulz v1 v2 a b w (big_of _ hp) (big_of _ (Nat.le_trans sa (by decide))) (big_of _ (Nat.le_trans sb (by decide))))
  have N := Lib.hid (fun v1 v2 w => near_z v1 v2 (a * b) c w h (big_of _ hp) (big_of _ (by omega)))
  have hf : Fair (nearZ (a * b) c) := by
    unfold nearZ
    split
    · exact near_fair _ _ (by omega) sc (by omega)
    · exact near_fair _ _ (by omega) sc (by omega)
  have P := Lib.hid (fun v w => plain_z v (nearZ (a * b) c) w hf)
  have e : nearZ (a * b) c = muldiv a b c := rfl
  rw [e] at N P
  unfold Pair at P ⊢
  have nz : (c == 0) = false := by rw [beq_eq_false_iff_ne]; exact h
  clear hp sa sb sc hf e h ha hb hc
  go_enter Try.func13, Try.ntmps13
  go_wp2_with fail
  refine (A.out _).mono ?_
  rintro e w1 ⟨v1, rfl, hv1, b1⟩
  go_wp2_with fail
  refine (B.out _).mono ?_
  rintro e w2 ⟨v2, rfl, hv2, b2⟩
  go_wp2_with fail
  refine (M.out _ _ _ (hv1.below b2 (Nat.le_refl _)) hv2).mono ?_
  rintro e w3 ⟨v3, rfl, hv3, b3⟩
  go_wp2_with fail
  refine (C.out _).mono ?_
  rintro e w4 ⟨v4, rfl, hv4, b4⟩
  go_wp2_with fail
  refine (N.out _ _ _ (hv3.below b4 (Nat.le_refl _)) hv4).mono ?_
  rintro e w5 ⟨v5, rfl, hv5, b5⟩
  go_wp2_with fail
  refine (P.out _ _ hv5).mono ?_
  rintro e w6 ⟨rfl, b6⟩
  go_wp2_with fail
  go_ret2
  have s1 := b1.size; have s2 := b2.size; have s3 := b3.size; have s4 := b4.size; have s5 := b5.size
  exact ⟨rfl, ((((b1.trans (b2.mono s1)).trans (b3.mono (by omega))).trans (b4.mono (by omega))).trans (b5.mono (by omega))).trans (b6.mono (by omega))⟩

/-- Both tell one and the same. -/
theorem both (a b c : Int) (ha : I64 a) (hb : I64 b) (hc : I64 c) : ∃ (y : Int) (q : Bool),
    (∀ w : World, Calls Try.prog 12 #[.int .i64 a, .int .i64 b, .int .i64 c] w fun e w' => e = .returned (.tuple #[.int .i64 y, .bool q]) ∧ Below w.heap.size w w') ∧
    (∀ w : World, Calls Try.prog 13 #[.int .i64 a, .int .i64 b, .int .i64 c] w fun e w' => e = .returned (.tuple #[.int .i64 y, .bool q]) ∧ Below w.heap.size w w') := by
  by_cases h : c = 0
  · subst h
    exact ⟨0, false, fun w => (muldiv_zero a b w).mono fun e w' ⟨he, hw⟩ => ⟨he, hw ▸ Below.refl _ _⟩, fun w => (refmuldiv_zero a b w).mono fun e w' ⟨he, hw⟩ => ⟨he, hw ▸ Below.refl _ _⟩⟩
  · exact ⟨told (muldiv a b c), fits (muldiv a b c), fun w => muldiv_any a b c w ha hb hc h, fun w => refmuldiv_any a b c w ha hb hc h⟩

theorem walk (a b c : Int) (w0 : (Lit.int .i64 a).wf = true) (w1 : (Lit.int .i64 b).wf = true) (w2 : (Lit.int .i64 c).wf = true) (w : World) :
    Calls Try.prog 4 #[.int .i64 a, .int .i64 b, .int .i64 c] w fun e w' => e = .returned (.bool true) ∧ Below w.heap.size w w' := by
  obtain ⟨y, q, h1, h2⟩ := both a b c (i64_wf w0) (i64_wf w1) (i64_wf w2)
  have A := Lib.hid (fun w => wakes_any w)
  have C := Lib.hid h1
  have D := Lib.hid h2
  clear h1 h2 w0 w1 w2
  go_enter Try.func4, Try.ntmps4
  go_wp2_with fail
  refine (A.out _).mono ?_
  rintro e w1 ⟨rfl, b1⟩
  go_wp2_with fail
  refine (C.out _).mono ?_
  rintro e w2 ⟨rfl, b2⟩
  go_wp2_with fail
  refine (D.out _).mono ?_
  rintro e w3 ⟨rfl, b3⟩
  go_wp2
  go_ret
  have s1 := b1.size
  have s2 := b2.size
  exact ⟨by simp, (b1.trans (b2.mono s1)).trans (b3.mono (by omega))⟩

set_option maxRecDepth 100000 in
theorem lifted (os : Os) (started : os.Started) (H : Type) (enc : TypeId × Value → H) :
    ReturnsInHanded {} Try.checked os 4 .any (Rows.wideMulDivsSpec.pre6 enc Try.prog Try.f4 Rows.wideMulDivsRow.domain false) (Rows.wideMulDivsSpec.post enc Try.prog Try.f4 false true false false) := by
  refine returnsInHanded_of_change (C := Try.checked) own started (by kernel_rfl) Try.func4
    (ChangeSpec.witness6 (enc := enc) (C := Try.checked) false ⟨#[], #[.int .i64 0, .int .i64 0, .int .i64 0], []⟩ 8 (by kernel_rfl) (by kernel_rfl) (by kernel_rfl) (by kernel_rfl)) ?_
  intro W base args ds gs before hval0 hW hcnd _
  have hval : ∀ (j : Nat) t v, Try.f4.params[j]? = some t → args[j]? = some v → Value.okWide Try.prog W .any base t v := hval0
  have hW' := hW
  obtain ⟨p, q, hA0, hV, rfl, hfz, hnd⟩ := hW
  have hA : DataW.TrodAll enc Try.prog W 0 (fun _ => true) true Try.f4.params.toList args.toList ds p := hA0
  rw [Try.params4] at hA hval
  obtain ⟨v0, v1, v2, d0, d1, d2, p0, p1, p2, rfl, rfl, rfl, h0, h1, h2⟩ := trodAll_three hA
  obtain ⟨rfl, rfl⟩ := trodVars_none hV
  obtain ⟨a0, rfl, rfl, rfl, w0⟩ := open_int Try.underlying2 (hval 0 2 v0 rfl rfl) h0
  obtain ⟨a1, rfl, rfl, rfl, w1⟩ := open_int Try.underlying2 (hval 1 2 v1 rfl rfl) h1
  obtain ⟨a2, rfl, rfl, rfl, w2⟩ := open_int Try.underlying2 (hval 2 2 v2 rfl rfl) h2
  clear hA0 hval0
  simp only [List.append_nil] at hW'
  refine (walk a0 a1 a2 w0 w1 w2 W).mono fun e W' ⟨he, hg⟩ => ?_
  subst he
  exact ⟨_, rfl, ⟨_, _, _, [], _, [], hW', trodAll_mk1 (shut_bool Try.underlying4 _), trodAll_mk3 (shut_int Try.underlying2 w0) (shut_int Try.underlying2 w1) (shut_int Try.underlying2 w2), rfl, hg.frame _, fun h => by cases h⟩⟩

/-- The given statement. -/
theorem proved : Rows.WideMulDivsSaid :=
  OpenClaim.holds_of_wide 4 Try.f4 rfl rfl rfl rfl rfl rfl rfl ⟨rfl, rfl, rfl, rfl, rfl⟩ rfl rfl rfl rfl rfl (by kernel_rfl) Try.func4 (by kernel_rfl)
    (of_decide_eq_true (by kernel_rfl)) (by unfold Func.isWrapper; first | (rw [if_pos (by decide +kernel)]; kernel_rfl) | (rw [if_neg (by decide +kernel)]; exact ⟨rfl, rfl⟩))
    (fun os started H enc _ => lifted os started H enc)
end Go.Proofs.Ytlfdppcdkgfihaa.wideMulDivs
