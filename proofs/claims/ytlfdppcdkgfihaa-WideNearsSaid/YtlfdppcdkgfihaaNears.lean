/-
  WideNears answers true for every a, b and c of 32 bits: MulDiv's answer, times the divisor, lies half a divisor above the product at most, and less than half below. No condition; memory that was there stays as it was.
-/
import Derived.Test.YtlfdppcdkgfihaaWakes
import Derived.ProofKit
import Derived.OpenShut
namespace Go.Proofs.Ytlfdppcdkgfihaa.wideNears
open Go.ChangeShapes Go.WideShapes Go.ChangeAt Go.RowKit Go.Proofs.Ytlfdppcdkgfihaa

theorem own : ownKnob Try.prog.godebug = none := by kernel_rfl

theorem i32_wf {a : Int} (h : (Lit.int .i32 a).wf = true) : -2147483648 ≤ a ∧ a ≤ 2147483647 := by
  simp [Lit.wf, IntKind.min, IntKind.max, IntKind.signed, IntKind.bits] at h
  exact ⟨by omega, by omega⟩

theorem prod_i32 (a b : Int) (ha : -2147483648 ≤ a ∧ a ≤ 2147483647) (hb : -2147483648 ≤ b ∧ b ≤ 2147483647) : -4611686018427387904 ≤ a * b ∧ a * b ≤ 4611686018427387904 := by
  have hn : (a * b).natAbs ≤ 2147483648 * 2147483648 := by
    rw [Int.natAbs_mul]; exact Nat.mul_le_mul (by omega) (by omega)
  omega

/-- The nearest whole number, times the divisor. -/
theorem near_rest (p : Int) (d : Nat) (hd : 0 < d) (hd2 : d ≤ 2147483648) (hp : -4611686018427387904 ≤ p ∧ p ≤ 4611686018427387904) :
    2 * (near p d * d - p) ≤ d ∧ -(d : Int) < 2 * (near p d * d - p) ∧ -(d : Int) + (d : Int) / 2 - 1 < near p d * d - p ∧ I64 (near p d) := by
  unfold near
  have e := Int.mul_ediv_add_emod (p + (d : Int) / 2) d
  have l0 := Int.emod_nonneg (p + (d : Int) / 2) (show (d : Int) ≠ 0 by omega)
  have l1 := Int.emod_lt_of_pos (p + (d : Int) / 2) (show (0 : Int) < d by omega)
  rw [Int.mul_comm] at e
  have b1 : -4611686018427387905 ≤ (p + (d : Int) / 2) / (d : Int) := by
    rw [Int.le_ediv_iff_mul_le (by omega)]
    have := Int.mul_le_mul_of_nonpos_left (show (-4611686018427387905 : Int) ≤ 0 by decide) (show (1 : Int) ≤ d by omega)
    omega
  have b2 : (p + (d : Int) / 2) / (d : Int) < 4611686020574871553 := by
    rw [Int.ediv_lt_iff_lt_mul (by omega)]
    have := Int.mul_le_mul_of_nonneg_left (show (1 : Int) ≤ d by omega) (show (0 : Int) ≤ 4611686020574871553 by decide)
    omega
  generalize (p + (d : Int) / 2) / (d : Int) = n at *
  generalize (p + (d : Int) / 2) % (d : Int) = m at *
  generalize n * (d : Int) = k at *
  refine ⟨by omega, by omega, by omega, ?_⟩
  unfold I64
  omega

theorem walk (a b c : Int) (w0 : (Lit.int .i32 a).wf = true) (w1 : (Lit.int .i32 b).wf = true) (w2 : (Lit.int .i32 c).wf = true) (w : World) :
    Calls Try.prog 6 #[.int .i32 a, .int .i32 b, .int .i32 c] w fun e w' => e = .returned (.bool true) ∧ Below w.heap.size w w' := by
  have ha := i32_wf w0
  have hb := i32_wf w1
  have hc := i32_wf w2
  have hp := prod_i32 a b ha hb
  have A := Lib.hid (fun w => wakes_any w)
  clear w0 w1 w2
  by_cases hz : c = 0
  · subst hz
    go_enter Try.func6, Try.ntmps6
    go_wp2_with fail
    refine (A.out _).mono ?_
    rintro e w1 ⟨rfl, b1⟩
    go_wp2
    go_ret
    exact ⟨rfl, b1⟩
  · have M := Lib.hid (fun w => muldiv_any a b c w (by unfold I64; omega) (by unfold I64; omega) (by unfold I64; omega) hz)
    have nz : (c == 0) = false := by rw [beq_eq_false_iff_ne]; exact hz
    by_cases hpos : 0 < c
    · have R := near_rest (a * b) c.natAbs (by omega) (by omega) hp
      have e1 : muldiv a b c = near (a * b) c.natAbs := by unfold muldiv; rw [if_pos hpos]
      rw [e1, pair_i64 R.2.2.2] at M
      rw [show (c.natAbs : Int) = c from by omega] at R
      have hng : ¬ c < 0 := by omega
      clear hz e1
      generalize near (a * b) c.natAbs = n at *
      have R1 := R.1
      have R2 := R.2.1
      have R3 := R.2.2.1
      clear R
      have o1 : -9223372036854775808 ≤ n * c := by omega
      have o2 : n * c ≤ 9223372036854775807 := by omega
      have hp1 := hp.1
      have hp2 := hp.2
      have c2 := hc.2
      clear hp
      go_enter Try.func6, Try.ntmps6
      go_wp2_with fail
      refine (A.out _).mono ?_
      rintro e w1 ⟨rfl, b1⟩
      go_wp2_with fail
      refine (M.out _).mono ?_
      rintro e w2 ⟨rfl, b2⟩
      go_wp2
      go_ret
      exact ⟨rfl, b1.trans (b2.mono b1.size)⟩
    · have R := near_rest (-(a * b)) c.natAbs (by omega) (by omega) (by omega)
      have e1 : muldiv a b c = near (-(a * b)) c.natAbs := by unfold muldiv; rw [if_neg hpos]
      rw [e1, pair_i64 R.2.2.2] at M
      rw [show (c.natAbs : Int) = -c from by omega] at R
      have hng : c < 0 := by omega
      clear hz e1 hpos nz
      generalize near (-(a * b)) c.natAbs = n at *
      obtain ⟨d, rfl⟩ : ∃ d, c = -d := ⟨-c, by omega⟩
      rw [Int.neg_neg] at R
      have R1 := R.1
      have R2 := R.2.1
      have R3 := R.2.2.1
      clear R
      have d0 : 0 < d := by omega
      have d1 : d ≤ 2147483648 := by omega
      have dz : (d == 0) = false := by rw [beq_eq_false_iff_ne]; omega
      have nz : (-d == 0) = false := by rw [beq_eq_false_iff_ne]; omega
      have o1 : -9223372036854775808 ≤ n * d := by omega
      have o2 : n * d ≤ 9223372036854775807 := by omega
      have hp1 := hp.1
      have hp2 := hp.2
      clear hp hc hng
      rw [Int.sub_neg] at R1 R2 R3
      go_enter Try.func6, Try.ntmps6
      go_wp2_with fail
      refine (A.out _).mono ?_
      rintro e w1 ⟨rfl, b1⟩
      go_wp2_with fail
      refine (M.out _).mono ?_
      rintro e w2 ⟨rfl, b2⟩
      go_wp2
      go_ret
      exact ⟨rfl, b1.trans (b2.mono b1.size)⟩

set_option maxRecDepth 100000 in
theorem lifted (os : Os) (started : os.Started) (H : Type) (enc : TypeId × Value → H) :
    ReturnsInHanded {} Try.checked os 6 .any (Rows.wideNearsSpec.pre6 enc Try.prog Try.f6 Rows.wideNearsRow.domain false) (Rows.wideNearsSpec.post enc Try.prog Try.f6 false true false false) := by
  refine returnsInHanded_of_change (C := Try.checked) own started (by kernel_rfl) Try.func6
    (ChangeSpec.witness6 (enc := enc) (C := Try.checked) false ⟨#[], #[.int .i32 0, .int .i32 0, .int .i32 0], []⟩ 8 (by kernel_rfl) (by kernel_rfl) (by kernel_rfl) (by kernel_rfl)) ?_
  intro W base args ds gs before hval0 hW hcnd _
  have hval : ∀ (j : Nat) t v, Try.f6.params[j]? = some t → args[j]? = some v → Value.okWide Try.prog W .any base t v := hval0
  have hW' := hW
  obtain ⟨p, q, hA0, hV, rfl, hfz, hnd⟩ := hW
  have hA : DataW.TrodAll enc Try.prog W 0 (fun _ => true) true Try.f6.params.toList args.toList ds p := hA0
  rw [Try.params6] at hA hval
  obtain ⟨v0, v1, v2, d0, d1, d2, p0, p1, p2, rfl, rfl, rfl, h0, h1, h2⟩ := trodAll_three hA
  obtain ⟨rfl, rfl⟩ := trodVars_none hV
  obtain ⟨a0, rfl, rfl, rfl, w0⟩ := open_int Try.underlying21 (hval 0 21 v0 rfl rfl) h0
  obtain ⟨a1, rfl, rfl, rfl, w1⟩ := open_int Try.underlying21 (hval 1 21 v1 rfl rfl) h1
  obtain ⟨a2, rfl, rfl, rfl, w2⟩ := open_int Try.underlying21 (hval 2 21 v2 rfl rfl) h2
  clear hA0 hval0
  simp only [List.append_nil] at hW'
  refine (walk a0 a1 a2 w0 w1 w2 W).mono fun e W' ⟨he, hg⟩ => ?_
  subst he
  exact ⟨_, rfl, ⟨_, _, _, [], _, [], hW', trodAll_mk1 (shut_bool Try.underlying4 _), trodAll_mk3 (shut_int Try.underlying21 w0) (shut_int Try.underlying21 w1) (shut_int Try.underlying21 w2), rfl, hg.frame _, fun h => by cases h⟩⟩

/-- The given statement. -/
theorem proved : Rows.WideNearsSaid :=
  OpenClaim.holds_of_wide 6 Try.f6 rfl rfl rfl rfl rfl rfl rfl ⟨rfl, rfl, rfl, rfl, rfl⟩ rfl rfl rfl rfl rfl (by kernel_rfl) Try.func6 (by kernel_rfl)
    (of_decide_eq_true (by kernel_rfl)) (by unfold Func.isWrapper; first | (rw [if_pos (by decide +kernel)]; kernel_rfl) | (rw [if_neg (by decide +kernel)]; exact ⟨rfl, rfl⟩))
    (fun os started H enc _ => lifted os started H enc)
end Go.Proofs.Ytlfdppcdkgfihaa.wideNears
