/-
  TrigCircle answers true for every d of 64 bits: sine and cosine lie from -2^30 to 2^30, and the sum of their squares lies within 2^32 of 2^60. No condition; memory that was there stays as it was.
-/
import Derived.Test.YtdngoeabdpeigaaTrigCalls
namespace Go.Proofs.Ytdngoeabdpeigaa.trigCircle
open Go.ChangeShapes Go.WideShapes Go.ChangeAt Go.RowKit Go.Proofs.Ytdngoeabdpeigaa

theorem sq_one (s : Int) (h : -1073741824 ≤ s ∧ s ≤ 1073741824) : 0 ≤ s * s ∧ s * s ≤ 1152921504606846976 := by
  have e : s * s = (s.natAbs * s.natAbs : Nat) := Int.natAbs_mul_self.symm
  have := Nat.mul_le_mul (show s.natAbs ≤ 1073741824 by omega) (show s.natAbs ≤ 1073741824 by omega)
  rw [e]
  generalize s.natAbs * s.natAbs = y at *
  omega

theorem walk (d : Int) (_ : (Lit.int .i64 d).wf = true) (w : World) :
    Calls Try.prog 5 #[.int .i64 d] w fun e w' => e = .returned (.bool true) ∧ Below w.heap.size w w' := by
  have A := Lib.hid (fun w => wakes_any w)
  have B := Lib.hid (fun w => Both_any d w)
  have o := both_one d
  have c := both_circle d
  have p1 := sq_one _ o.1
  have p2 := sq_one _ o.2
  generalize bothS d = s at *
  generalize bothC d = t at *
  obtain ⟨⟨o1, o2⟩, o3, o4⟩ := o
  obtain ⟨c1, c2⟩ := c
  obtain ⟨p3, p4⟩ := p1
  obtain ⟨p5, p6⟩ := p2
  go_enter Try.func5, Try.ntmps5
  go_wp2_with fail
  refine (A.out _).mono ?_
  rintro e w1 ⟨rfl, b1⟩
  go_wp2_with fail
  refine (B.out _).mono ?_
  rintro e w2 ⟨rfl, b2⟩
  go_wp2
  go_ret
  exact ⟨rfl, b1.trans (b2.mono b1.size)⟩

set_option maxRecDepth 100000 in
theorem lifted (os : Os) (started : os.Started) (H : Type) (enc : TypeId × Value → H) :
    ReturnsInHanded {} Try.checked os 5 .any (Rows.trigCircleSpec.pre6 enc Try.prog Try.f5 Rows.trigCircleRow.domain false) (Rows.trigCircleSpec.post enc Try.prog Try.f5 false true false false) := by
  refine returnsInHanded_of_change (C := Try.checked) own started (by kernel_rfl) Try.func5
    (ChangeSpec.witness6 (enc := enc) (C := Try.checked) false ⟨#[], #[.int .i64 0], []⟩ 8 (by kernel_rfl) (by kernel_rfl) (by kernel_rfl) (by kernel_rfl)) ?_
  intro W base args ds gs before hval0 hW hcnd _
  have hval : ∀ (j : Nat) t v, Try.f5.params[j]? = some t → args[j]? = some v → Value.okWide Try.prog W .any base t v := hval0
  have hW' := hW
  obtain ⟨p, q, hA0, hV, rfl, hfz, hnd⟩ := hW
  have hA : DataW.TrodAll enc Try.prog W 0 (fun _ => true) true Try.f5.params.toList args.toList ds p := hA0
  rw [Try.params5] at hA hval
  obtain ⟨v0, d0, rfl, rfl, h0⟩ := trodAll_one hA
  obtain ⟨rfl, rfl⟩ := trodVars_none hV
  obtain ⟨a0, rfl, rfl, rfl, w0⟩ := open_int Try.underlying2 (hval 0 2 v0 rfl rfl) h0
  clear hA0 hval0
  simp only [List.append_nil] at hW'
  refine (walk a0 w0 W).mono fun e W' ⟨he, hg⟩ => ?_
  subst he
  exact ⟨_, rfl, ⟨_, _, _, [], _, [], hW', trodAll_mk1 (shut_bool Try.underlying4 _), trodAll_mk1 (shut_int Try.underlying2 w0), rfl, hg.frame _, fun h => by cases h⟩⟩

/-- The given statement. -/
theorem proved : Rows.TrigCircleSaid :=
  OpenClaim.holds_of_wide 5 Try.f5 rfl rfl rfl rfl rfl rfl rfl ⟨rfl, rfl, rfl, rfl, rfl⟩ rfl rfl rfl rfl rfl (by kernel_rfl) Try.func5 (by kernel_rfl)
    (of_decide_eq_true (by kernel_rfl)) (by unfold Func.isWrapper; first | (rw [if_pos (by decide +kernel)]; kernel_rfl) | (rw [if_neg (by decide +kernel)]; exact ⟨rfl, rfl⟩))
    (fun os started H enc _ => lifted os started H enc)
end Go.Proofs.Ytdngoeabdpeigaa.trigCircle
