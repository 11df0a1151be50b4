/-
  TrigAdds answers true for every a and b of 32 bits: sine and cosine of their sum lie within 4 of what theirs are put together to. No condition; memory that was there stays as it was.
-/
import Derived.Test.YtdngoeabdpeigaaTrigCalls
namespace Go.Proofs.Ytdngoeabdpeigaa.trigAdds
open Go.ChangeShapes Go.WideShapes Go.ChangeAt Go.RowKit Go.Proofs.Ytdngoeabdpeigaa

theorem i32_wf {a : Int} (h : (Lit.int .i32 a).wf = true) : -2147483648 ≤ a ∧ a ≤ 2147483647 := by
  simp [Lit.wf, IntKind.min, IntKind.max, IntKind.signed, IntKind.bits] at h
  exact ⟨by omega, by omega⟩

theorem prod_one (s t : Int) (h : -1073741824 ≤ s ∧ s ≤ 1073741824) (k : -1073741824 ≤ t ∧ t ≤ 1073741824) : -1152921504606846976 ≤ s * t ∧ s * t ≤ 1152921504606846976 := by
  have hn : (s * t).natAbs ≤ 1073741824 * 1073741824 := by
    rw [Int.natAbs_mul]; exact Nat.mul_le_mul (by omega) (by omega)
  omega

theorem walk (a b : Int) (w0 : (Lit.int .i32 a).wf = true) (w1 : (Lit.int .i32 b).wf = true) (w : World) :
    Calls Try.prog 7 #[.int .i32 a, .int .i32 b] w fun e w' => e = .returned (.bool true) ∧ Below w.heap.size w w' := by
  obtain ⟨a0, a1⟩ := i32_wf w0
  obtain ⟨b0, b1⟩ := i32_wf w1
  clear w0 w1
  have A := Lib.hid (fun w => wakes_any w)
  have B := Lib.hid (fun w => Both_any a w)
  have C := Lib.hid (fun w => Both_any b w)
  have D := Lib.hid (fun w => Both_any (a + b) w)
  have h := adds_both a b
  have oa := both_one a
  have ob := both_one b
  have oc := both_one (a + b)
  unfold Adds at h
  have f1 := floor_four _ _ h.1
  have f2 := floor_four _ _ h.2
  have p1 := prod_one _ _ oa.1 ob.2
  have p2 := prod_one _ _ oa.2 ob.1
  have p3 := prod_one _ _ oa.2 ob.2
  have p4 := prod_one _ _ oa.1 ob.1
  clear h
  generalize bothS a = s at *
  generalize bothC a = c at *
  generalize bothS b = t at *
  generalize bothC b = d at *
  generalize bothS (a + b) = u at *
  generalize bothC (a + b) = e at *
  obtain ⟨⟨oa1, oa2⟩, oa3, oa4⟩ := oa
  obtain ⟨⟨ob1, ob2⟩, ob3, ob4⟩ := ob
  obtain ⟨⟨oc1, oc2⟩, oc3, oc4⟩ := oc
  obtain ⟨p11, p12⟩ := p1
  obtain ⟨p21, p22⟩ := p2
  obtain ⟨p31, p32⟩ := p3
  obtain ⟨p41, p42⟩ := p4
  obtain ⟨f11, f12⟩ := f1
  obtain ⟨f21, f22⟩ := f2
  go_enter Try.func7, Try.ntmps7
  go_wp2_with fail
  refine (A.out _).mono ?_
  rintro e w1 ⟨rfl, b1⟩
  go_wp2_with fail
  refine (B.out _).mono ?_
  rintro e w2 ⟨rfl, b2⟩
  go_wp2_with fail
  refine (C.out _).mono ?_
  rintro e w3 ⟨rfl, b3⟩
  go_wp2_with fail
  refine (D.out _).mono ?_
  rintro e w4 ⟨rfl, b4⟩
  go_wp2
  go_ret
  have s1 := b1.size; have s2 := b2.size; have s3 := b3.size
  exact ⟨by simp, ((b1.trans (b2.mono s1)).trans (b3.mono (by omega))).trans (b4.mono (by omega))⟩

set_option maxRecDepth 100000 in
theorem lifted (os : Os) (started : os.Started) (H : Type) (enc : TypeId × Value → H) :
    ReturnsInHanded {} Try.checked os 7 .any (Rows.trigAddsSpec.pre6 enc Try.prog Try.f7 Rows.trigAddsRow.domain false) (Rows.trigAddsSpec.post enc Try.prog Try.f7 false true false false) := by
  refine returnsInHanded_of_change (C := Try.checked) own started (by kernel_rfl) Try.func7
    (ChangeSpec.witness6 (enc := enc) (C := Try.checked) false ⟨#[], #[.int .i32 0, .int .i32 0], []⟩ 8 (by kernel_rfl) (by kernel_rfl) (by kernel_rfl) (by kernel_rfl)) ?_
  intro W base args ds gs before hval0 hW hcnd _
  have hval : ∀ (j : Nat) t v, Try.f7.params[j]? = some t → args[j]? = some v → Value.okWide Try.prog W .any base t v := hval0
  have hW' := hW
  obtain ⟨p, q, hA0, hV, rfl, hfz, hnd⟩ := hW
  have hA : DataW.TrodAll enc Try.prog W 0 (fun _ => true) true Try.f7.params.toList args.toList ds p := hA0
  rw [Try.params7] at hA hval
  obtain ⟨v0, v1, d0, d1, p0, p1, rfl, rfl, rfl, h0, h1⟩ := trodAll_two hA
  obtain ⟨rfl, rfl⟩ := trodVars_none hV
  obtain ⟨a0, rfl, rfl, rfl, w0⟩ := open_int Try.underlying21 (hval 0 21 v0 rfl rfl) h0
  obtain ⟨a1, rfl, rfl, rfl, w1⟩ := open_int Try.underlying21 (hval 1 21 v1 rfl rfl) h1
  clear hA0 hval0
  simp only [List.append_nil] at hW'
  refine (walk a0 a1 w0 w1 W).mono fun e W' ⟨he, hg⟩ => ?_
  subst he
  exact ⟨_, rfl, ⟨_, _, _, [], _, [], hW', trodAll_mk1 (shut_bool Try.underlying4 _), trodAll_mk2 (shut_int Try.underlying21 w0) (shut_int Try.underlying21 w1), rfl, hg.frame _, fun h => by cases h⟩⟩

/-- The given statement. -/
theorem proved : Rows.TrigAddsSaid :=
  OpenClaim.holds_of_wide 7 Try.f7 rfl rfl rfl rfl rfl rfl rfl ⟨rfl, rfl, rfl, rfl, rfl⟩ rfl rfl rfl rfl rfl (by kernel_rfl) Try.func7 (by kernel_rfl)
    (of_decide_eq_true (by kernel_rfl)) (by unfold Func.isWrapper; first | (rw [if_pos (by decide +kernel)]; kernel_rfl) | (rw [if_neg (by decide +kernel)]; exact ⟨rfl, rfl⟩))
    (fun os started H enc _ => lifted os started H enc)
end Go.Proofs.Ytdngoeabdpeigaa.trigAdds
