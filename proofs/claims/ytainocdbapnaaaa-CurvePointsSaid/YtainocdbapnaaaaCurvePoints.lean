/-
  PROVED: the statement of CurvePoints, for every input: the point of any right curve at any place is the document's; at both ends it is the end. (Typed by a program: wip/gen_law11a.py.)
-/
import Derived.Test.YtainocdbapnaaaaRows
import Derived.Test.YtainocdbapnaaaaCrvWakes
import Derived.Test.YtainocdbapnaaaaCrvTrod
import Derived.Test.YtainocdbapnaaaaRefCrvA
import Derived.Test.YtainocdbapnaaaaRefCrvF
import Derived.Test.YtainocdbapnaaaaCrvAt
namespace Go.Proofs.Ytainocdbapnaaaa.curvePoints
open Go.ChangeShapes Go.WideShapes Go.ChangeAt Go.RowKit Go.Shelf

set_option maxHeartbeats 16000000 in
set_option maxRecDepth 100000 in
theorem walk (c : Crv) (_h : (I64 c.px ∧ I64 c.py) ∧ (I64 c.qx ∧ I64 c.qy) ∧ (I64 c.rx ∧ I64 c.ry) ∧ (I64 c.sx ∧ I64 c.sy)) (t : Int) (_ht : (Lit.int .i64 t).wf = true) (w : World) :
    Calls Try.prog 5 #[c.val, .int .i64 t] w fun e w' => e = .returned (.bool true) ∧ Below w.heap.size w w' := by
  have K := Lib.hid (fun w => wakes11 w)
  have RR := Lib.hid (fun w => rright11 c w)
  by_cases hr : c.right
  · rw [decide_eq_true hr] at RR
    have CA := Lib.hid (fun w => cat11 c t w hr)
    have RA := Lib.hid (fun w => rat11 c t w hr)
    have C0 := Lib.hid (fun w => cat11 c 0 w hr)
    have C1 := Lib.hid (fun w => cat11 c 65536 w hr)
    rw [show capT 0 = 0 from by decide, at_zero] at C0
    rw [show capT 65536 = 65536 from by decide, at_one] at C1
    generalize (c.at (capT t)).1 = X at *
    generalize (c.at (capT t)).2 = Y at *
    clear hr
    obtain ⟨px, py, qx, qy, rx, ry, sx, sy⟩ := c
    unfold Crv.val Crv.arr at *
    dsimp only at *
    have k1 := CBox.new w 25 #[.int .i64 px, .int .i64 py, .int .i64 qx, .int .i64 qy, .int .i64 rx, .int .i64 ry, .int .i64 sx, .int .i64 sy]
    have HC0 := Lib.hid k1
    have HB0 := Lib.hid ((Below.refl w.heap.size w).alloc (Nat.le_refl _) (.cells #[.int .i64 px, .int .i64 py, .int .i64 qx, .int .i64 qy, .int .i64 rx, .int .i64 ry, .int .i64 sx, .int .i64 sy] 25))
    clear k1
    go_enter Try.func5, Try.ntmps5
    go_upto_region 1 with fail
    generalize w.alloc (.cells #[.int .i64 px, .int .i64 py, .int .i64 qx, .int .i64 qy, .int .i64 rx, .int .i64 ry, .int .i64 sx, .int .i64 sy] 25) = w1 at *
    go_wp2_with fail
    refine (K.out _).mono ?_
    rintro e w2 ⟨rfl, b1⟩
    have HB1 := Lib.hid (HB0.out.trans (b1.mono HB0.out.size))
    have HC1 := Lib.hid (HC0.out.next b1)
    clear b1
    go_upto_region 3 with fail
    have xC0 : w2.cell? ⟨w.heap.size, 0, none⟩ = some (.int .i64 px) := HC1.out.c 0 rfl
    have xC1 : w2.cell? ⟨w.heap.size, 1, none⟩ = some (.int .i64 py) := HC1.out.c 1 rfl
    have xC2 : w2.cell? ⟨w.heap.size, 2, none⟩ = some (.int .i64 qx) := HC1.out.c 2 rfl
    have xC3 : w2.cell? ⟨w.heap.size, 3, none⟩ = some (.int .i64 qy) := HC1.out.c 3 rfl
    have xC4 : w2.cell? ⟨w.heap.size, 4, none⟩ = some (.int .i64 rx) := HC1.out.c 4 rfl
    have xC5 : w2.cell? ⟨w.heap.size, 5, none⟩ = some (.int .i64 ry) := HC1.out.c 5 rfl
    have xC6 : w2.cell? ⟨w.heap.size, 6, none⟩ = some (.int .i64 sx) := HC1.out.c 6 rfl
    have xC7 : w2.cell? ⟨w.heap.size, 7, none⟩ = some (.int .i64 sy) := HC1.out.c 7 rfl
    go_wp2_with fail
    refine (RR.out _).mono ?_
    rintro e w3 ⟨rfl, b2⟩
    clear xC0 xC1 xC2 xC3 xC4 xC5 xC6 xC7
    have HB2 := Lib.hid (HB1.out.trans (b2.mono HB1.out.size))
    have HC2 := Lib.hid (HC1.out.next b2)
    clear b2
    go_upto_region 5 with fail
    have xC0 : w3.cell? ⟨w.heap.size, 0, none⟩ = some (.int .i64 px) := HC2.out.c 0 rfl
    have xC1 : w3.cell? ⟨w.heap.size, 1, none⟩ = some (.int .i64 py) := HC2.out.c 1 rfl
    have xC2 : w3.cell? ⟨w.heap.size, 2, none⟩ = some (.int .i64 qx) := HC2.out.c 2 rfl
    have xC3 : w3.cell? ⟨w.heap.size, 3, none⟩ = some (.int .i64 qy) := HC2.out.c 3 rfl
    have xC4 : w3.cell? ⟨w.heap.size, 4, none⟩ = some (.int .i64 rx) := HC2.out.c 4 rfl
    have xC5 : w3.cell? ⟨w.heap.size, 5, none⟩ = some (.int .i64 ry) := HC2.out.c 5 rfl
    have xC6 : w3.cell? ⟨w.heap.size, 6, none⟩ = some (.int .i64 sx) := HC2.out.c 6 rfl
    have xC7 : w3.cell? ⟨w.heap.size, 7, none⟩ = some (.int .i64 sy) := HC2.out.c 7 rfl
    have HBz := Lib.hid (Below.refl w3.heap.size w3)
    have HBd := Lib.hid HBz.out.drew
    go_region_held3 (fun w' => w'.cell? ⟨w.heap.size, 0, none⟩ = some (.int .i64 px) ∧ w'.cell? ⟨w.heap.size, 1, none⟩ = some (.int .i64 py) ∧ w'.cell? ⟨w.heap.size, 2, none⟩ = some (.int .i64 qx) ∧ w'.cell? ⟨w.heap.size, 3, none⟩ = some (.int .i64 qy) ∧ w'.cell? ⟨w.heap.size, 4, none⟩ = some (.int .i64 rx) ∧ w'.cell? ⟨w.heap.size, 5, none⟩ = some (.int .i64 ry) ∧ w'.cell? ⟨w.heap.size, 6, none⟩ = some (.int .i64 sx) ∧ w'.cell? ⟨w.heap.size, 7, none⟩ = some (.int .i64 sy)) (first | (refine ⟨?_, ?_, ?_, ?_, ?_, ?_, ?_, ?_⟩ <;> first | with_reducible assumption) | (simp [go_sem, *]; done))
      (first
      | (go_at_call 19; (with_reducible refine (CA.out _).mono ?_); rintro e v1 ⟨rfl, bc1⟩; have HBc1 := Lib.hid (HBd.out.trans (bc1.mono HBd.out.size)); clear xC0 xC1 xC2 xC3 xC4 xC5 xC6 xC7; have hC_ := HC2.out.next HBc1.out; have xC0 : v1.cell? ⟨w.heap.size, 0, none⟩ = some (.int .i64 px) := hC_.c 0 rfl; have xC1 : v1.cell? ⟨w.heap.size, 1, none⟩ = some (.int .i64 py) := hC_.c 1 rfl; have xC2 : v1.cell? ⟨w.heap.size, 2, none⟩ = some (.int .i64 qx) := hC_.c 2 rfl; have xC3 : v1.cell? ⟨w.heap.size, 3, none⟩ = some (.int .i64 qy) := hC_.c 3 rfl; have xC4 : v1.cell? ⟨w.heap.size, 4, none⟩ = some (.int .i64 rx) := hC_.c 4 rfl; have xC5 : v1.cell? ⟨w.heap.size, 5, none⟩ = some (.int .i64 ry) := hC_.c 5 rfl; have xC6 : v1.cell? ⟨w.heap.size, 6, none⟩ = some (.int .i64 sx) := hC_.c 6 rfl; have xC7 : v1.cell? ⟨w.heap.size, 7, none⟩ = some (.int .i64 sy) := hC_.c 7 rfl; clear hC_; clear bc1)
      | (go_at_call 20; (with_reducible refine (RA.out _).mono ?_); rintro e v2 ⟨rfl, bc2⟩; have HBc2 := Lib.hid (HBc1.out.trans (bc2.mono HBc1.out.size)); clear xC0 xC1 xC2 xC3 xC4 xC5 xC6 xC7; have hC_ := HC2.out.next HBc2.out; have xC0 : v2.cell? ⟨w.heap.size, 0, none⟩ = some (.int .i64 px) := hC_.c 0 rfl; have xC1 : v2.cell? ⟨w.heap.size, 1, none⟩ = some (.int .i64 py) := hC_.c 1 rfl; have xC2 : v2.cell? ⟨w.heap.size, 2, none⟩ = some (.int .i64 qx) := hC_.c 2 rfl; have xC3 : v2.cell? ⟨w.heap.size, 3, none⟩ = some (.int .i64 qy) := hC_.c 3 rfl; have xC4 : v2.cell? ⟨w.heap.size, 4, none⟩ = some (.int .i64 rx) := hC_.c 4 rfl; have xC5 : v2.cell? ⟨w.heap.size, 5, none⟩ = some (.int .i64 ry) := hC_.c 5 rfl; have xC6 : v2.cell? ⟨w.heap.size, 6, none⟩ = some (.int .i64 sx) := hC_.c 6 rfl; have xC7 : v2.cell? ⟨w.heap.size, 7, none⟩ = some (.int .i64 sy) := hC_.c 7 rfl; clear hC_; clear bc2)
      | (go_at_call 19; (with_reducible refine (C0.out _).mono ?_); rintro e v3 ⟨rfl, bc3⟩; have HBc3 := Lib.hid (HBc2.out.trans (bc3.mono HBc2.out.size)); clear xC0 xC1 xC2 xC3 xC4 xC5 xC6 xC7; have hC_ := HC2.out.next HBc3.out; have xC0 : v3.cell? ⟨w.heap.size, 0, none⟩ = some (.int .i64 px) := hC_.c 0 rfl; have xC1 : v3.cell? ⟨w.heap.size, 1, none⟩ = some (.int .i64 py) := hC_.c 1 rfl; have xC2 : v3.cell? ⟨w.heap.size, 2, none⟩ = some (.int .i64 qx) := hC_.c 2 rfl; have xC3 : v3.cell? ⟨w.heap.size, 3, none⟩ = some (.int .i64 qy) := hC_.c 3 rfl; have xC4 : v3.cell? ⟨w.heap.size, 4, none⟩ = some (.int .i64 rx) := hC_.c 4 rfl; have xC5 : v3.cell? ⟨w.heap.size, 5, none⟩ = some (.int .i64 ry) := hC_.c 5 rfl; have xC6 : v3.cell? ⟨w.heap.size, 6, none⟩ = some (.int .i64 sx) := hC_.c 6 rfl; have xC7 : v3.cell? ⟨w.heap.size, 7, none⟩ = some (.int .i64 sy) := hC_.c 7 rfl; clear hC_; clear bc3)
      | (go_at_call 19; (with_reducible refine (C1.out _).mono ?_); rintro e v4 ⟨rfl, bc4⟩; have HBc4 := Lib.hid (HBc3.out.trans (bc4.mono HBc3.out.size)); clear xC0 xC1 xC2 xC3 xC4 xC5 xC6 xC7; have hC_ := HC2.out.next HBc4.out; have xC0 : v4.cell? ⟨w.heap.size, 0, none⟩ = some (.int .i64 px) := hC_.c 0 rfl; have xC1 : v4.cell? ⟨w.heap.size, 1, none⟩ = some (.int .i64 py) := hC_.c 1 rfl; have xC2 : v4.cell? ⟨w.heap.size, 2, none⟩ = some (.int .i64 qx) := hC_.c 2 rfl; have xC3 : v4.cell? ⟨w.heap.size, 3, none⟩ = some (.int .i64 qy) := hC_.c 3 rfl; have xC4 : v4.cell? ⟨w.heap.size, 4, none⟩ = some (.int .i64 rx) := hC_.c 4 rfl; have xC5 : v4.cell? ⟨w.heap.size, 5, none⟩ = some (.int .i64 ry) := hC_.c 5 rfl; have xC6 : v4.cell? ⟨w.heap.size, 6, none⟩ = some (.int .i64 sx) := hC_.c 6 rfl; have xC7 : v4.cell? ⟨w.heap.size, 7, none⟩ = some (.int .i64 sy) := hC_.c 7 rfl; clear hC_; clear bc4)
      )
    clear xC0 xC1 xC2 xC3 xC4 xC5 xC6 xC7
    have HB3 := Lib.hid (HB2.out.trans (HBc4.out.mono HB2.out.size))
    have HC3 := Lib.hid (HC2.out.next HBc4.out)
    generalize v4 = w4 at *
    go_wp2_with fail
    go_ret
    exact ⟨rfl, HB3.out⟩
  · rw [decide_eq_false hr] at RR
    clear hr
    obtain ⟨px, py, qx, qy, rx, ry, sx, sy⟩ := c
    unfold Crv.val Crv.arr at *
    dsimp only at *
    have k1 := CBox.new w 25 #[.int .i64 px, .int .i64 py, .int .i64 qx, .int .i64 qy, .int .i64 rx, .int .i64 ry, .int .i64 sx, .int .i64 sy]
    have HC0 := Lib.hid k1
    have HB0 := Lib.hid ((Below.refl w.heap.size w).alloc (Nat.le_refl _) (.cells #[.int .i64 px, .int .i64 py, .int .i64 qx, .int .i64 qy, .int .i64 rx, .int .i64 ry, .int .i64 sx, .int .i64 sy] 25))
    clear k1
    go_enter Try.func5, Try.ntmps5
    go_upto_region 1 with fail
    generalize w.alloc (.cells #[.int .i64 px, .int .i64 py, .int .i64 qx, .int .i64 qy, .int .i64 rx, .int .i64 ry, .int .i64 sx, .int .i64 sy] 25) = w1 at *
    go_wp2_with fail
    refine (K.out _).mono ?_
    rintro e w2 ⟨rfl, b1⟩
    have HB1 := Lib.hid (HB0.out.trans (b1.mono HB0.out.size))
    have HC1 := Lib.hid (HC0.out.next b1)
    clear b1
    go_upto_region 3 with fail
    have xC0 : w2.cell? ⟨w.heap.size, 0, none⟩ = some (.int .i64 px) := HC1.out.c 0 rfl
    have xC1 : w2.cell? ⟨w.heap.size, 1, none⟩ = some (.int .i64 py) := HC1.out.c 1 rfl
    have xC2 : w2.cell? ⟨w.heap.size, 2, none⟩ = some (.int .i64 qx) := HC1.out.c 2 rfl
    have xC3 : w2.cell? ⟨w.heap.size, 3, none⟩ = some (.int .i64 qy) := HC1.out.c 3 rfl
    have xC4 : w2.cell? ⟨w.heap.size, 4, none⟩ = some (.int .i64 rx) := HC1.out.c 4 rfl
    have xC5 : w2.cell? ⟨w.heap.size, 5, none⟩ = some (.int .i64 ry) := HC1.out.c 5 rfl
    have xC6 : w2.cell? ⟨w.heap.size, 6, none⟩ = some (.int .i64 sx) := HC1.out.c 6 rfl
    have xC7 : w2.cell? ⟨w.heap.size, 7, none⟩ = some (.int .i64 sy) := HC1.out.c 7 rfl
    go_wp2_with fail
    refine (RR.out _).mono ?_
    rintro e w3 ⟨rfl, b2⟩
    clear xC0 xC1 xC2 xC3 xC4 xC5 xC6 xC7
    have HB2 := Lib.hid (HB1.out.trans (b2.mono HB1.out.size))
    have HC2 := Lib.hid (HC1.out.next b2)
    clear b2
    go_wp2_with fail
    go_ret
    exact ⟨rfl, HB2.out⟩
set_option maxRecDepth 100000 in
theorem lifted (os : Os) (started : os.Started) (H : Type) (enc : TypeId × Value → H) :
    ReturnsInHanded {} Try.checked os 5 .any (Rows.curvePointsSpec.pre6 enc Try.prog Try.f5 Rows.curvePointsRow.domain false) (Rows.curvePointsSpec.post enc Try.prog Try.f5 false true false false) := by
  refine returnsInHanded_of_change (C := Try.checked) own started (by kernel_rfl) Try.func5
    (ChangeSpec.witness6 (enc := enc) (C := Try.checked) false ⟨#[], #[.agg #[.int .i64 0, .int .i64 0, .int .i64 0, .int .i64 0, .int .i64 0, .int .i64 0, .int .i64 0, .int .i64 0], .int .i64 0], []⟩ 8 (by kernel_rfl) (by kernel_rfl) (by kernel_rfl) (by kernel_rfl)) ?_
  intro W base args ds gs before hval0 hW hcnd _
  have hval : ∀ (j : Nat) t v, Try.f5.params[j]? = some t → args[j]? = some v → Value.okWide Try.prog W .any base t v := hval0
  have hW' := hW
  obtain ⟨p, q, hA0, hV, rfl, hfz, hnd⟩ := hW
  have hA : DataW.TrodAll enc Try.prog W 0 (fun _ => true) true Try.f5.params.toList args.toList ds p := hA0
  rw [Try.params5] at hA hval
  obtain ⟨v0, v1, d0, d1, p0, p1, rfl, rfl, rfl, h0, h1⟩ := trodAll_two hA
  obtain ⟨rfl, rfl⟩ := trodVars_none hV
  obtain ⟨c0, rfl, w0⟩ := crv_of_trod Try.underlying25 (by kernel_rfl) rfl rfl rfl rfl Try.underlying23 (by kernel_rfl) rfl rfl rfl rfl rfl (by kernel_rfl) (by kernel_rfl) Try.underlying2 Try.underlying2 (hval 0 25 v0 rfl rfl) h0
  obtain ⟨a1, rfl, rfl, rfl, w1⟩ := open_int Try.underlying2 (hval 1 2 v1 rfl rfl) h1
  clear hA0 hval0
  simp only [List.append_nil] at hW'
  have lt0 : ∀ x ∈ p0, x.block < W.heap.size := fun x hx => hW'.lt x (by simp [hx])
  refine (walk c0 w0 a1 w1 W).mono fun e W' ⟨he, hg⟩ => ?_
  subst he
  have b0' := Below.trod laidOut (by kernel_rfl) (of_decide_eq_true (by kernel_rfl)) h0 hg lt0
  exact ⟨_, rfl, ⟨_, _, _, [], _, [], hW', trodAll_mk1 (shut_bool Try.underlying4 _), trodAll_mk2 b0' (shut_int Try.underlying2 w1), rfl, hg.frame _, fun h => by cases h⟩⟩

/-- The given statement. -/
theorem proved : Rows.CurvePointsSaid :=
  OpenClaim.holds_of_wide 5 Try.f5 rfl rfl rfl rfl rfl rfl rfl ⟨rfl, rfl, rfl, rfl, rfl⟩ rfl rfl rfl rfl rfl (by kernel_rfl) Try.func5 (by kernel_rfl)
    (of_decide_eq_true (by kernel_rfl)) (by unfold Func.isWrapper; first | (rw [if_pos (by decide +kernel)]; kernel_rfl) | (rw [if_neg (by decide +kernel)]; exact ⟨rfl, rfl⟩))
    (fun os started H enc _ => lifted os started H enc)
end Go.Proofs.Ytainocdbapnaaaa.curvePoints
