/-
  PROVED: the statement of VecHandles, for every input.
-/
import Derived.Test.YthnjdncnmdmjaaaRows
import Derived.Test.YthnjdncnmdmjaaaVecFn
import Derived.Test.YthnjdncnmdmjaaaVecPair
import Derived.Test.YthnjdncnmdmjaaaVecRef
import Derived.Test.YthnjdncnmdmjaaaAffTrod
import Derived.Deep.DeepCutAuto
namespace Go.Proofs.Ythnjdncnmdmjaaa.vecHandles
open Go.ChangeShapes Go.WideShapes Go.ChangeAt Go.RowKit Go.Shelf

theorem in1_62h {x : Int} (h : In1 x) : In62 x := by unfold In1 at h; unfold In62; omega
set_option maxHeartbeats 4000000 in
set_option maxRecDepth 100000 in
theorem walk (x y : Int) (_wx : I64 x) (_wy : I64 y) (u v : Int) (_wu : I64 u) (_wv : I64 v) (w : World) :
    Calls Try.prog 8 #[.agg #[.int .i64 x, .int .i64 y], .agg #[.int .i64 u, .int .i64 v]] w fun e w' => e = .returned (.bool true) ∧ Below w.heap.size w w' := by
  have WK := Lib.hid (fun w => wakes9 w)
  have RA := Lib.hid (fun w => rright9 x y w)
  have RB := Lib.hid (fun w => rright9 u v w)
  obtain ⟨hp, hq, hb⟩ := boxes_ab w x y u v
  have HP1 := Lib.hid hp
  have HQ1 := Lib.hid hq
  have HB1 := Lib.hid hb
  clear hp hq hb
  by_cases hr : rightD x y
  case neg =>
    rw [decide_eq_false hr] at RA
    clear hr RB
    go_enter Try.func8, Try.ntmps8
    go_upto_region 1 with fail
    generalize (w.alloc (.cells #[.int .i64 x, .int .i64 y] 25)).alloc (.cells #[.int .i64 u, .int .i64 v] 25) = w1 at *
    have z00 := HP1.out.c0; have z01 := HP1.out.c1; have z10 := HQ1.out.c0; have z11 := HQ1.out.c1
    go_wp2_with fail
    refine (WK.out _).mono ?_
    rintro e w2 ⟨rfl, b2⟩
    have HB2 := Lib.hid (HB1.out.trans (b2.mono HB1.out.size)); have HP2 := Lib.hid (HP1.out.next b2); have HQ2 := Lib.hid (HQ1.out.next b2)
    clear b2 z00 z01 z10 z11
    have z00 := HP2.out.c0; have z01 := HP2.out.c1; have z10 := HQ2.out.c0; have z11 := HQ2.out.c1
    go_wp2_with fail
    refine (RA.out _).mono ?_
    rintro e w3 ⟨rfl, b3⟩
    have HB3 := Lib.hid (HB2.out.trans (b3.mono HB2.out.size)); have HP3 := Lib.hid (HP2.out.next b3); have HQ3 := Lib.hid (HQ2.out.next b3)
    clear b3 z00 z01 z10 z11
    have z00 := HP3.out.c0; have z01 := HP3.out.c1; have z10 := HQ3.out.c0; have z11 := HQ3.out.c1
    go_wp2_with fail
    go_ret
    exact ⟨rfl, HB3.out⟩
  rw [decide_eq_true hr] at RA
  by_cases hs : rightD u v
  case neg =>
    rw [decide_eq_false hs] at RB
    clear hr hs
    go_enter Try.func8, Try.ntmps8
    go_upto_region 1 with fail
    generalize (w.alloc (.cells #[.int .i64 x, .int .i64 y] 25)).alloc (.cells #[.int .i64 u, .int .i64 v] 25) = w1 at *
    have z00 := HP1.out.c0; have z01 := HP1.out.c1; have z10 := HQ1.out.c0; have z11 := HQ1.out.c1
    go_wp2_with fail
    refine (WK.out _).mono ?_
    rintro e w2 ⟨rfl, b2⟩
    have HB2 := Lib.hid (HB1.out.trans (b2.mono HB1.out.size)); have HP2 := Lib.hid (HP1.out.next b2); have HQ2 := Lib.hid (HQ1.out.next b2)
    clear b2 z00 z01 z10 z11
    have z00 := HP2.out.c0; have z01 := HP2.out.c1; have z10 := HQ2.out.c0; have z11 := HQ2.out.c1
    go_wp2_with fail
    refine (RA.out _).mono ?_
    rintro e w3 ⟨rfl, b3⟩
    have HB3 := Lib.hid (HB2.out.trans (b3.mono HB2.out.size)); have HP3 := Lib.hid (HP2.out.next b3); have HQ3 := Lib.hid (HQ2.out.next b3)
    clear b3 z00 z01 z10 z11
    have z00 := HP3.out.c0; have z01 := HP3.out.c1; have z10 := HQ3.out.c0; have z11 := HQ3.out.c1
    go_wp2_with fail
    refine (RB.out _).mono ?_
    rintro e w4 ⟨rfl, b4⟩
    have HB4 := Lib.hid (HB3.out.trans (b4.mono HB3.out.size)); have HP4 := Lib.hid (HP3.out.next b4); have HQ4 := Lib.hid (HQ3.out.next b4)
    clear b4 z00 z01 z10 z11
    have z00 := HP4.out.c0; have z01 := HP4.out.c1; have z10 := HQ4.out.c0; have z11 := HQ4.out.c1
    go_wp2_with fail
    go_ret
    exact ⟨rfl, HB4.out⟩
  rw [decide_eq_true hs] at RB
  obtain ⟨hx, hy⟩ := right_in hr
  obtain ⟨hu, hv⟩ := right_in hs
  have T1 : Hid (∀ w : World, Calls Try.prog 24 #[.agg #[.int .i64 x, .int .i64 y], .int .i64 1] w fun e w' => e = .returned (.agg #[.int .i64 (-y), .int .i64 x]) ∧ Below w.heap.size w w') := Lib.hid (fun w => vturn_any x y 1 w (in1_62h hx) (in1_62h hy))
  have LQ := Lib.hid (fun w => vhandle_any x y (-y) x w hx hy (in1_neg hy) hx)
  rw [dot_turned] at LQ
  have q1 := hand_quarter
  have LV := Lib.hid (fun w => vhandle_any x y u v w hx hy hu hv)
  have LW := Lib.hid (fun w => vhandle_any u v x y w hu hv hx hy)
  rw [vdot_comm x y u v] at LW
  have q2 := hand_le (vdot x y u v)
  have LS := Lib.hid (fun w => vhandle_any x y x y w hx hy hx hy)
  have q3 := hand_self hr
  generalize handL (vdot x y u v) = h at *
  generalize handL 0 = q at *
  generalize handL (vdot x y x y) = s at *
  obtain ⟨q11, q12⟩ := q1
  obtain ⟨q21, q22⟩ := q2
  clear hr hs hx hy hu hv
  go_enter Try.func8, Try.ntmps8
  go_upto_region 1 with fail
  generalize (w.alloc (.cells #[.int .i64 x, .int .i64 y] 25)).alloc (.cells #[.int .i64 u, .int .i64 v] 25) = w1 at *
  have z00 := HP1.out.c0; have z01 := HP1.out.c1; have z10 := HQ1.out.c0; have z11 := HQ1.out.c1
  go_wp2_with fail
  refine (WK.out _).mono ?_
  rintro e w2 ⟨rfl, b2⟩
  have HB2 := Lib.hid (HB1.out.trans (b2.mono HB1.out.size)); have HP2 := Lib.hid (HP1.out.next b2); have HQ2 := Lib.hid (HQ1.out.next b2)
  clear b2 z00 z01 z10 z11
  have z00 := HP2.out.c0; have z01 := HP2.out.c1; have z10 := HQ2.out.c0; have z11 := HQ2.out.c1
  go_wp2_with fail
  refine (RA.out _).mono ?_
  rintro e w3 ⟨rfl, b3⟩
  have HB3 := Lib.hid (HB2.out.trans (b3.mono HB2.out.size)); have HP3 := Lib.hid (HP2.out.next b3); have HQ3 := Lib.hid (HQ2.out.next b3)
  clear b3 z00 z01 z10 z11
  have z00 := HP3.out.c0; have z01 := HP3.out.c1; have z10 := HQ3.out.c0; have z11 := HQ3.out.c1
  go_wp2_with fail
  refine (RB.out _).mono ?_
  rintro e w4 ⟨rfl, b4⟩
  have HB4 := Lib.hid (HB3.out.trans (b4.mono HB3.out.size)); have HP4 := Lib.hid (HP3.out.next b4); have HQ4 := Lib.hid (HQ3.out.next b4)
  clear b4 z00 z01 z10 z11
  have z00 := HP4.out.c0; have z01 := HP4.out.c1; have z10 := HQ4.out.c0; have z11 := HQ4.out.c1
  go_upto_region 5 with fail
  go_region_held3 (fun w' => w'.cell? ⟨w.heap.size, 0, none⟩ = some (.int .i64 (x)) ∧ w'.cell? ⟨w.heap.size, 1, none⟩ = some (.int .i64 (y)) ∧ w'.cell? ⟨w.heap.size + 1, 0, none⟩ = some (.int .i64 (u)) ∧ w'.cell? ⟨w.heap.size + 1, 1, none⟩ = some (.int .i64 (v))) (first | (refine ⟨?_, ?_, ?_, ?_⟩ <;> with_reducible assumption) | (simp [go_sem, *]; done))
    (first
      | (go_at_call 24; (with_reducible refine (T1.out _).mono ?_); rintro e w5 ⟨rfl, b5⟩; have HB4d := Lib.hid HB4.out.drew; have HP4d : Hid (PBox (w.heap.size) (x) (y) w4.drew) := Lib.hid HP4.out; have HQ4d : Hid (PBox (w.heap.size + 1) (u) (v) w4.drew) := Lib.hid HQ4.out; have HB5 := Lib.hid (HB4d.out.trans (b5.mono HB4d.out.size)); have HP5 := Lib.hid (HP4d.out.next b5); have HQ5 := Lib.hid (HQ4d.out.next b5); have y5_00 : w5.cell? ⟨w.heap.size, 0, none⟩ = some (.int .i64 (x)) := HP5.out.c0; have y5_01 : w5.cell? ⟨w.heap.size, 1, none⟩ = some (.int .i64 (y)) := HP5.out.c1; have y5_10 : w5.cell? ⟨w.heap.size + 1, 0, none⟩ = some (.int .i64 (u)) := HQ5.out.c0; have y5_11 : w5.cell? ⟨w.heap.size + 1, 1, none⟩ = some (.int .i64 (v)) := HQ5.out.c1; clear b5)
      | (go_at_call 32; (with_reducible refine (LQ.out _).mono ?_); rintro e w6 ⟨rfl, b6⟩; have HB6 := Lib.hid (HB5.out.trans (b6.mono HB5.out.size)); have HP6 := Lib.hid (HP5.out.next b6); have HQ6 := Lib.hid (HQ5.out.next b6); have y6_00 : w6.cell? ⟨w.heap.size, 0, none⟩ = some (.int .i64 (x)) := HP6.out.c0; have y6_01 : w6.cell? ⟨w.heap.size, 1, none⟩ = some (.int .i64 (y)) := HP6.out.c1; have y6_10 : w6.cell? ⟨w.heap.size + 1, 0, none⟩ = some (.int .i64 (u)) := HQ6.out.c0; have y6_11 : w6.cell? ⟨w.heap.size + 1, 1, none⟩ = some (.int .i64 (v)) := HQ6.out.c1; clear b6)
      | (go_at_call 32; (with_reducible refine (LV.out _).mono ?_); rintro e w7 ⟨rfl, b7⟩; have HB7 := Lib.hid (HB6.out.trans (b7.mono HB6.out.size)); have HP7 := Lib.hid (HP6.out.next b7); have HQ7 := Lib.hid (HQ6.out.next b7); have y7_00 : w7.cell? ⟨w.heap.size, 0, none⟩ = some (.int .i64 (x)) := HP7.out.c0; have y7_01 : w7.cell? ⟨w.heap.size, 1, none⟩ = some (.int .i64 (y)) := HP7.out.c1; have y7_10 : w7.cell? ⟨w.heap.size + 1, 0, none⟩ = some (.int .i64 (u)) := HQ7.out.c0; have y7_11 : w7.cell? ⟨w.heap.size + 1, 1, none⟩ = some (.int .i64 (v)) := HQ7.out.c1; clear b7))
  go_upto_region 6 with fail
  go_wp2_with fail
  refine (LS.out _).mono ?_
  rintro e w8 ⟨rfl, b8⟩
  have HB8 := Lib.hid (HB7.out.trans (b8.mono HB7.out.size)); have HP8 := Lib.hid (HP7.out.next b8); have HQ8 := Lib.hid (HQ7.out.next b8)
  clear b8 z00 z01 z10 z11
  have z00 := HP8.out.c0; have z01 := HP8.out.c1; have z10 := HQ8.out.c0; have z11 := HQ8.out.c1
  go_wp2_with fail
  refine (LW.out _).mono ?_
  rintro e w9 ⟨rfl, b9⟩
  have HB9 := Lib.hid (HB8.out.trans (b9.mono HB8.out.size)); have HP9 := Lib.hid (HP8.out.next b9); have HQ9 := Lib.hid (HQ8.out.next b9)
  clear b9 z00 z01 z10 z11
  have z00 := HP9.out.c0; have z01 := HP9.out.c1; have z10 := HQ9.out.c0; have z11 := HQ9.out.c1
  go_wp2_with fail
  go_ret
  exact ⟨rfl, HB9.out⟩
set_option maxRecDepth 100000 in
theorem lifted (os : Os) (started : os.Started) (H : Type) (enc : TypeId × Value → H) :
    ReturnsInHanded {} Try.checked os 8 .any (Rows.vecHandlesSpec.pre6 enc Try.prog Try.f8 Rows.vecHandlesRow.domain false) (Rows.vecHandlesSpec.post enc Try.prog Try.f8 false true false false) := by
  refine returnsInHanded_of_change (C := Try.checked) own started (by kernel_rfl) Try.func8
    (ChangeSpec.witness6 (enc := enc) (C := Try.checked) false ⟨#[], #[.agg #[.int .i64 0, .int .i64 0], .agg #[.int .i64 0, .int .i64 0]], []⟩ 8 (by kernel_rfl) (by kernel_rfl) (by kernel_rfl) (by kernel_rfl)) ?_
  intro W base args ds gs before hval0 hW hcnd _
  have hval : ∀ (j : Nat) t v, Try.f8.params[j]? = some t → args[j]? = some v → Value.okWide Try.prog W .any base t v := hval0
  have hW' := hW
  obtain ⟨p, q, hA0, hV, rfl, hfz, hnd⟩ := hW
  have hA : DataW.TrodAll enc Try.prog W 0 (fun _ => true) true Try.f8.params.toList args.toList ds p := hA0
  rw [Try.params8] at hA hval
  obtain ⟨v0, v1, d0, d1, p0, p1, rfl, rfl, rfl, h0, h1⟩ := trodAll_two hA
  obtain ⟨rfl, rfl⟩ := trodVars_none hV
  obtain ⟨x0, y0, rfl, wx0, wy0⟩ := pt_of_trod Try.underlying25 (by kernel_rfl) (by kernel_rfl) Try.underlying2 Try.underlying2 (hval 0 25 v0 rfl rfl) h0
  obtain ⟨x1, y1, rfl, wx1, wy1⟩ := pt_of_trod Try.underlying25 (by kernel_rfl) (by kernel_rfl) Try.underlying2 Try.underlying2 (hval 1 25 v1 rfl rfl) h1
  clear hA0 hval0
  simp only [List.append_nil] at hW'
  have lt0 : ∀ x ∈ p0, x.block < W.heap.size := fun x hx => hW'.lt x (by simp [hx])
  have lt1 : ∀ x ∈ p1, x.block < W.heap.size := fun x hx => hW'.lt x (by simp [hx])
  refine (walk x0 y0 wx0 wy0 x1 y1 wx1 wy1 W).mono fun e W' ⟨he, hg⟩ => ?_
  subst he
  have b0' := Below.trod laidOut (by kernel_rfl) (of_decide_eq_true (by kernel_rfl)) h0 hg lt0
  have b1' := Below.trod laidOut (by kernel_rfl) (of_decide_eq_true (by kernel_rfl)) h1 hg lt1
  exact ⟨_, rfl, ⟨_, _, _, [], _, [], hW', trodAll_mk1 (shut_bool Try.underlying4 _), trodAll_mk2 b0' b1', rfl, hg.frame _, fun h => by cases h⟩⟩

/-- The given statement. -/
theorem proved : Rows.VecHandlesSaid :=
  OpenClaim.holds_of_wide 8 Try.f8 rfl rfl rfl rfl rfl rfl rfl ⟨rfl, rfl, rfl, rfl, rfl⟩ rfl rfl rfl rfl rfl (by kernel_rfl) Try.func8 (by kernel_rfl)
    (of_decide_eq_true (by kernel_rfl)) (by unfold Func.isWrapper; first | (rw [if_pos (by decide +kernel)]; kernel_rfl) | (rw [if_neg (by decide +kernel)]; exact ⟨rfl, rfl⟩))
    (fun os started H enc _ => lifted os started H enc)
end Go.Proofs.Ythnjdncnmdmjaaa.vecHandles
