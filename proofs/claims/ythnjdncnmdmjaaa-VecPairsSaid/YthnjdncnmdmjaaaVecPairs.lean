/-
  PROVED: the statement of VecPairs, for every input.
-/
import Derived.Test.YthnjdncnmdmjaaaRows
import Derived.Test.YthnjdncnmdmjaaaVecFn
import Derived.Test.YthnjdncnmdmjaaaVecRefP
import Derived.Test.YthnjdncnmdmjaaaAffTrod
import Derived.Deep.DeepCutAuto
namespace Go.Proofs.Ythnjdncnmdmjaaa.vecPairs
open Go.ChangeShapes Go.WideShapes Go.ChangeAt Go.RowKit Go.Shelf

set_option maxHeartbeats 4000000 in
set_option maxRecDepth 100000 in
theorem walk (x y : Int) (_wx : I64 x) (_wy : I64 y) (u v : Int) (_wu : I64 u) (_wv : I64 v) (w : World) :
    Calls Try.prog 7 #[.agg #[.int .i64 x, .int .i64 y], .agg #[.int .i64 u, .int .i64 v]] w fun e w' => e = .returned (.bool true) ∧ Below w.heap.size w w' := by
  have WK := Lib.hid (fun w => wakes9 w)
  have RA := Lib.hid (fun w => rright9 x y w)
  have RB := Lib.hid (fun w => rright9 u v w)
  obtain ⟨hp, hq, hb⟩ := boxes_ab w x y u v
  have HP1 := Lib.hid hp
  have HQ1 := Lib.hid hq
  have HB1 := Lib.hid hb
  clear hp hq hb
  by_cases hr : rightD x y
  case neg =>
    rw [decide_eq_false hr] at RA
    clear hr RB
    go_enter Try.func7, Try.ntmps7
    go_upto_region 1 with fail
    generalize (w.alloc (.cells #[.int .i64 x, .int .i64 y] 25)).alloc (.cells #[.int .i64 u, .int .i64 v] 25) = w1 at *
    have z00 := HP1.out.c0; have z01 := HP1.out.c1; have z10 := HQ1.out.c0; have z11 := HQ1.out.c1
    go_wp2_with fail
    refine (WK.out _).mono ?_
    rintro e w2 ⟨rfl, b2⟩
    have HB2 := Lib.hid (HB1.out.trans (b2.mono HB1.out.size)); have HP2 := Lib.hid (HP1.out.next b2); have HQ2 := Lib.hid (HQ1.out.next b2)
    clear b2 z00 z01 z10 z11
    have z00 := HP2.out.c0; have z01 := HP2.out.c1; have z10 := HQ2.out.c0; have z11 := HQ2.out.c1
    go_wp2_with fail
    refine (RA.out _).mono ?_
    rintro e w3 ⟨rfl, b3⟩
    have HB3 := Lib.hid (HB2.out.trans (b3.mono HB2.out.size)); have HP3 := Lib.hid (HP2.out.next b3); have HQ3 := Lib.hid (HQ2.out.next b3)
    clear b3 z00 z01 z10 z11
    have z00 := HP3.out.c0; have z01 := HP3.out.c1; have z10 := HQ3.out.c0; have z11 := HQ3.out.c1
    go_wp2_with fail
    go_ret
    exact ⟨rfl, HB3.out⟩
  rw [decide_eq_true hr] at RA
  by_cases hs : rightD u v
  case neg =>
    rw [decide_eq_false hs] at RB
    clear hr hs
    go_enter Try.func7, Try.ntmps7
    go_upto_region 1 with fail
    generalize (w.alloc (.cells #[.int .i64 x, .int .i64 y] 25)).alloc (.cells #[.int .i64 u, .int .i64 v] 25) = w1 at *
    have z00 := HP1.out.c0; have z01 := HP1.out.c1; have z10 := HQ1.out.c0; have z11 := HQ1.out.c1
    go_wp2_with fail
    refine (WK.out _).mono ?_
    rintro e w2 ⟨rfl, b2⟩
    have HB2 := Lib.hid (HB1.out.trans (b2.mono HB1.out.size)); have HP2 := Lib.hid (HP1.out.next b2); have HQ2 := Lib.hid (HQ1.out.next b2)
    clear b2 z00 z01 z10 z11
    have z00 := HP2.out.c0; have z01 := HP2.out.c1; have z10 := HQ2.out.c0; have z11 := HQ2.out.c1
    go_wp2_with fail
    refine (RA.out _).mono ?_
    rintro e w3 ⟨rfl, b3⟩
    have HB3 := Lib.hid (HB2.out.trans (b3.mono HB2.out.size)); have HP3 := Lib.hid (HP2.out.next b3); have HQ3 := Lib.hid (HQ2.out.next b3)
    clear b3 z00 z01 z10 z11
    have z00 := HP3.out.c0; have z01 := HP3.out.c1; have z10 := HQ3.out.c0; have z11 := HQ3.out.c1
    go_wp2_with fail
    refine (RB.out _).mono ?_
    rintro e w4 ⟨rfl, b4⟩
    have HB4 := Lib.hid (HB3.out.trans (b4.mono HB3.out.size)); have HP4 := Lib.hid (HP3.out.next b4); have HQ4 := Lib.hid (HQ3.out.next b4)
    clear b4 z00 z01 z10 z11
    have z00 := HP4.out.c0; have z01 := HP4.out.c1; have z10 := HQ4.out.c0; have z11 := HQ4.out.c1
    go_wp2_with fail
    go_ret
    exact ⟨rfl, HB4.out⟩
  rw [decide_eq_true hs] at RB
  obtain ⟨hx, hy⟩ := right_in hr
  obtain ⟨hu, hv⟩ := right_in hs
  have DV := Lib.hid (fun w => vdot_any x y u v w hx hy hu hv)
  have DR := Lib.hid (fun w => rdot9 x y u v w hx hy hu hv)
  have CV := Lib.hid (fun w => vcross_any x y u v w hx hy hu hv)
  have CR := Lib.hid (fun w => rcross9 x y u v w hx hy hu hv)
  have FV := Lib.hid (fun w => vhalf_any x y u v w hx hy hu hv)
  have FR := Lib.hid (fun w => rhalf9 x y u v w hx hy hu hv)
  have LV := Lib.hid (fun w => vhandle_any x y u v w hx hy hu hv)
  have LR := Lib.hid (fun w => rhandle9 x y u v w hx hy hu hv)
  generalize handL (vdot x y u v) = h at *
  generalize vcross x y u v = c at *
  generalize vdot x y u v = d at *
  unfold HalfV at FV FR
  generalize (halfR (1073741824 - capU d) : Int) = s at *
  generalize (halfR (1073741824 + capU d) : Int) = t at *
  clear hr hs hx hy hu hv
  go_enter Try.func7, Try.ntmps7
  go_upto_region 1 with fail
  generalize (w.alloc (.cells #[.int .i64 x, .int .i64 y] 25)).alloc (.cells #[.int .i64 u, .int .i64 v] 25) = w1 at *
  have z00 := HP1.out.c0; have z01 := HP1.out.c1; have z10 := HQ1.out.c0; have z11 := HQ1.out.c1
  go_wp2_with fail
  refine (WK.out _).mono ?_
  rintro e w2 ⟨rfl, b2⟩
  have HB2 := Lib.hid (HB1.out.trans (b2.mono HB1.out.size)); have HP2 := Lib.hid (HP1.out.next b2); have HQ2 := Lib.hid (HQ1.out.next b2)
  clear b2 z00 z01 z10 z11
  have z00 := HP2.out.c0; have z01 := HP2.out.c1; have z10 := HQ2.out.c0; have z11 := HQ2.out.c1
  go_wp2_with fail
  refine (RA.out _).mono ?_
  rintro e w3 ⟨rfl, b3⟩
  have HB3 := Lib.hid (HB2.out.trans (b3.mono HB2.out.size)); have HP3 := Lib.hid (HP2.out.next b3); have HQ3 := Lib.hid (HQ2.out.next b3)
  clear b3 z00 z01 z10 z11
  have z00 := HP3.out.c0; have z01 := HP3.out.c1; have z10 := HQ3.out.c0; have z11 := HQ3.out.c1
  go_wp2_with fail
  refine (RB.out _).mono ?_
  rintro e w4 ⟨rfl, b4⟩
  have HB4 := Lib.hid (HB3.out.trans (b4.mono HB3.out.size)); have HP4 := Lib.hid (HP3.out.next b4); have HQ4 := Lib.hid (HQ3.out.next b4)
  clear b4 z00 z01 z10 z11
  have z00 := HP4.out.c0; have z01 := HP4.out.c1; have z10 := HQ4.out.c0; have z11 := HQ4.out.c1
  go_wp2_with fail
  refine (FV.out _).mono ?_
  rintro e w5 ⟨rfl, b5⟩
  have HB5 := Lib.hid (HB4.out.trans (b5.mono HB4.out.size)); have HP5 := Lib.hid (HP4.out.next b5); have HQ5 := Lib.hid (HQ4.out.next b5)
  clear b5 z00 z01 z10 z11
  have z00 := HP5.out.c0; have z01 := HP5.out.c1; have z10 := HQ5.out.c0; have z11 := HQ5.out.c1
  go_wp2_with fail
  refine (FR.out _).mono ?_
  rintro e w6 ⟨rfl, b6⟩
  have HB6 := Lib.hid (HB5.out.trans (b6.mono HB5.out.size)); have HP6 := Lib.hid (HP5.out.next b6); have HQ6 := Lib.hid (HQ5.out.next b6)
  clear b6 z00 z01 z10 z11
  have z00 := HP6.out.c0; have z01 := HP6.out.c1; have z10 := HQ6.out.c0; have z11 := HQ6.out.c1
  go_upto_region 7 with fail
  go_region_held3 (fun w' => w'.cell? ⟨w.heap.size, 0, none⟩ = some (.int .i64 (x)) ∧ w'.cell? ⟨w.heap.size, 1, none⟩ = some (.int .i64 (y)) ∧ w'.cell? ⟨w.heap.size + 1, 0, none⟩ = some (.int .i64 (u)) ∧ w'.cell? ⟨w.heap.size + 1, 1, none⟩ = some (.int .i64 (v))) (first | (refine ⟨?_, ?_, ?_, ?_⟩ <;> with_reducible assumption) | (simp [go_sem, *]; done))
    (first
      | (go_at_call 27; (with_reducible refine (DV.out _).mono ?_); rintro e w7 ⟨rfl, b7⟩; have HB6d := Lib.hid HB6.out.drew; have HP6d : Hid (PBox (w.heap.size) (x) (y) w6.drew) := Lib.hid HP6.out; have HQ6d : Hid (PBox (w.heap.size + 1) (u) (v) w6.drew) := Lib.hid HQ6.out; have HB7 := Lib.hid (HB6d.out.trans (b7.mono HB6d.out.size)); have HP7 := Lib.hid (HP6d.out.next b7); have HQ7 := Lib.hid (HQ6d.out.next b7); have y7_00 : w7.cell? ⟨w.heap.size, 0, none⟩ = some (.int .i64 (x)) := HP7.out.c0; have y7_01 : w7.cell? ⟨w.heap.size, 1, none⟩ = some (.int .i64 (y)) := HP7.out.c1; have y7_10 : w7.cell? ⟨w.heap.size + 1, 0, none⟩ = some (.int .i64 (u)) := HQ7.out.c0; have y7_11 : w7.cell? ⟨w.heap.size + 1, 1, none⟩ = some (.int .i64 (v)) := HQ7.out.c1; clear b7)
      | (go_at_call 30; (with_reducible refine (DR.out _).mono ?_); rintro e w8 ⟨rfl, b8⟩; have HB8 := Lib.hid (HB7.out.trans (b8.mono HB7.out.size)); have HP8 := Lib.hid (HP7.out.next b8); have HQ8 := Lib.hid (HQ7.out.next b8); have y8_00 : w8.cell? ⟨w.heap.size, 0, none⟩ = some (.int .i64 (x)) := HP8.out.c0; have y8_01 : w8.cell? ⟨w.heap.size, 1, none⟩ = some (.int .i64 (y)) := HP8.out.c1; have y8_10 : w8.cell? ⟨w.heap.size + 1, 0, none⟩ = some (.int .i64 (u)) := HQ8.out.c0; have y8_11 : w8.cell? ⟨w.heap.size + 1, 1, none⟩ = some (.int .i64 (v)) := HQ8.out.c1; clear b8)
      | (go_at_call 25; (with_reducible refine (CV.out _).mono ?_); rintro e w9 ⟨rfl, b9⟩; have HB9 := Lib.hid (HB8.out.trans (b9.mono HB8.out.size)); have HP9 := Lib.hid (HP8.out.next b9); have HQ9 := Lib.hid (HQ8.out.next b9); have y9_00 : w9.cell? ⟨w.heap.size, 0, none⟩ = some (.int .i64 (x)) := HP9.out.c0; have y9_01 : w9.cell? ⟨w.heap.size, 1, none⟩ = some (.int .i64 (y)) := HP9.out.c1; have y9_10 : w9.cell? ⟨w.heap.size + 1, 0, none⟩ = some (.int .i64 (u)) := HQ9.out.c0; have y9_11 : w9.cell? ⟨w.heap.size + 1, 1, none⟩ = some (.int .i64 (v)) := HQ9.out.c1; clear b9)
      | (go_at_call 31; (with_reducible refine (CR.out _).mono ?_); rintro e w10 ⟨rfl, b10⟩; have HB10 := Lib.hid (HB9.out.trans (b10.mono HB9.out.size)); have HP10 := Lib.hid (HP9.out.next b10); have HQ10 := Lib.hid (HQ9.out.next b10); have y10_00 : w10.cell? ⟨w.heap.size, 0, none⟩ = some (.int .i64 (x)) := HP10.out.c0; have y10_01 : w10.cell? ⟨w.heap.size, 1, none⟩ = some (.int .i64 (y)) := HP10.out.c1; have y10_10 : w10.cell? ⟨w.heap.size + 1, 0, none⟩ = some (.int .i64 (u)) := HQ10.out.c0; have y10_11 : w10.cell? ⟨w.heap.size + 1, 1, none⟩ = some (.int .i64 (v)) := HQ10.out.c1; clear b10)
      | (go_at_call 32; (with_reducible refine (LV.out _).mono ?_); rintro e w11 ⟨rfl, b11⟩; have HB11 := Lib.hid (HB10.out.trans (b11.mono HB10.out.size)); have HP11 := Lib.hid (HP10.out.next b11); have HQ11 := Lib.hid (HQ10.out.next b11); have y11_00 : w11.cell? ⟨w.heap.size, 0, none⟩ = some (.int .i64 (x)) := HP11.out.c0; have y11_01 : w11.cell? ⟨w.heap.size, 1, none⟩ = some (.int .i64 (y)) := HP11.out.c1; have y11_10 : w11.cell? ⟨w.heap.size + 1, 0, none⟩ = some (.int .i64 (u)) := HQ11.out.c0; have y11_11 : w11.cell? ⟨w.heap.size + 1, 1, none⟩ = some (.int .i64 (v)) := HQ11.out.c1; clear b11)
      | (go_at_call 33; (with_reducible refine (LR.out _).mono ?_); rintro e w12 ⟨rfl, b12⟩; have HB12 := Lib.hid (HB11.out.trans (b12.mono HB11.out.size)); have HP12 := Lib.hid (HP11.out.next b12); have HQ12 := Lib.hid (HQ11.out.next b12); have y12_00 : w12.cell? ⟨w.heap.size, 0, none⟩ = some (.int .i64 (x)) := HP12.out.c0; have y12_01 : w12.cell? ⟨w.heap.size, 1, none⟩ = some (.int .i64 (y)) := HP12.out.c1; have y12_10 : w12.cell? ⟨w.heap.size + 1, 0, none⟩ = some (.int .i64 (u)) := HQ12.out.c0; have y12_11 : w12.cell? ⟨w.heap.size + 1, 1, none⟩ = some (.int .i64 (v)) := HQ12.out.c1; clear b12))
  go_wp2_with fail
  go_ret
  exact ⟨rfl, HB12.out⟩
set_option maxRecDepth 100000 in
theorem lifted (os : Os) (started : os.Started) (H : Type) (enc : TypeId × Value → H) :
    ReturnsInHanded {} Try.checked os 7 .any (Rows.vecPairsSpec.pre6 enc Try.prog Try.f7 Rows.vecPairsRow.domain false) (Rows.vecPairsSpec.post enc Try.prog Try.f7 false true false false) := by
  refine returnsInHanded_of_change (C := Try.checked) own started (by kernel_rfl) Try.func7
    (ChangeSpec.witness6 (enc := enc) (C := Try.checked) false ⟨#[], #[.agg #[.int .i64 0, .int .i64 0], .agg #[.int .i64 0, .int .i64 0]], []⟩ 8 (by kernel_rfl) (by kernel_rfl) (by kernel_rfl) (by kernel_rfl)) ?_
  intro W base args ds gs before hval0 hW hcnd _
  have hval : ∀ (j : Nat) t v, Try.f7.params[j]? = some t → args[j]? = some v → Value.okWide Try.prog W .any base t v := hval0
  have hW' := hW
  obtain ⟨p, q, hA0, hV, rfl, hfz, hnd⟩ := hW
  have hA : DataW.TrodAll enc Try.prog W 0 (fun _ => true) true Try.f7.params.toList args.toList ds p := hA0
  rw [Try.params7] at hA hval
  obtain ⟨v0, v1, d0, d1, p0, p1, rfl, rfl, rfl, h0, h1⟩ := trodAll_two hA
  obtain ⟨rfl, rfl⟩ := trodVars_none hV
  obtain ⟨x0, y0, rfl, wx0, wy0⟩ := pt_of_trod Try.underlying25 (by kernel_rfl) (by kernel_rfl) Try.underlying2 Try.underlying2 (hval 0 25 v0 rfl rfl) h0
  obtain ⟨x1, y1, rfl, wx1, wy1⟩ := pt_of_trod Try.underlying25 (by kernel_rfl) (by kernel_rfl) Try.underlying2 Try.underlying2 (hval 1 25 v1 rfl rfl) h1
  clear hA0 hval0
  simp only [List.append_nil] at hW'
  have lt0 : ∀ x ∈ p0, x.block < W.heap.size := fun x hx => hW'.lt x (by simp [hx])
  have lt1 : ∀ x ∈ p1, x.block < W.heap.size := fun x hx => hW'.lt x (by simp [hx])
  refine (walk x0 y0 wx0 wy0 x1 y1 wx1 wy1 W).mono fun e W' ⟨he, hg⟩ => ?_
  subst he
  have b0' := Below.trod laidOut (by kernel_rfl) (of_decide_eq_true (by kernel_rfl)) h0 hg lt0
  have b1' := Below.trod laidOut (by kernel_rfl) (of_decide_eq_true (by kernel_rfl)) h1 hg lt1
  exact ⟨_, rfl, ⟨_, _, _, [], _, [], hW', trodAll_mk1 (shut_bool Try.underlying4 _), trodAll_mk2 b0' b1', rfl, hg.frame _, fun h => by cases h⟩⟩

/-- The given statement. -/
theorem proved : Rows.VecPairsSaid :=
  OpenClaim.holds_of_wide 7 Try.f7 rfl rfl rfl rfl rfl rfl rfl ⟨rfl, rfl, rfl, rfl, rfl⟩ rfl rfl rfl rfl rfl (by kernel_rfl) Try.func7 (by kernel_rfl)
    (of_decide_eq_true (by kernel_rfl)) (by unfold Func.isWrapper; first | (rw [if_pos (by decide +kernel)]; kernel_rfl) | (rw [if_neg (by decide +kernel)]; exact ⟨rfl, rfl⟩))
    (fun os started H enc _ => lifted os started H enc)
end Go.Proofs.Ythnjdncnmdmjaaa.vecPairs
