/-
  PROVED: the statement of VecTurns, for every input.
-/
import Derived.Test.YthnjdncnmdmjaaaRows
import Derived.Test.YthnjdncnmdmjaaaVecFn
import Derived.Test.YthnjdncnmdmjaaaVecRefT
import Derived.Test.YthnjdncnmdmjaaaVecRef
import Derived.Test.YthnjdncnmdmjaaaAffTrod
import Derived.Deep.DeepCutAuto
namespace Go.Proofs.Ythnjdncnmdmjaaa.vecTurns
open Go.ChangeShapes Go.WideShapes Go.ChangeAt Go.RowKit Go.Shelf

theorem in1_62 {x : Int} (h : In1 x) : In62 x := by unfold In1 at h; unfold In62; omega
set_option maxHeartbeats 4000000 in
set_option maxRecDepth 100000 in
theorem walk (x y : Int) (_wx : I64 x) (_wy : I64 y) (n : Int) (_wn : (Lit.int .i64 n).wf = true) (w : World) :
    Calls Try.prog 6 #[.agg #[.int .i64 x, .int .i64 y], .int .i64 n] w fun e w' => e = .returned (.bool true) ∧ Below w.heap.size w w' := by
  have WK := Lib.hid (fun w => wakes9 w)
  have RR := Lib.hid (fun w => rright9 x y w)
  have al := (Below.refl w.heap.size w).alloc (Nat.le_refl _) (.cells #[.int .i64 x, .int .i64 y] 25)
  have HB1 := Lib.hid al
  have HP1 := Lib.hid (PBox.new w x y)
  clear al
  by_cases hr : rightD x y
  case neg =>
    rw [decide_eq_false hr] at RR
    clear hr
    go_enter Try.func6, Try.ntmps6
    go_upto_region 1 with fail
    generalize w.alloc (.cells #[.int .i64 x, .int .i64 y] 25) = w1 at *
    have z00 := HP1.out.c0; have z01 := HP1.out.c1
    go_wp2_with fail
    refine (WK.out _).mono ?_
    rintro e w2 ⟨rfl, b2⟩
    have HB2 := Lib.hid (HB1.out.trans (b2.mono HB1.out.size)); have HP2 := Lib.hid (HP1.out.next b2)
    clear b2 z00 z01
    have z00 := HP2.out.c0; have z01 := HP2.out.c1
    go_wp2_with fail
    refine (RR.out _).mono ?_
    rintro e w3 ⟨rfl, b3⟩
    have HB3 := Lib.hid (HB2.out.trans (b3.mono HB2.out.size)); have HP3 := Lib.hid (HP2.out.next b3)
    clear b3 z00 z01
    have z00 := HP3.out.c0; have z01 := HP3.out.c1
    go_wp2_with fail
    go_ret
    exact ⟨rfl, HB3.out⟩
  rw [decide_eq_true hr] at RR
  obtain ⟨hx, hy⟩ := right_in hr
  have T1 : Hid (∀ w : World, Calls Try.prog 24 #[.agg #[.int .i64 x, .int .i64 y], .int .i64 1] w fun e w' => e = .returned (.agg #[.int .i64 (-y), .int .i64 x]) ∧ Below w.heap.size w w') := Lib.hid (fun w => vturn_any x y 1 w (in1_62 hx) (in1_62 hy))
  have CR := Lib.hid (fun w => vcross_any x y (-y) x w hx hy (in1_neg hy) hx)
  have cb := cross_turned hr
  have DZ := Lib.hid (fun w => vdot_any x y (-y) x w hx hy (in1_neg hy) hx)
  rw [dot_turned] at DZ
  have TN := Lib.hid (fun w => vturn_any x y n w (in1_62 hx) (in1_62 hy))
  have RN := Lib.hid (fun w => rturn9 x y n w hx hy)
  have T2 : Hid (∀ w : World, Calls Try.prog 24 #[.agg #[.int .i64 (-y), .int .i64 x], .int .i64 2] w fun e w' => e = .returned (.agg #[.int .i64 y, .int .i64 (-x)]) ∧ Below w.heap.size w w') := Lib.hid (fun w => by
    have k := vturn_any (-y) x 2 w (in1_62 (in1_neg hy)) (in1_62 hx)
    rw [show PtV (turnP ((2 : Int) % 4).toNat (-y) x) = .agg #[.int .i64 (- -y), .int .i64 (-x)] from rfl, Int.neg_neg] at k
    exact k)
  have T3 : Hid (∀ w : World, Calls Try.prog 24 #[.agg #[.int .i64 y, .int .i64 (-x)], .int .i64 1] w fun e w' => e = .returned (.agg #[.int .i64 x, .int .i64 y]) ∧ Below w.heap.size w w') := Lib.hid (fun w => by
    have k := vturn_any y (-x) 1 w (in1_62 hy) (in1_62 (in1_neg hx))
    rw [show PtV (turnP ((1 : Int) % 4).toNat y (-x)) = .agg #[.int .i64 (- -x), .int .i64 y] from rfl, Int.neg_neg] at k
    exact k)
  generalize turnP (n % 4).toNat x y = p at *
  generalize vcross x y (-y) x = c at *
  obtain ⟨a, b⟩ := p
  unfold PtV at TN RN
  dsimp only at TN RN
  obtain ⟨cb1, cb2⟩ := cb
  clear hr hx hy
  go_enter Try.func6, Try.ntmps6
  go_upto_region 1 with fail
  generalize w.alloc (.cells #[.int .i64 x, .int .i64 y] 25) = w1 at *
  have z00 := HP1.out.c0; have z01 := HP1.out.c1
  go_wp2_with fail
  refine (WK.out _).mono ?_
  rintro e w2 ⟨rfl, b2⟩
  have HB2 := Lib.hid (HB1.out.trans (b2.mono HB1.out.size)); have HP2 := Lib.hid (HP1.out.next b2)
  clear b2 z00 z01
  have z00 := HP2.out.c0; have z01 := HP2.out.c1
  go_wp2_with fail
  refine (RR.out _).mono ?_
  rintro e w3 ⟨rfl, b3⟩
  have HB3 := Lib.hid (HB2.out.trans (b3.mono HB2.out.size)); have HP3 := Lib.hid (HP2.out.next b3)
  clear b3 z00 z01
  have z00 := HP3.out.c0; have z01 := HP3.out.c1
  go_wp2_with fail
  refine (T1.out _).mono ?_
  rintro e w4 ⟨rfl, b4⟩
  have HB4 := Lib.hid (HB3.out.trans (b4.mono HB3.out.size)); have HP4 := Lib.hid (HP3.out.next b4)
  clear b4 z00 z01
  have z00 := HP4.out.c0; have z01 := HP4.out.c1
  have al := (Below.refl w4.heap.size w4).alloc (Nat.le_refl _) (.cells #[.int .i64 (-y), .int .i64 x] 25)
  have HQ5 := Lib.hid (PBox.new w4 (-y) x)
  have HB5 := Lib.hid (HB4.out.trans (al.mono HB4.out.size)); have HP5 := Lib.hid (HP4.out.next al)
  clear al z00 z01
  go_upto_region 6 with fail
  generalize w4.alloc (.cells #[.int .i64 (-y), .int .i64 x] 25) = w5 at *
  generalize w4.heap.size = nq at *
  have z00 := HP5.out.c0; have z01 := HP5.out.c1; have z10 := HQ5.out.c0; have z11 := HQ5.out.c1
  go_wp2_with fail
  refine (CR.out _).mono ?_
  rintro e w6 ⟨rfl, b6⟩
  have HB6 := Lib.hid (HB5.out.trans (b6.mono HB5.out.size)); have HP6 := Lib.hid (HP5.out.next b6); have HQ6 := Lib.hid (HQ5.out.next b6)
  clear b6 z00 z01 z10 z11
  have z00 := HP6.out.c0; have z01 := HP6.out.c1; have z10 := HQ6.out.c0; have z11 := HQ6.out.c1
  go_upto_region 7 with fail
  go_region_held3 (fun w' => w'.cell? ⟨w.heap.size, 0, none⟩ = some (.int .i64 (x)) ∧ w'.cell? ⟨w.heap.size, 1, none⟩ = some (.int .i64 (y)) ∧ w'.cell? ⟨nq, 0, none⟩ = some (.int .i64 (-y)) ∧ w'.cell? ⟨nq, 1, none⟩ = some (.int .i64 (x))) (first | (refine ⟨?_, ?_, ?_, ?_⟩ <;> with_reducible assumption) | (simp [go_sem, *]; done))
    (first
      | (go_at_call 24; (with_reducible refine (TN.out _).mono ?_); rintro e w7 ⟨rfl, b7⟩; have HB6d := Lib.hid HB6.out.drew; have HP6d : Hid (PBox (w.heap.size) (x) (y) w6.drew) := Lib.hid HP6.out; have HQ6d : Hid (PBox (nq) (-y) (x) w6.drew) := Lib.hid HQ6.out; have HB7 := Lib.hid (HB6d.out.trans (b7.mono HB6d.out.size)); have HP7 := Lib.hid (HP6d.out.next b7); have HQ7 := Lib.hid (HQ6d.out.next b7); have y7_00 : w7.cell? ⟨w.heap.size, 0, none⟩ = some (.int .i64 (x)) := HP7.out.c0; have y7_01 : w7.cell? ⟨w.heap.size, 1, none⟩ = some (.int .i64 (y)) := HP7.out.c1; have y7_10 : w7.cell? ⟨nq, 0, none⟩ = some (.int .i64 (-y)) := HQ7.out.c0; have y7_11 : w7.cell? ⟨nq, 1, none⟩ = some (.int .i64 (x)) := HQ7.out.c1; clear b7)
      | (go_at_call 26; (with_reducible refine (RN.out _).mono ?_); rintro e w8 ⟨rfl, b8⟩; have HB8 := Lib.hid (HB7.out.trans (b8.mono HB7.out.size)); have HP8 := Lib.hid (HP7.out.next b8); have HQ8 := Lib.hid (HQ7.out.next b8); have y8_00 : w8.cell? ⟨w.heap.size, 0, none⟩ = some (.int .i64 (x)) := HP8.out.c0; have y8_01 : w8.cell? ⟨w.heap.size, 1, none⟩ = some (.int .i64 (y)) := HP8.out.c1; have y8_10 : w8.cell? ⟨nq, 0, none⟩ = some (.int .i64 (-y)) := HQ8.out.c0; have y8_11 : w8.cell? ⟨nq, 1, none⟩ = some (.int .i64 (x)) := HQ8.out.c1; clear b8)
      | (go_at_call 24; (with_reducible refine (T2.out _).mono ?_); rintro e w9 ⟨rfl, b9⟩; have HB9 := Lib.hid (HB8.out.trans (b9.mono HB8.out.size)); have HP9 := Lib.hid (HP8.out.next b9); have HQ9 := Lib.hid (HQ8.out.next b9); have y9_00 : w9.cell? ⟨w.heap.size, 0, none⟩ = some (.int .i64 (x)) := HP9.out.c0; have y9_01 : w9.cell? ⟨w.heap.size, 1, none⟩ = some (.int .i64 (y)) := HP9.out.c1; have y9_10 : w9.cell? ⟨nq, 0, none⟩ = some (.int .i64 (-y)) := HQ9.out.c0; have y9_11 : w9.cell? ⟨nq, 1, none⟩ = some (.int .i64 (x)) := HQ9.out.c1; clear b9)
      | (go_at_call 24; (with_reducible refine (T3.out _).mono ?_); rintro e w10 ⟨rfl, b10⟩; have HB10 := Lib.hid (HB9.out.trans (b10.mono HB9.out.size)); have HP10 := Lib.hid (HP9.out.next b10); have HQ10 := Lib.hid (HQ9.out.next b10); have y10_00 : w10.cell? ⟨w.heap.size, 0, none⟩ = some (.int .i64 (x)) := HP10.out.c0; have y10_01 : w10.cell? ⟨w.heap.size, 1, none⟩ = some (.int .i64 (y)) := HP10.out.c1; have y10_10 : w10.cell? ⟨nq, 0, none⟩ = some (.int .i64 (-y)) := HQ10.out.c0; have y10_11 : w10.cell? ⟨nq, 1, none⟩ = some (.int .i64 (x)) := HQ10.out.c1; clear b10)
      | (go_at_call 27; (with_reducible refine (DZ.out _).mono ?_); rintro e w11 ⟨rfl, b11⟩; have HB11 := Lib.hid (HB10.out.trans (b11.mono HB10.out.size)); have HP11 := Lib.hid (HP10.out.next b11); have HQ11 := Lib.hid (HQ10.out.next b11); have y11_00 : w11.cell? ⟨w.heap.size, 0, none⟩ = some (.int .i64 (x)) := HP11.out.c0; have y11_01 : w11.cell? ⟨w.heap.size, 1, none⟩ = some (.int .i64 (y)) := HP11.out.c1; have y11_10 : w11.cell? ⟨nq, 0, none⟩ = some (.int .i64 (-y)) := HQ11.out.c0; have y11_11 : w11.cell? ⟨nq, 1, none⟩ = some (.int .i64 (x)) := HQ11.out.c1; clear b11))
  go_wp2_with fail
  go_ret
  exact ⟨rfl, HB11.out⟩
set_option maxRecDepth 100000 in
theorem lifted (os : Os) (started : os.Started) (H : Type) (enc : TypeId × Value → H) :
    ReturnsInHanded {} Try.checked os 6 .any (Rows.vecTurnsSpec.pre6 enc Try.prog Try.f6 Rows.vecTurnsRow.domain false) (Rows.vecTurnsSpec.post enc Try.prog Try.f6 false true false false) := by
  refine returnsInHanded_of_change (C := Try.checked) own started (by kernel_rfl) Try.func6
    (ChangeSpec.witness6 (enc := enc) (C := Try.checked) false ⟨#[], #[.agg #[.int .i64 0, .int .i64 0], .int .i64 0], []⟩ 8 (by kernel_rfl) (by kernel_rfl) (by kernel_rfl) (by kernel_rfl)) ?_
  intro W base args ds gs before hval0 hW hcnd _
  have hval : ∀ (j : Nat) t v, Try.f6.params[j]? = some t → args[j]? = some v → Value.okWide Try.prog W .any base t v := hval0
  have hW' := hW
  obtain ⟨p, q, hA0, hV, rfl, hfz, hnd⟩ := hW
  have hA : DataW.TrodAll enc Try.prog W 0 (fun _ => true) true Try.f6.params.toList args.toList ds p := hA0
  rw [Try.params6] at hA hval
  obtain ⟨v0, v1, d0, d1, p0, p1, rfl, rfl, rfl, h0, h1⟩ := trodAll_two hA
  obtain ⟨rfl, rfl⟩ := trodVars_none hV
  obtain ⟨x0, y0, rfl, wx0, wy0⟩ := pt_of_trod Try.underlying25 (by kernel_rfl) (by kernel_rfl) Try.underlying2 Try.underlying2 (hval 0 25 v0 rfl rfl) h0
  obtain ⟨a1, rfl, rfl, rfl, w1⟩ := open_int Try.underlying3 (hval 1 3 v1 rfl rfl) h1
  clear hA0 hval0
  simp only [List.append_nil] at hW'
  have lt0 : ∀ x ∈ p0, x.block < W.heap.size := fun x hx => hW'.lt x (by simp [hx])
  refine (walk x0 y0 wx0 wy0 a1 w1 W).mono fun e W' ⟨he, hg⟩ => ?_
  subst he
  have b0' := Below.trod laidOut (by kernel_rfl) (of_decide_eq_true (by kernel_rfl)) h0 hg lt0
  exact ⟨_, rfl, ⟨_, _, _, [], _, [], hW', trodAll_mk1 (shut_bool Try.underlying4 _), trodAll_mk2 b0' (shut_int Try.underlying3 w1), rfl, hg.frame _, fun h => by cases h⟩⟩

/-- The given statement. -/
theorem proved : Rows.VecTurnsSaid :=
  OpenClaim.holds_of_wide 6 Try.f6 rfl rfl rfl rfl rfl rfl rfl ⟨rfl, rfl, rfl, rfl, rfl⟩ rfl rfl rfl rfl rfl (by kernel_rfl) Try.func6 (by kernel_rfl)
    (of_decide_eq_true (by kernel_rfl)) (by unfold Func.isWrapper; first | (rw [if_pos (by decide +kernel)]; kernel_rfl) | (rw [if_neg (by decide +kernel)]; exact ⟨rfl, rfl⟩))
    (fun os started H enc _ => lifted os started H enc)
end Go.Proofs.Ythnjdncnmdmjaaa.vecTurns
