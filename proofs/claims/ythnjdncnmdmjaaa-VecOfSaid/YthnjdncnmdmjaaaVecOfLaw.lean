/-
  PROVED: the statement of VecOf, for every input.
-/
import Derived.Test.YthnjdncnmdmjaaaRows
import Derived.Test.YthnjdncnmdmjaaaVecFn
import Derived.Test.YthnjdncnmdmjaaaVecRefOf
import Derived.Deep.DeepCutAuto
namespace Go.Proofs.Ythnjdncnmdmjaaa.vecOf
open Go.ChangeShapes Go.WideShapes Go.ChangeAt Go.RowKit Go.Shelf

theorem of_yes {x y : Int} (h : ¬ (x = 0 ∧ y = 0) ∧ In62 x ∧ In62 y) : ∃ P Q, ofS x y = ((P, Q), true) ∧ 1152921500311879684 ≤ P * P + Q * Q ∧ P * P + Q * Q ≤ 1152921508901814276 ∧ (-1073741824 ≤ P ∧ P ≤ 1073741824) ∧ -1073741824 ≤ Q ∧ Q ≤ 1073741824 := by
  have k := of_near h.1 h.2.1 h.2.2
  have e : (ofS x y).2 = true := by rw [ofS_yes h]
  generalize ofS x y = r at *
  obtain ⟨⟨P, Q⟩, b⟩ := r
  exact ⟨P, Q, by rw [show b = true from e], k⟩
set_option maxHeartbeats 4000000 in
set_option maxRecDepth 100000 in
theorem walk (x y : Int) (wx : (Lit.int .i64 x).wf = true) (wy : (Lit.int .i64 y).wf = true) (w : World) :
    Calls Try.prog 5 #[.int .i64 x, .int .i64 y] w fun e w' => e = .returned (.bool true) ∧ Below w.heap.size w w' := by
  have hx := i64_wf wx
  have hy := i64_wf wy
  have HB1 := Lib.hid (Below.refl w.heap.size w)
  have WK := Lib.hid (fun w => wakes9 w)
  have VO := Lib.hid (fun w => vof_any x y w hx hy)
  have RO := Lib.hid (fun w => rof9 x y w)
  have VR := Lib.hid (fun w => vright_any x y w hx hy)
  have RR := Lib.hid (fun w => rright9 x y w)
  by_cases hc : ¬ (x = 0 ∧ y = 0) ∧ In62 x ∧ In62 y
  case neg =>
    rw [ofS_no hc] at VO RO
    clear hc hx hy wx wy
    unfold DOk at VO RO
    dsimp only at VO RO
    generalize decide (rightD x y) = R at *
    go_enter Try.func5, Try.ntmps5
    go_wp2_with fail
    refine (WK.out _).mono ?_
    rintro e w2 ⟨rfl, b2⟩
    have HB2 := Lib.hid b2
    clear b2 HB1
    go_wp2_with fail
    refine (VO.out _).mono ?_
    rintro e w3 ⟨rfl, b3⟩
    have HB3 := Lib.hid (HB2.out.trans (b3.mono HB2.out.size))
    clear b3
    have al := (Below.refl w3.heap.size w3).alloc (Nat.le_refl _) (.cells #[.int .i64 0, .int .i64 0] 25)
    have HP4 := Lib.hid (PBox.new w3 0 0)
    have HB4 := Lib.hid (HB3.out.trans (al.mono HB3.out.size))
    clear al 
    go_upto_region 4 with fail
    generalize w3.alloc (.cells #[.int .i64 0, .int .i64 0] 25) = w4 at *
    generalize w3.heap.size = n1 at *
    have z00 := HP4.out.c0; have z01 := HP4.out.c1
    go_wp2_with fail
    refine (RO.out _).mono ?_
    rintro e w5 ⟨rfl, b5⟩
    have HB5 := Lib.hid (HB4.out.trans (b5.mono HB4.out.size)); have HP5 := Lib.hid (HP4.out.next b5)
    clear b5 z00 z01
    have z00 := HP5.out.c0; have z01 := HP5.out.c1
    have al := (Below.refl w5.heap.size w5).alloc (Nat.le_refl _) (.cells #[.int .i64 0, .int .i64 0] 25)
    have HQ6 := Lib.hid (PBox.new w5 0 0)
    have HB6 := Lib.hid (HB5.out.trans (al.mono HB5.out.size)); have HP6 := Lib.hid (HP5.out.next al)
    clear al z00 z01
    go_upto_region 5 with fail
    generalize w5.alloc (.cells #[.int .i64 0, .int .i64 0] 25) = w6 at *
    generalize w5.heap.size = n2 at *
    have z00 := HP6.out.c0; have z01 := HP6.out.c1; have z10 := HQ6.out.c0; have z11 := HQ6.out.c1
    have al := (Below.refl w6.heap.size w6).alloc (Nat.le_refl _) (.cells #[.int .i64 x, .int .i64 y] 25)
    have HX7 := Lib.hid (PBox.new w6 x y)
    have HB7 := Lib.hid (HB6.out.trans (al.mono HB6.out.size)); have HP7 := Lib.hid (HP6.out.next al); have HQ7 := Lib.hid (HQ6.out.next al)
    clear al z00 z01 z10 z11
    go_upto_region 6 with fail
    generalize w6.alloc (.cells #[.int .i64 x, .int .i64 y] 25) = w7 at *
    generalize w6.heap.size = n3 at *
    have z00 := HP7.out.c0; have z01 := HP7.out.c1; have z10 := HQ7.out.c0; have z11 := HQ7.out.c1; have z20 := HX7.out.c0; have z21 := HX7.out.c1
    go_region_held3 (fun w' => w'.cell? ⟨n1, 0, none⟩ = some (.int .i64 (0)) ∧ w'.cell? ⟨n1, 1, none⟩ = some (.int .i64 (0)) ∧ w'.cell? ⟨n2, 0, none⟩ = some (.int .i64 (0)) ∧ w'.cell? ⟨n2, 1, none⟩ = some (.int .i64 (0)) ∧ w'.cell? ⟨n3, 0, none⟩ = some (.int .i64 (x)) ∧ w'.cell? ⟨n3, 1, none⟩ = some (.int .i64 (y))) (first | (refine ⟨?_, ?_, ?_, ?_, ?_, ?_⟩ <;> with_reducible assumption) | (simp [go_sem, *]; done))
      (first
        | (go_at_call 22; (with_reducible refine (VR.out _).mono ?_); rintro e w8 ⟨rfl, b8⟩; have HB7d := Lib.hid HB7.out.drew; have HP7d : Hid (PBox (n1) (0) (0) w7.drew) := Lib.hid HP7.out; have HQ7d : Hid (PBox (n2) (0) (0) w7.drew) := Lib.hid HQ7.out; have HX7d : Hid (PBox (n3) (x) (y) w7.drew) := Lib.hid HX7.out; have HB8 := Lib.hid (HB7d.out.trans (b8.mono HB7d.out.size)); have HP8 := Lib.hid (HP7d.out.next b8); have HQ8 := Lib.hid (HQ7d.out.next b8); have HX8 := Lib.hid (HX7d.out.next b8); have y8_00 : w8.cell? ⟨n1, 0, none⟩ = some (.int .i64 (0)) := HP8.out.c0; have y8_01 : w8.cell? ⟨n1, 1, none⟩ = some (.int .i64 (0)) := HP8.out.c1; have y8_10 : w8.cell? ⟨n2, 0, none⟩ = some (.int .i64 (0)) := HQ8.out.c0; have y8_11 : w8.cell? ⟨n2, 1, none⟩ = some (.int .i64 (0)) := HQ8.out.c1; have y8_20 : w8.cell? ⟨n3, 0, none⟩ = some (.int .i64 (x)) := HX8.out.c0; have y8_21 : w8.cell? ⟨n3, 1, none⟩ = some (.int .i64 (y)) := HX8.out.c1; clear b8)
        | (go_at_call 23; (with_reducible refine (RR.out _).mono ?_); rintro e w9 ⟨rfl, b9⟩; have HB9 := Lib.hid (HB8.out.trans (b9.mono HB8.out.size)); have HP9 := Lib.hid (HP8.out.next b9); have HQ9 := Lib.hid (HQ8.out.next b9); have HX9 := Lib.hid (HX8.out.next b9); have y9_00 : w9.cell? ⟨n1, 0, none⟩ = some (.int .i64 (0)) := HP9.out.c0; have y9_01 : w9.cell? ⟨n1, 1, none⟩ = some (.int .i64 (0)) := HP9.out.c1; have y9_10 : w9.cell? ⟨n2, 0, none⟩ = some (.int .i64 (0)) := HQ9.out.c0; have y9_11 : w9.cell? ⟨n2, 1, none⟩ = some (.int .i64 (0)) := HQ9.out.c1; have y9_20 : w9.cell? ⟨n3, 0, none⟩ = some (.int .i64 (x)) := HX9.out.c0; have y9_21 : w9.cell? ⟨n3, 1, none⟩ = some (.int .i64 (y)) := HX9.out.c1; clear b9))
    go_wp2_with fail
    go_ret
    exact ⟨rfl, HB9.out⟩
  obtain ⟨P, Q, e, n1', n2', hP, hQ⟩ := of_yes hc
  rw [e] at VO RO
  have IP : I64 P := by unfold I64; omega
  have IQ : I64 Q := by unfold I64; omega
  have q1 := sq_in1 (x := P) (by omega)
  have q2 := sq_in1 (x := Q) (by omega)
  have VQ := Lib.hid (fun w => vright_any P Q w IP IQ)
  rw [decide_eq_true (show rightD P Q from ⟨by omega, by omega, by omega, by omega⟩)] at VQ
  clear e hc hx hy wx wy IP IQ hP hQ
  obtain ⟨q11, q12⟩ := q1
  obtain ⟨q21, q22⟩ := q2
  unfold DOk at VO RO
  dsimp only at VO RO
  generalize decide (rightD x y) = R at *
  go_enter Try.func5, Try.ntmps5
  go_wp2_with fail
  refine (WK.out _).mono ?_
  rintro e w2 ⟨rfl, b2⟩
  have HB2 := Lib.hid b2
  clear b2 HB1
  go_wp2_with fail
  refine (VO.out _).mono ?_
  rintro e w3 ⟨rfl, b3⟩
  have HB3 := Lib.hid (HB2.out.trans (b3.mono HB2.out.size))
  clear b3
  have al := (Below.refl w3.heap.size w3).alloc (Nat.le_refl _) (.cells #[.int .i64 P, .int .i64 Q] 25)
  have HP4 := Lib.hid (PBox.new w3 P Q)
  have HB4 := Lib.hid (HB3.out.trans (al.mono HB3.out.size))
  clear al 
  go_upto_region 4 with fail
  generalize w3.alloc (.cells #[.int .i64 P, .int .i64 Q] 25) = w4 at *
  generalize w3.heap.size = n1 at *
  have z00 := HP4.out.c0; have z01 := HP4.out.c1
  go_wp2_with fail
  refine (RO.out _).mono ?_
  rintro e w5 ⟨rfl, b5⟩
  have HB5 := Lib.hid (HB4.out.trans (b5.mono HB4.out.size)); have HP5 := Lib.hid (HP4.out.next b5)
  clear b5 z00 z01
  have z00 := HP5.out.c0; have z01 := HP5.out.c1
  have al := (Below.refl w5.heap.size w5).alloc (Nat.le_refl _) (.cells #[.int .i64 P, .int .i64 Q] 25)
  have HQ6 := Lib.hid (PBox.new w5 P Q)
  have HB6 := Lib.hid (HB5.out.trans (al.mono HB5.out.size)); have HP6 := Lib.hid (HP5.out.next al)
  clear al z00 z01
  go_upto_region 5 with fail
  generalize w5.alloc (.cells #[.int .i64 P, .int .i64 Q] 25) = w6 at *
  generalize w5.heap.size = n2 at *
  have z00 := HP6.out.c0; have z01 := HP6.out.c1; have z10 := HQ6.out.c0; have z11 := HQ6.out.c1
  have al := (Below.refl w6.heap.size w6).alloc (Nat.le_refl _) (.cells #[.int .i64 x, .int .i64 y] 25)
  have HX7 := Lib.hid (PBox.new w6 x y)
  have HB7 := Lib.hid (HB6.out.trans (al.mono HB6.out.size)); have HP7 := Lib.hid (HP6.out.next al); have HQ7 := Lib.hid (HQ6.out.next al)
  clear al z00 z01 z10 z11
  go_upto_region 6 with fail
  generalize w6.alloc (.cells #[.int .i64 x, .int .i64 y] 25) = w7 at *
  generalize w6.heap.size = n3 at *
  have z00 := HP7.out.c0; have z01 := HP7.out.c1; have z10 := HQ7.out.c0; have z11 := HQ7.out.c1; have z20 := HX7.out.c0; have z21 := HX7.out.c1
  go_region_held3 (fun w' => w'.cell? ⟨n1, 0, none⟩ = some (.int .i64 (P)) ∧ w'.cell? ⟨n1, 1, none⟩ = some (.int .i64 (Q)) ∧ w'.cell? ⟨n2, 0, none⟩ = some (.int .i64 (P)) ∧ w'.cell? ⟨n2, 1, none⟩ = some (.int .i64 (Q)) ∧ w'.cell? ⟨n3, 0, none⟩ = some (.int .i64 (x)) ∧ w'.cell? ⟨n3, 1, none⟩ = some (.int .i64 (y))) (first | (refine ⟨?_, ?_, ?_, ?_, ?_, ?_⟩ <;> with_reducible assumption) | (simp [go_sem, *]; done))
    (first
      | (go_at_call 22; (with_reducible refine (VR.out _).mono ?_); rintro e w8 ⟨rfl, b8⟩; have HB7d := Lib.hid HB7.out.drew; have HP7d : Hid (PBox (n1) (P) (Q) w7.drew) := Lib.hid HP7.out; have HQ7d : Hid (PBox (n2) (P) (Q) w7.drew) := Lib.hid HQ7.out; have HX7d : Hid (PBox (n3) (x) (y) w7.drew) := Lib.hid HX7.out; have HB8 := Lib.hid (HB7d.out.trans (b8.mono HB7d.out.size)); have HP8 := Lib.hid (HP7d.out.next b8); have HQ8 := Lib.hid (HQ7d.out.next b8); have HX8 := Lib.hid (HX7d.out.next b8); have y8_00 : w8.cell? ⟨n1, 0, none⟩ = some (.int .i64 (P)) := HP8.out.c0; have y8_01 : w8.cell? ⟨n1, 1, none⟩ = some (.int .i64 (Q)) := HP8.out.c1; have y8_10 : w8.cell? ⟨n2, 0, none⟩ = some (.int .i64 (P)) := HQ8.out.c0; have y8_11 : w8.cell? ⟨n2, 1, none⟩ = some (.int .i64 (Q)) := HQ8.out.c1; have y8_20 : w8.cell? ⟨n3, 0, none⟩ = some (.int .i64 (x)) := HX8.out.c0; have y8_21 : w8.cell? ⟨n3, 1, none⟩ = some (.int .i64 (y)) := HX8.out.c1; clear b8)
      | (go_at_call 23; (with_reducible refine (RR.out _).mono ?_); rintro e w9 ⟨rfl, b9⟩; have HB9 := Lib.hid (HB8.out.trans (b9.mono HB8.out.size)); have HP9 := Lib.hid (HP8.out.next b9); have HQ9 := Lib.hid (HQ8.out.next b9); have HX9 := Lib.hid (HX8.out.next b9); have y9_00 : w9.cell? ⟨n1, 0, none⟩ = some (.int .i64 (P)) := HP9.out.c0; have y9_01 : w9.cell? ⟨n1, 1, none⟩ = some (.int .i64 (Q)) := HP9.out.c1; have y9_10 : w9.cell? ⟨n2, 0, none⟩ = some (.int .i64 (P)) := HQ9.out.c0; have y9_11 : w9.cell? ⟨n2, 1, none⟩ = some (.int .i64 (Q)) := HQ9.out.c1; have y9_20 : w9.cell? ⟨n3, 0, none⟩ = some (.int .i64 (x)) := HX9.out.c0; have y9_21 : w9.cell? ⟨n3, 1, none⟩ = some (.int .i64 (y)) := HX9.out.c1; clear b9))
  go_upto_region 11 with fail
  go_wp2_with fail
  refine (VQ.out _).mono ?_
  rintro e w10 ⟨rfl, b10⟩
  have HB10 := Lib.hid (HB9.out.trans (b10.mono HB9.out.size)); have HP10 := Lib.hid (HP9.out.next b10); have HQ10 := Lib.hid (HQ9.out.next b10); have HX10 := Lib.hid (HX9.out.next b10)
  clear b10 z00 z01 z10 z11 z20 z21
  have z00 := HP10.out.c0; have z01 := HP10.out.c1; have z10 := HQ10.out.c0; have z11 := HQ10.out.c1; have z20 := HX10.out.c0; have z21 := HX10.out.c1
  go_wp2_with fail
  go_ret
  exact ⟨rfl, HB10.out⟩
set_option maxRecDepth 100000 in
theorem lifted (os : Os) (started : os.Started) (H : Type) (enc : TypeId × Value → H) :
    ReturnsInHanded {} Try.checked os 5 .any (Rows.vecOfSpec.pre6 enc Try.prog Try.f5 Rows.vecOfRow.domain false) (Rows.vecOfSpec.post enc Try.prog Try.f5 false true false false) := by
  refine returnsInHanded_of_change (C := Try.checked) own started (by kernel_rfl) Try.func5
    (ChangeSpec.witness6 (enc := enc) (C := Try.checked) false ⟨#[], #[.int .i64 0, .int .i64 0], []⟩ 8 (by kernel_rfl) (by kernel_rfl) (by kernel_rfl) (by kernel_rfl)) ?_
  intro W base args ds gs before hval0 hW hcnd _
  have hval : ∀ (j : Nat) t v, Try.f5.params[j]? = some t → args[j]? = some v → Value.okWide Try.prog W .any base t v := hval0
  have hW' := hW
  obtain ⟨p, q, hA0, hV, rfl, hfz, hnd⟩ := hW
  have hA : DataW.TrodAll enc Try.prog W 0 (fun _ => true) true Try.f5.params.toList args.toList ds p := hA0
  rw [Try.params5] at hA hval
  obtain ⟨v0, v1, d0, d1, p0, p1, rfl, rfl, rfl, h0, h1⟩ := trodAll_two hA
  obtain ⟨rfl, rfl⟩ := trodVars_none hV
  obtain ⟨a0, rfl, rfl, rfl, w0⟩ := open_int Try.underlying2 (hval 0 2 v0 rfl rfl) h0
  obtain ⟨a1, rfl, rfl, rfl, w1⟩ := open_int Try.underlying2 (hval 1 2 v1 rfl rfl) h1
  clear hA0 hval0
  simp only [List.append_nil] at hW'
  refine (walk a0 a1 w0 w1 W).mono fun e W' ⟨he, hg⟩ => ?_
  subst he
  exact ⟨_, rfl, ⟨_, _, _, [], _, [], hW', trodAll_mk1 (shut_bool Try.underlying4 _), trodAll_mk2 (shut_int Try.underlying2 w0) (shut_int Try.underlying2 w1), rfl, hg.frame _, fun h => by cases h⟩⟩

/-- The given statement. -/
theorem proved : Rows.VecOfSaid :=
  OpenClaim.holds_of_wide 5 Try.f5 rfl rfl rfl rfl rfl rfl rfl ⟨rfl, rfl, rfl, rfl, rfl⟩ rfl rfl rfl rfl rfl (by kernel_rfl) Try.func5 (by kernel_rfl)
    (of_decide_eq_true (by kernel_rfl)) (by unfold Func.isWrapper; first | (rw [if_pos (by decide +kernel)]; kernel_rfl) | (rw [if_neg (by decide +kernel)]; exact ⟨rfl, rfl⟩))
    (fun os started H enc _ => lifted os started H enc)
end Go.Proofs.Ythnjdncnmdmjaaa.vecOf
