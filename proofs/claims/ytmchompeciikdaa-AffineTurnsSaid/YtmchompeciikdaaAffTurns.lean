/-
  PROVED: the statement of AffineTurns, for every input. (Typed by a program.)
-/
import Derived.Test.YtmchompeciikdaaRows
import Derived.Test.YtmchompeciikdaaAffWakes
import Derived.Test.YtmchompeciikdaaAffTrod
import Derived.Test.YtmchompeciikdaaAffThn
namespace Go.Proofs.Ytmchompeciikdaa.affineTurns
open Go.ChangeShapes Go.WideShapes Go.ChangeAt Go.RowKit Go.Shelf

theorem mi_turn : MI64 turnM := by unfold MI64 I64 turnM; decide
theorem mi_half : MI64 halfM := by unfold MI64 I64 halfM; decide
theorem apply_turn {x y : Int} (hx : In32 x) (hy : In32 y) : applyS turnM x y = ((-y, x), 0) := by
  unfold applyS
  rw [if_pos ⟨right_turn, hx, hy⟩, app_turn, if_pos ⟨in_neg hy, hx⟩]
theorem apply_half {x y : Int} (hx : In32 x) (hy : In32 y) : applyS halfM x y = ((-x, -y), 0) := by
  unfold applyS
  rw [if_pos ⟨right_half, hx, hy⟩, app_half, if_pos ⟨in_neg hx, in_neg hy⟩]
theorem then_turn : thenS turnM turnM = (halfM, 0) := by
  unfold thenS
  rw [if_pos ⟨right_turn, right_turn⟩, turn_turn, if_pos right_half]
theorem then_half : thenS halfM halfM = (sameM, 0) := by
  unfold thenS
  rw [if_pos ⟨right_half, right_half⟩, half_half, if_pos right_same]
set_option maxHeartbeats 8000000 in
set_option maxRecDepth 100000 in
theorem walk (x y : Int) (hx : I64 x) (hy : I64 y) (w : World) :
    Calls Try.prog 7 #[.agg #[.int .i64 x, .int .i64 y]] w fun e w' => e = .returned (.bool true) ∧ Below w.heap.size w w' := by
  have K := Lib.hid (fun w => wakes8 w)
  have IX := Lib.hid (fun w => rin8 x w)
  have IY := Lib.hid (fun w => rin8 y w)
  have hb := (Below.refl w.heap.size w).alloc (Nat.le_refl _) (.cells #[.int .i64 x, .int .i64 y] 25)
  have HP0 := Lib.hid (PBox.new w x y)
  have HB0 := Lib.hid hb
  clear hb
  have A1 := Lib.hid (fun (_ : In32 x ∧ In32 y) w => aapply8 turnM x y w mi_turn hx hy)
  have A2 := Lib.hid (fun (_ : In32 x ∧ In32 y) w => aapply8 halfM x y w mi_half hx hy)
  have T1 := Lib.hid (fun w => athen8 turnM turnM w mi_turn mi_turn)
  have T2 := Lib.hid (fun w => athen8 halfM halfM w mi_half mi_half)
  have SM := Lib.hid (fun w => asame8 w)
  rw [then_turn] at T1
  rw [then_half] at T2
  unfold ME at T1 T2
  unfold Mtx.val at T1 T2 SM
  simp only [turnM, halfM, sameM, Mtx.cells] at T1 T2 SM
  clear hx hy
  go_enter Try.func7, Try.ntmps7
  go_wp2_with fail
  generalize w.alloc (.cells #[.int .i64 x, .int .i64 y] 25) = w0 at *
  refine (K.out _).mono ?_
  rintro e w1 ⟨rfl, b1⟩
  have HB1 := Lib.hid (HB0.out.trans (b1.mono HB0.out.size))
  have HP1 := Lib.hid (HP0.out.next b1)
  clear b1
  have p_10 : w1.cell? ⟨w.heap.size, 0, none⟩ = some (.int .i64 x) := HP1.out.c0
  have p_11 : w1.cell? ⟨w.heap.size, 1, none⟩ = some (.int .i64 y) := HP1.out.c1
  go_wp2_with fail
  by_cases hx : In32 x
  case neg =>
    rw [decide_eq_false hx] at IX
    refine (IX.out _).mono ?_
    rintro e wm ⟨rfl, rfl⟩
    go_wp2_with fail
    go_ret
    exact ⟨rfl, HB1.out⟩
  have ix := IX.out
  rw [decide_eq_true hx] at ix
  have IX' := Lib.hid ix
  clear ix IX
  refine (IX'.out _).mono ?_
  rintro e wm ⟨rfl, rfl⟩
  go_wp2_with fail
  by_cases hy : In32 y
  case neg =>
    rw [decide_eq_false hy] at IY
    refine (IY.out _).mono ?_
    rintro e wm ⟨rfl, rfl⟩
    go_wp2_with fail
    go_ret
    exact ⟨rfl, HB1.out⟩
  have iy := IY.out
  rw [decide_eq_true hy] at iy
  have IY' := Lib.hid iy
  clear iy IY
  refine (IY'.out _).mono ?_
  rintro e wm ⟨rfl, rfl⟩
  have a1 := A1.out ⟨hx, hy⟩
  have a2 := A2.out ⟨hx, hy⟩
  rw [apply_turn hx hy] at a1
  rw [apply_half hx hy] at a2
  unfold PE at a1 a2
  unfold Mtx.val at a1 a2
  simp only [turnM, halfM, Mtx.cells] at a1 a2
  have B1 := Lib.hid a1
  have B2 := Lib.hid a2
  have e1 : IntKind.i64.wrap (-y) = -y := IntWalk.i64_in _ (by unfold In32 at hy; omega)
  have e2 : IntKind.i64.wrap (-x) = -x := IntWalk.i64_in _ (by unfold In32 at hx; omega)
  clear a1 a2 A1 A2 hx hy IX' IY'
  clear p_10 p_11 
  go_upto_region 6 with fail
  have al := (Below.refl w1.heap.size w1).alloc (Nat.le_refl _) (.cells #[.int .i64 0, .int .i64 65536, .int .i64 (-65536), .int .i64 0, .int .i64 0, .int .i64 0] 23)
  have hnew := MBox.new w1 ⟨0, 65536, -65536, 0, 0, 0⟩
  simp only [Mtx.cells] at hnew
  have HT2 := Lib.hid hnew
  have HB2 := Lib.hid (HB1.out.alloc HB1.out.size (.cells #[.int .i64 0, .int .i64 65536, .int .i64 (-65536), .int .i64 0, .int .i64 0, .int .i64 0] 23))
  have HP2 := Lib.hid (HP1.out.next al)
  clear al hnew
  generalize w1.alloc (.cells #[.int .i64 0, .int .i64 65536, .int .i64 (-65536), .int .i64 0, .int .i64 0, .int .i64 0] 23) = w2 at *
  generalize w1.heap.size = kt at *
  have t_20 : w2.cell? ⟨kt, 0, none⟩ = some (.int .i64 0) := HT2.out.c0
  have t_21 : w2.cell? ⟨kt, 1, none⟩ = some (.int .i64 65536) := HT2.out.c1
  have t_22 : w2.cell? ⟨kt, 2, none⟩ = some (.int .i64 (-65536)) := HT2.out.c2
  have t_23 : w2.cell? ⟨kt, 3, none⟩ = some (.int .i64 0) := HT2.out.c3
  have t_24 : w2.cell? ⟨kt, 4, none⟩ = some (.int .i64 0) := HT2.out.c4
  have t_25 : w2.cell? ⟨kt, 5, none⟩ = some (.int .i64 0) := HT2.out.c5
  have p_20 : w2.cell? ⟨w.heap.size, 0, none⟩ = some (.int .i64 x) := HP2.out.c0
  have p_21 : w2.cell? ⟨w.heap.size, 1, none⟩ = some (.int .i64 y) := HP2.out.c1
  go_wp2_with fail
  skip
  refine (B1.out _).mono ?_
  rintro e w3 ⟨rfl, b3⟩
  have HB3 := Lib.hid (HB2.out.trans (b3.mono HB2.out.size))
  have HP3 := Lib.hid (HP2.out.next b3)
  have HT3 := Lib.hid (HT2.out.next b3)
  clear b3
  clear t_20 t_21 t_22 t_23 t_24 t_25 p_20 p_21
  go_upto_region 7 with fail
  have al := (Below.refl w3.heap.size w3).alloc (Nat.le_refl _) (.cells #[.int .i64 (-y), .int .i64 x] 25)
  have hnew := PBox.new w3 (-y) x
  have HA4 := Lib.hid hnew
  have HB4 := Lib.hid (HB3.out.alloc HB3.out.size (.cells #[.int .i64 (-y), .int .i64 x] 25))
  have HP4 := Lib.hid (HP3.out.next al)
  have HT4 := Lib.hid (HT3.out.next al)
  clear al hnew
  generalize w3.alloc (.cells #[.int .i64 (-y), .int .i64 x] 25) = w4 at *
  generalize w3.heap.size = ka at *
  have t_40 : w4.cell? ⟨kt, 0, none⟩ = some (.int .i64 0) := HT4.out.c0
  have t_41 : w4.cell? ⟨kt, 1, none⟩ = some (.int .i64 65536) := HT4.out.c1
  have t_42 : w4.cell? ⟨kt, 2, none⟩ = some (.int .i64 (-65536)) := HT4.out.c2
  have t_43 : w4.cell? ⟨kt, 3, none⟩ = some (.int .i64 0) := HT4.out.c3
  have t_44 : w4.cell? ⟨kt, 4, none⟩ = some (.int .i64 0) := HT4.out.c4
  have t_45 : w4.cell? ⟨kt, 5, none⟩ = some (.int .i64 0) := HT4.out.c5
  go_wp2_with fail
  refine (T1.out _).mono ?_
  rintro e w5 ⟨rfl, b5⟩
  have HB5 := Lib.hid (HB4.out.trans (b5.mono HB4.out.size))
  have HP5 := Lib.hid (HP4.out.next b5)
  have HT5 := Lib.hid (HT4.out.next b5)
  have HA5 := Lib.hid (HA4.out.next b5)
  clear b5
  clear t_40 t_41 t_42 t_43 t_44 t_45
  go_upto_region 8 with fail
  have al := (Below.refl w5.heap.size w5).alloc (Nat.le_refl _) (.cells #[.int .i64 (-65536), .int .i64 0, .int .i64 0, .int .i64 (-65536), .int .i64 0, .int .i64 0] 23)
  have hnew := MBox.new w5 ⟨-65536, 0, 0, -65536, 0, 0⟩
  simp only [Mtx.cells] at hnew
  have HH6 := Lib.hid hnew
  have HB6 := Lib.hid (HB5.out.alloc HB5.out.size (.cells #[.int .i64 (-65536), .int .i64 0, .int .i64 0, .int .i64 (-65536), .int .i64 0, .int .i64 0] 23))
  have HP6 := Lib.hid (HP5.out.next al)
  have HT6 := Lib.hid (HT5.out.next al)
  have HA6 := Lib.hid (HA5.out.next al)
  clear al hnew
  generalize w5.alloc (.cells #[.int .i64 (-65536), .int .i64 0, .int .i64 0, .int .i64 (-65536), .int .i64 0, .int .i64 0] 23) = w6 at *
  generalize w5.heap.size = kh at *
  have h_60 : w6.cell? ⟨kh, 0, none⟩ = some (.int .i64 (-65536)) := HH6.out.c0
  have h_61 : w6.cell? ⟨kh, 1, none⟩ = some (.int .i64 0) := HH6.out.c1
  have h_62 : w6.cell? ⟨kh, 2, none⟩ = some (.int .i64 0) := HH6.out.c2
  have h_63 : w6.cell? ⟨kh, 3, none⟩ = some (.int .i64 (-65536)) := HH6.out.c3
  have h_64 : w6.cell? ⟨kh, 4, none⟩ = some (.int .i64 0) := HH6.out.c4
  have h_65 : w6.cell? ⟨kh, 5, none⟩ = some (.int .i64 0) := HH6.out.c5
  go_wp2_with fail
  refine (T2.out _).mono ?_
  rintro e w7 ⟨rfl, b7⟩
  have HB7 := Lib.hid (HB6.out.trans (b7.mono HB6.out.size))
  have HP7 := Lib.hid (HP6.out.next b7)
  have HT7 := Lib.hid (HT6.out.next b7)
  have HA7 := Lib.hid (HA6.out.next b7)
  have HH7 := Lib.hid (HH6.out.next b7)
  clear b7
  clear h_60 h_61 h_62 h_63 h_64 h_65
  go_upto_region 9 with fail
  have al := (Below.refl w7.heap.size w7).alloc (Nat.le_refl _) (.cells #[.int .i64 65536, .int .i64 0, .int .i64 0, .int .i64 65536, .int .i64 0, .int .i64 0] 23)
  have hnew := MBox.new w7 ⟨65536, 0, 0, 65536, 0, 0⟩
  simp only [Mtx.cells] at hnew
  have HS8 := Lib.hid hnew
  have HB8 := Lib.hid (HB7.out.alloc HB7.out.size (.cells #[.int .i64 65536, .int .i64 0, .int .i64 0, .int .i64 65536, .int .i64 0, .int .i64 0] 23))
  have HP8 := Lib.hid (HP7.out.next al)
  have HT8 := Lib.hid (HT7.out.next al)
  have HA8 := Lib.hid (HA7.out.next al)
  have HH8 := Lib.hid (HH7.out.next al)
  clear al hnew
  generalize w7.alloc (.cells #[.int .i64 65536, .int .i64 0, .int .i64 0, .int .i64 65536, .int .i64 0, .int .i64 0] 23) = w8 at *
  generalize w7.heap.size = ks at *
  have h_80 : w8.cell? ⟨kh, 0, none⟩ = some (.int .i64 (-65536)) := HH8.out.c0
  have h_81 : w8.cell? ⟨kh, 1, none⟩ = some (.int .i64 0) := HH8.out.c1
  have h_82 : w8.cell? ⟨kh, 2, none⟩ = some (.int .i64 0) := HH8.out.c2
  have h_83 : w8.cell? ⟨kh, 3, none⟩ = some (.int .i64 (-65536)) := HH8.out.c3
  have h_84 : w8.cell? ⟨kh, 4, none⟩ = some (.int .i64 0) := HH8.out.c4
  have h_85 : w8.cell? ⟨kh, 5, none⟩ = some (.int .i64 0) := HH8.out.c5
  have p_80 : w8.cell? ⟨w.heap.size, 0, none⟩ = some (.int .i64 x) := HP8.out.c0
  have p_81 : w8.cell? ⟨w.heap.size, 1, none⟩ = some (.int .i64 y) := HP8.out.c1
  go_wp2_with fail
  refine (B2.out _).mono ?_
  rintro e w9 ⟨rfl, b9⟩
  have HB9 := Lib.hid (HB8.out.trans (b9.mono HB8.out.size))
  have HP9 := Lib.hid (HP8.out.next b9)
  have HT9 := Lib.hid (HT8.out.next b9)
  have HA9 := Lib.hid (HA8.out.next b9)
  have HH9 := Lib.hid (HH8.out.next b9)
  have HS9 := Lib.hid (HS8.out.next b9)
  clear b9
  clear h_80 h_81 h_82 h_83 h_84 h_85 p_80 p_81
  go_upto_region 10 with fail
  have al := (Below.refl w9.heap.size w9).alloc (Nat.le_refl _) (.cells #[.int .i64 (-x), .int .i64 (-y)] 25)
  have hnew := PBox.new w9 (-x) (-y)
  have HRA := Lib.hid hnew
  have HBA := Lib.hid (HB9.out.alloc HB9.out.size (.cells #[.int .i64 (-x), .int .i64 (-y)] 25))
  have HPA := Lib.hid (HP9.out.next al)
  have HTA := Lib.hid (HT9.out.next al)
  have HAA := Lib.hid (HA9.out.next al)
  have HHA := Lib.hid (HH9.out.next al)
  have HSA := Lib.hid (HS9.out.next al)
  clear al hnew
  generalize w9.alloc (.cells #[.int .i64 (-x), .int .i64 (-y)] 25) = wA at *
  generalize w9.heap.size = kr at *
  have p_A0 : wA.cell? ⟨w.heap.size, 0, none⟩ = some (.int .i64 x) := HPA.out.c0
  have p_A1 : wA.cell? ⟨w.heap.size, 1, none⟩ = some (.int .i64 y) := HPA.out.c1
  have a_A0 : wA.cell? ⟨ka, 0, none⟩ = some (.int .i64 (-y)) := HAA.out.c0
  have a_A1 : wA.cell? ⟨ka, 1, none⟩ = some (.int .i64 x) := HAA.out.c1
  have r_A0 : wA.cell? ⟨kr, 0, none⟩ = some (.int .i64 (-x)) := HRA.out.c0
  have r_A1 : wA.cell? ⟨kr, 1, none⟩ = some (.int .i64 (-y)) := HRA.out.c1
  have s_A0 : wA.cell? ⟨ks, 0, none⟩ = some (.int .i64 65536) := HSA.out.c0
  have s_A1 : wA.cell? ⟨ks, 1, none⟩ = some (.int .i64 0) := HSA.out.c1
  have s_A2 : wA.cell? ⟨ks, 2, none⟩ = some (.int .i64 0) := HSA.out.c2
  have s_A3 : wA.cell? ⟨ks, 3, none⟩ = some (.int .i64 65536) := HSA.out.c3
  have s_A4 : wA.cell? ⟨ks, 4, none⟩ = some (.int .i64 0) := HSA.out.c4
  have s_A5 : wA.cell? ⟨ks, 5, none⟩ = some (.int .i64 0) := HSA.out.c5
  go_region_held3 (fun w' => w'.cell? ⟨w.heap.size, 0, none⟩ = some (.int .i64 x) ∧ w'.cell? ⟨w.heap.size, 1, none⟩ = some (.int .i64 y) ∧ w'.cell? ⟨ka, 0, none⟩ = some (.int .i64 (-y)) ∧ w'.cell? ⟨ka, 1, none⟩ = some (.int .i64 x) ∧ w'.cell? ⟨kr, 0, none⟩ = some (.int .i64 (-x)) ∧ w'.cell? ⟨kr, 1, none⟩ = some (.int .i64 (-y)) ∧ w'.cell? ⟨ks, 0, none⟩ = some (.int .i64 65536) ∧ w'.cell? ⟨ks, 1, none⟩ = some (.int .i64 0) ∧ w'.cell? ⟨ks, 2, none⟩ = some (.int .i64 0) ∧ w'.cell? ⟨ks, 3, none⟩ = some (.int .i64 65536) ∧ w'.cell? ⟨ks, 4, none⟩ = some (.int .i64 0) ∧ w'.cell? ⟨ks, 5, none⟩ = some (.int .i64 0)) (first | (refine ⟨?_, ?_, ?_, ?_, ?_, ?_, ?_, ?_, ?_, ?_, ?_, ?_⟩ <;> with_reducible assumption) | (simp [go_sem, *]; done))
    (first | (go_at_call 11; (with_reducible refine (SM.out _).mono ?_); rintro e wB ⟨rfl, bB⟩; have HBd := Lib.hid HBA.out.drew; have HBB := Lib.hid (HBd.out.trans (bB.mono HBd.out.size)); have HPd : Hid (PBox w.heap.size x y wA.drew) := Lib.hid HPA.out; have HPB := Lib.hid (HPd.out.next bB); have HAd : Hid (PBox ka (-y) x wA.drew) := Lib.hid HAA.out; have HAB := Lib.hid (HAd.out.next bB); have HRd : Hid (PBox kr (-x) (-y) wA.drew) := Lib.hid HRA.out; have HRB := Lib.hid (HRd.out.next bB); have HSd : Hid (MBox ks ⟨65536, 0, 0, 65536, 0, 0⟩ wA.drew) := Lib.hid HSA.out; have HSB := Lib.hid (HSd.out.next bB); have yP0 : wB.cell? ⟨w.heap.size, 0, none⟩ = some (.int .i64 x) := HPB.out.c0; have yP1 : wB.cell? ⟨w.heap.size, 1, none⟩ = some (.int .i64 y) := HPB.out.c1; have yA0 : wB.cell? ⟨ka, 0, none⟩ = some (.int .i64 (-y)) := HAB.out.c0; have yA1 : wB.cell? ⟨ka, 1, none⟩ = some (.int .i64 x) := HAB.out.c1; have yR0 : wB.cell? ⟨kr, 0, none⟩ = some (.int .i64 (-x)) := HRB.out.c0; have yR1 : wB.cell? ⟨kr, 1, none⟩ = some (.int .i64 (-y)) := HRB.out.c1; have yS0 : wB.cell? ⟨ks, 0, none⟩ = some (.int .i64 65536) := HSB.out.c0; have yS1 : wB.cell? ⟨ks, 1, none⟩ = some (.int .i64 0) := HSB.out.c1; have yS2 : wB.cell? ⟨ks, 2, none⟩ = some (.int .i64 0) := HSB.out.c2; have yS3 : wB.cell? ⟨ks, 3, none⟩ = some (.int .i64 65536) := HSB.out.c3; have yS4 : wB.cell? ⟨ks, 4, none⟩ = some (.int .i64 0) := HSB.out.c4; have yS5 : wB.cell? ⟨ks, 5, none⟩ = some (.int .i64 0) := HSB.out.c5; clear bB))
  go_wp2_with fail
  go_ret
  exact ⟨rfl, HBB.out⟩
set_option maxRecDepth 100000 in
theorem lifted (os : Os) (started : os.Started) (H : Type) (enc : TypeId × Value → H) :
    ReturnsInHanded {} Try.checked os 7 .any (Rows.affineTurnsSpec.pre6 enc Try.prog Try.f7 Rows.affineTurnsRow.domain false) (Rows.affineTurnsSpec.post enc Try.prog Try.f7 false true false false) := by
  refine returnsInHanded_of_change (C := Try.checked) own started (by kernel_rfl) Try.func7
    (ChangeSpec.witness6 (enc := enc) (C := Try.checked) false ⟨#[], #[.agg #[.int .i64 0, .int .i64 0]], []⟩ 8 (by kernel_rfl) (by kernel_rfl) (by kernel_rfl) (by kernel_rfl)) ?_
  intro W base args ds gs before hval0 hW hcnd _
  have hval : ∀ (j : Nat) t v, Try.f7.params[j]? = some t → args[j]? = some v → Value.okWide Try.prog W .any base t v := hval0
  have hW' := hW
  obtain ⟨p, q, hA0, hV, rfl, hfz, hnd⟩ := hW
  have hA : DataW.TrodAll enc Try.prog W 0 (fun _ => true) true Try.f7.params.toList args.toList ds p := hA0
  rw [Try.params7] at hA hval
  obtain ⟨v0, d0, rfl, rfl, h0⟩ := trodAll_one hA
  obtain ⟨rfl, rfl⟩ := trodVars_none hV
  obtain ⟨x0, y0, rfl, wx0, wy0⟩ := pt_of_trod Try.underlying25 (by kernel_rfl) (by kernel_rfl) Try.underlying2 Try.underlying2 (hval 0 25 v0 rfl rfl) h0
  clear hA0 hval0
  simp only [List.append_nil] at hW'
  have lt0 : ∀ x ∈ p, x.block < W.heap.size := fun x hx => hW'.lt x (by simp [hx])
  refine (walk x0 y0 wx0 wy0 W).mono fun e W' ⟨he, hg⟩ => ?_
  subst he
  have b0' := Below.trod laidOut (by kernel_rfl) (of_decide_eq_true (by kernel_rfl)) h0 hg lt0
  exact ⟨_, rfl, ⟨_, _, _, [], _, [], hW', trodAll_mk1 (shut_bool Try.underlying4 _), trodAll_mk1 b0', rfl, hg.frame _, fun h => by cases h⟩⟩

/-- The given statement. -/
theorem proved : Rows.AffineTurnsSaid :=
  OpenClaim.holds_of_wide 7 Try.f7 rfl rfl rfl rfl rfl rfl rfl ⟨rfl, rfl, rfl, rfl, rfl⟩ rfl rfl rfl rfl rfl (by kernel_rfl) Try.func7 (by kernel_rfl)
    (of_decide_eq_true (by kernel_rfl)) (by unfold Func.isWrapper; first | (rw [if_pos (by decide +kernel)]; kernel_rfl) | (rw [if_neg (by decide +kernel)]; exact ⟨rfl, rfl⟩))
    (fun os started H enc _ => lifted os started H enc)
end Go.Proofs.Ytmchompeciikdaa.affineTurns
