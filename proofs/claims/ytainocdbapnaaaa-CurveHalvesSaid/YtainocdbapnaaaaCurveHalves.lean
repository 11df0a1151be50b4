/-
  PROVED: the statement of CurveHalves, for every input: the two that a right curve is cut into go on at one point, where the curve is in its middle; backwards it is cut alike. (Typed by a program: wip/gen_law11a.py.)
-/
import Derived.Test.YtainocdbapnaaaaRows
import Derived.Test.YtainocdbapnaaaaCrvWakes
import Derived.Test.YtainocdbapnaaaaCrvTrod
import Derived.Test.YtainocdbapnaaaaRefCrvF
import Derived.Test.YtainocdbapnaaaaCrvAt
namespace Go.Proofs.Ytainocdbapnaaaa.curveHalves
open Go.ChangeShapes Go.WideShapes Go.ChangeAt Go.RowKit Go.Shelf

set_option maxHeartbeats 2000000 in
set_option maxRecDepth 100000 in
theorem about11 (x y : Int) (w : World) : Calls Try.prog 21 #[.agg #[.int .i64 x, .int .i64 y], .agg #[.int .i64 x, .int .i64 y]] w fun e w' => e = .returned (.bool true) ∧ Below w.heap.size w w' := by
  obtain ⟨k1, k2, k3⟩ := boxes_two w #[.int .i64 x, .int .i64 y] #[.int .i64 x, .int .i64 y] 23 23
  have HP0 := Lib.hid k1; have HQ0 := Lib.hid k2; have HB0 := Lib.hid k3
  clear k1 k2 k3
  have e1 : wrap64 (x - x) = 0 := by unfold wrap64; omega
  have e2 : wrap64 (y - y) = 0 := by unfold wrap64; omega
  go_enter Try.func21, Try.ntmps21
  go_upto_region 1 with fail
  generalize ((w.alloc (.cells #[.int .i64 x, .int .i64 y] 23)).alloc (.cells #[.int .i64 x, .int .i64 y] 23)) = w1 at *
  have z0 : w1.cell? ⟨w.heap.size, 0, none⟩ = some (.int .i64 x) := HP0.out.c 0 rfl
  have z1 : w1.cell? ⟨w.heap.size, 1, none⟩ = some (.int .i64 y) := HP0.out.c 1 rfl
  have y0 : w1.cell? ⟨w.heap.size + 1, 0, none⟩ = some (.int .i64 x) := HQ0.out.c 0 rfl
  have y1 : w1.cell? ⟨w.heap.size + 1, 1, none⟩ = some (.int .i64 y) := HQ0.out.c 1 rfl
  go_wp2_with fail
  go_ret
  exact ⟨rfl, HB0.out⟩
set_option maxHeartbeats 16000000 in
set_option maxRecDepth 100000 in
theorem walk (c : Crv) (_h : (I64 c.px ∧ I64 c.py) ∧ (I64 c.qx ∧ I64 c.qy) ∧ (I64 c.rx ∧ I64 c.ry) ∧ (I64 c.sx ∧ I64 c.sy)) (w : World) :
    Calls Try.prog 6 #[c.val] w fun e w' => e = .returned (.bool true) ∧ Below w.heap.size w w' := by
  have K := Lib.hid (fun w => wakes11 w)
  have RR := Lib.hid (fun w => rright11 c w)
  by_cases hr : c.right
  · rw [decide_eq_true hr] at RR
    have CT := Lib.hid (fun w => ccut11 c w hr)
    have BT := Lib.hid (fun w => ccut11 c.back w (right_back hr))
    have BC := Lib.hid (fun w => cback11 c w)
    have BB := Lib.hid (fun w => cback11 c.cutB w)
    have CH := Lib.hid (fun w => cat11 c 32768 w hr)
    rw [show capT 32768 = 32768 from by decide, at_half] at CH
    rw [cut_back] at BT
    generalize c.back.cutB = b at *
    clear hr
    obtain ⟨px, py, qx, qy, rx, ry, sx, sy⟩ := c
    obtain ⟨f0, f1, f2, f3, f4, f5, f6, f7⟩ := b
    unfold Crv.cutA Crv.cutB Crv.back at *
    unfold Crv.val Crv.arr at *
    dsimp only at *
    generalize mid px qx = ax at *
    generalize mid py qy = ay at *
    generalize m3 px qx rx = dx at *
    generalize m3 py qy ry = dy at *
    generalize m4 px qx rx sx = fx at *
    generalize m4 py qy ry sy = fy at *
    generalize m3 qx rx sx = ex at *
    generalize m3 qy ry sy = ey at *
    generalize mid rx sx = xx at *
    generalize mid ry sy = xy at *
    have AB1 := Lib.hid (fun w => about11 fx fy w)
    have AB2 := Lib.hid (fun w => about11 xx xy w)
    have AB3 := Lib.hid (fun w => about11 ex ey w)
    have k1 := CBox.new w 25 #[.int .i64 px, .int .i64 py, .int .i64 qx, .int .i64 qy, .int .i64 rx, .int .i64 ry, .int .i64 sx, .int .i64 sy]
    have HC0 := Lib.hid k1
    have HB0 := Lib.hid ((Below.refl w.heap.size w).alloc (Nat.le_refl _) (.cells #[.int .i64 px, .int .i64 py, .int .i64 qx, .int .i64 qy, .int .i64 rx, .int .i64 ry, .int .i64 sx, .int .i64 sy] 25))
    clear k1
    go_enter Try.func6, Try.ntmps6
    go_upto_region 1 with fail
    generalize w.alloc (.cells #[.int .i64 px, .int .i64 py, .int .i64 qx, .int .i64 qy, .int .i64 rx, .int .i64 ry, .int .i64 sx, .int .i64 sy] 25) = w1 at *
    go_wp2_with fail
    refine (K.out _).mono ?_
    rintro e w2 ⟨rfl, b1⟩
    have HB1 := Lib.hid (HB0.out.trans (b1.mono HB0.out.size))
    have HC1 := Lib.hid (HC0.out.next b1)
    clear b1
    go_upto_region 3 with fail
    have xC0 : w2.cell? ⟨w.heap.size, 0, none⟩ = some (.int .i64 px) := HC1.out.c 0 rfl
    have xC1 : w2.cell? ⟨w.heap.size, 1, none⟩ = some (.int .i64 py) := HC1.out.c 1 rfl
    have xC2 : w2.cell? ⟨w.heap.size, 2, none⟩ = some (.int .i64 qx) := HC1.out.c 2 rfl
    have xC3 : w2.cell? ⟨w.heap.size, 3, none⟩ = some (.int .i64 qy) := HC1.out.c 3 rfl
    have xC4 : w2.cell? ⟨w.heap.size, 4, none⟩ = some (.int .i64 rx) := HC1.out.c 4 rfl
    have xC5 : w2.cell? ⟨w.heap.size, 5, none⟩ = some (.int .i64 ry) := HC1.out.c 5 rfl
    have xC6 : w2.cell? ⟨w.heap.size, 6, none⟩ = some (.int .i64 sx) := HC1.out.c 6 rfl
    have xC7 : w2.cell? ⟨w.heap.size, 7, none⟩ = some (.int .i64 sy) := HC1.out.c 7 rfl
    go_wp2_with fail
    refine (RR.out _).mono ?_
    rintro e w3 ⟨rfl, b2⟩
    clear xC0 xC1 xC2 xC3 xC4 xC5 xC6 xC7
    have HB2 := Lib.hid (HB1.out.trans (b2.mono HB1.out.size))
    have HC2 := Lib.hid (HC1.out.next b2)
    clear b2
    have xC0 : w3.cell? ⟨w.heap.size, 0, none⟩ = some (.int .i64 px) := HC2.out.c 0 rfl
    have xC1 : w3.cell? ⟨w.heap.size, 1, none⟩ = some (.int .i64 py) := HC2.out.c 1 rfl
    have xC2 : w3.cell? ⟨w.heap.size, 2, none⟩ = some (.int .i64 qx) := HC2.out.c 2 rfl
    have xC3 : w3.cell? ⟨w.heap.size, 3, none⟩ = some (.int .i64 qy) := HC2.out.c 3 rfl
    have xC4 : w3.cell? ⟨w.heap.size, 4, none⟩ = some (.int .i64 rx) := HC2.out.c 4 rfl
    have xC5 : w3.cell? ⟨w.heap.size, 5, none⟩ = some (.int .i64 ry) := HC2.out.c 5 rfl
    have xC6 : w3.cell? ⟨w.heap.size, 6, none⟩ = some (.int .i64 sx) := HC2.out.c 6 rfl
    have xC7 : w3.cell? ⟨w.heap.size, 7, none⟩ = some (.int .i64 sy) := HC2.out.c 7 rfl
    go_wp2_with fail
    refine (CT.out _).mono ?_
    rintro e w4 ⟨rfl, b3⟩
    clear xC0 xC1 xC2 xC3 xC4 xC5 xC6 xC7
    have HB3 := Lib.hid (HB2.out.trans (b3.mono HB2.out.size))
    have HC3 := Lib.hid (HC2.out.next b3)
    clear b3
    obtain ⟨k1, k2, k3⟩ := boxes_two w4 #[.int .i64 px, .int .i64 py, .int .i64 ax, .int .i64 ay, .int .i64 dx, .int .i64 dy, .int .i64 fx, .int .i64 fy] #[.int .i64 fx, .int .i64 fy, .int .i64 ex, .int .i64 ey, .int .i64 xx, .int .i64 xy, .int .i64 sx, .int .i64 sy] 25 25
    have b4 := k3
    have HB4 := Lib.hid (HB3.out.trans (b4.mono HB3.out.size))
    have HC4 := Lib.hid (HC3.out.next b4)
    clear b4
    have HA4 := Lib.hid k1; have HD4 := Lib.hid k2
    clear k1 k2 k3
    go_upto_region 6 with fail
    generalize ((w4.alloc (.cells #[.int .i64 px, .int .i64 py, .int .i64 ax, .int .i64 ay, .int .i64 dx, .int .i64 dy, .int .i64 fx, .int .i64 fy] 25)).alloc (.cells #[.int .i64 fx, .int .i64 fy, .int .i64 ex, .int .i64 ey, .int .i64 xx, .int .i64 xy, .int .i64 sx, .int .i64 sy] 25)) = w5 at *
    generalize w4.heap.size = aq at *
    have xC0 : w5.cell? ⟨w.heap.size, 0, none⟩ = some (.int .i64 px) := HC4.out.c 0 rfl
    have xC1 : w5.cell? ⟨w.heap.size, 1, none⟩ = some (.int .i64 py) := HC4.out.c 1 rfl
    have xC2 : w5.cell? ⟨w.heap.size, 2, none⟩ = some (.int .i64 qx) := HC4.out.c 2 rfl
    have xC3 : w5.cell? ⟨w.heap.size, 3, none⟩ = some (.int .i64 qy) := HC4.out.c 3 rfl
    have xC4 : w5.cell? ⟨w.heap.size, 4, none⟩ = some (.int .i64 rx) := HC4.out.c 4 rfl
    have xC5 : w5.cell? ⟨w.heap.size, 5, none⟩ = some (.int .i64 ry) := HC4.out.c 5 rfl
    have xC6 : w5.cell? ⟨w.heap.size, 6, none⟩ = some (.int .i64 sx) := HC4.out.c 6 rfl
    have xC7 : w5.cell? ⟨w.heap.size, 7, none⟩ = some (.int .i64 sy) := HC4.out.c 7 rfl
    go_wp2_with fail
    refine (BC.out _).mono ?_
    rintro e w6 ⟨rfl, b5⟩
    clear xC0 xC1 xC2 xC3 xC4 xC5 xC6 xC7
    have HB5 := Lib.hid (HB4.out.trans (b5.mono HB4.out.size))
    have HC5 := Lib.hid (HC4.out.next b5)
    have HA5 := Lib.hid (HA4.out.next b5)
    have HD5 := Lib.hid (HD4.out.next b5)
    clear b5
    go_wp2_with fail
    refine (BT.out _).mono ?_
    rintro e w7 ⟨rfl, b6⟩
    have HB6 := Lib.hid (HB5.out.trans (b6.mono HB5.out.size))
    have HC6 := Lib.hid (HC5.out.next b6)
    have HA6 := Lib.hid (HA5.out.next b6)
    have HD6 := Lib.hid (HD5.out.next b6)
    clear b6
    obtain ⟨k1, k2, k3⟩ := boxes_two w7 #[.int .i64 sx, .int .i64 sy, .int .i64 xx, .int .i64 xy, .int .i64 ex, .int .i64 ey, .int .i64 fx, .int .i64 fy] #[.int .i64 f0, .int .i64 f1, .int .i64 f2, .int .i64 f3, .int .i64 f4, .int .i64 f5, .int .i64 f6, .int .i64 f7] 25 25
    have b7 := k3
    have HB7 := Lib.hid (HB6.out.trans (b7.mono HB6.out.size))
    have HC7 := Lib.hid (HC6.out.next b7)
    have HA7 := Lib.hid (HA6.out.next b7)
    have HD7 := Lib.hid (HD6.out.next b7)
    clear b7
    have HX7 := Lib.hid k1; have HY7 := Lib.hid k2
    clear k1 k2 k3
    go_upto_region 7 with fail
    generalize ((w7.alloc (.cells #[.int .i64 sx, .int .i64 sy, .int .i64 xx, .int .i64 xy, .int .i64 ex, .int .i64 ey, .int .i64 fx, .int .i64 fy] 25)).alloc (.cells #[.int .i64 f0, .int .i64 f1, .int .i64 f2, .int .i64 f3, .int .i64 f4, .int .i64 f5, .int .i64 f6, .int .i64 f7] 25)) = w8 at *
    generalize w7.heap.size = xq at *
    have xD0 : w8.cell? ⟨aq + 1, 0, none⟩ = some (.int .i64 fx) := HD7.out.c 0 rfl
    have xD1 : w8.cell? ⟨aq + 1, 1, none⟩ = some (.int .i64 fy) := HD7.out.c 1 rfl
    have xD2 : w8.cell? ⟨aq + 1, 2, none⟩ = some (.int .i64 ex) := HD7.out.c 2 rfl
    have xD3 : w8.cell? ⟨aq + 1, 3, none⟩ = some (.int .i64 ey) := HD7.out.c 3 rfl
    have xD4 : w8.cell? ⟨aq + 1, 4, none⟩ = some (.int .i64 xx) := HD7.out.c 4 rfl
    have xD5 : w8.cell? ⟨aq + 1, 5, none⟩ = some (.int .i64 xy) := HD7.out.c 5 rfl
    have xD6 : w8.cell? ⟨aq + 1, 6, none⟩ = some (.int .i64 sx) := HD7.out.c 6 rfl
    have xD7 : w8.cell? ⟨aq + 1, 7, none⟩ = some (.int .i64 sy) := HD7.out.c 7 rfl
    go_wp2_with fail
    refine (BB.out _).mono ?_
    rintro e w9 ⟨rfl, b8⟩
    clear xD0 xD1 xD2 xD3 xD4 xD5 xD6 xD7
    have HB8 := Lib.hid (HB7.out.trans (b8.mono HB7.out.size))
    have HC8 := Lib.hid (HC7.out.next b8)
    have HA8 := Lib.hid (HA7.out.next b8)
    have HD8 := Lib.hid (HD7.out.next b8)
    have HX8 := Lib.hid (HX7.out.next b8)
    have HY8 := Lib.hid (HY7.out.next b8)
    clear b8
    have k1 := CBox.new w9 25 #[.int .i64 sx, .int .i64 sy, .int .i64 xx, .int .i64 xy, .int .i64 ex, .int .i64 ey, .int .i64 fx, .int .i64 fy]
    have b9 := (Below.refl w9.heap.size w9).alloc (Nat.le_refl _) (.cells #[.int .i64 sx, .int .i64 sy, .int .i64 xx, .int .i64 xy, .int .i64 ex, .int .i64 ey, .int .i64 fx, .int .i64 fy] 25)
    have HB9 := Lib.hid (HB8.out.trans (b9.mono HB8.out.size))
    have HC9 := Lib.hid (HC8.out.next b9)
    have HA9 := Lib.hid (HA8.out.next b9)
    have HD9 := Lib.hid (HD8.out.next b9)
    have HX9 := Lib.hid (HX8.out.next b9)
    have HY9 := Lib.hid (HY8.out.next b9)
    clear b9
    have HE9 := Lib.hid k1
    clear k1
    go_upto_region 8 with fail
    generalize w9.alloc (.cells #[.int .i64 sx, .int .i64 sy, .int .i64 xx, .int .i64 xy, .int .i64 ex, .int .i64 ey, .int .i64 fx, .int .i64 fy] 25) = w10 at *
    generalize w9.heap.size = eq at *
    have xC0 : w10.cell? ⟨w.heap.size, 0, none⟩ = some (.int .i64 px) := HC9.out.c 0 rfl
    have xC1 : w10.cell? ⟨w.heap.size, 1, none⟩ = some (.int .i64 py) := HC9.out.c 1 rfl
    have xC2 : w10.cell? ⟨w.heap.size, 2, none⟩ = some (.int .i64 qx) := HC9.out.c 2 rfl
    have xC3 : w10.cell? ⟨w.heap.size, 3, none⟩ = some (.int .i64 qy) := HC9.out.c 3 rfl
    have xC4 : w10.cell? ⟨w.heap.size, 4, none⟩ = some (.int .i64 rx) := HC9.out.c 4 rfl
    have xC5 : w10.cell? ⟨w.heap.size, 5, none⟩ = some (.int .i64 ry) := HC9.out.c 5 rfl
    have xC6 : w10.cell? ⟨w.heap.size, 6, none⟩ = some (.int .i64 sx) := HC9.out.c 6 rfl
    have xC7 : w10.cell? ⟨w.heap.size, 7, none⟩ = some (.int .i64 sy) := HC9.out.c 7 rfl
    have xA0 : w10.cell? ⟨aq, 0, none⟩ = some (.int .i64 px) := HA9.out.c 0 rfl
    have xA1 : w10.cell? ⟨aq, 1, none⟩ = some (.int .i64 py) := HA9.out.c 1 rfl
    have xA6 : w10.cell? ⟨aq, 6, none⟩ = some (.int .i64 fx) := HA9.out.c 6 rfl
    have xA7 : w10.cell? ⟨aq, 7, none⟩ = some (.int .i64 fy) := HA9.out.c 7 rfl
    have xD0 : w10.cell? ⟨aq + 1, 0, none⟩ = some (.int .i64 fx) := HD9.out.c 0 rfl
    have xD1 : w10.cell? ⟨aq + 1, 1, none⟩ = some (.int .i64 fy) := HD9.out.c 1 rfl
    have xD6 : w10.cell? ⟨aq + 1, 6, none⟩ = some (.int .i64 sx) := HD9.out.c 6 rfl
    have xD7 : w10.cell? ⟨aq + 1, 7, none⟩ = some (.int .i64 sy) := HD9.out.c 7 rfl
    have xX2 : w10.cell? ⟨xq, 2, none⟩ = some (.int .i64 xx) := HX9.out.c 2 rfl
    have xX3 : w10.cell? ⟨xq, 3, none⟩ = some (.int .i64 xy) := HX9.out.c 3 rfl
    have xX4 : w10.cell? ⟨xq, 4, none⟩ = some (.int .i64 ex) := HX9.out.c 4 rfl
    have xX5 : w10.cell? ⟨xq, 5, none⟩ = some (.int .i64 ey) := HX9.out.c 5 rfl
    have xX6 : w10.cell? ⟨xq, 6, none⟩ = some (.int .i64 fx) := HX9.out.c 6 rfl
    have xX7 : w10.cell? ⟨xq, 7, none⟩ = some (.int .i64 fy) := HX9.out.c 7 rfl
    have xE2 : w10.cell? ⟨eq, 2, none⟩ = some (.int .i64 xx) := HE9.out.c 2 rfl
    have xE3 : w10.cell? ⟨eq, 3, none⟩ = some (.int .i64 xy) := HE9.out.c 3 rfl
    have xE4 : w10.cell? ⟨eq, 4, none⟩ = some (.int .i64 ex) := HE9.out.c 4 rfl
    have xE5 : w10.cell? ⟨eq, 5, none⟩ = some (.int .i64 ey) := HE9.out.c 5 rfl
    have xE6 : w10.cell? ⟨eq, 6, none⟩ = some (.int .i64 fx) := HE9.out.c 6 rfl
    have xE7 : w10.cell? ⟨eq, 7, none⟩ = some (.int .i64 fy) := HE9.out.c 7 rfl
    have HBz := Lib.hid (Below.refl w10.heap.size w10)
    have HBd := Lib.hid HBz.out.drew
    go_region_held3 (fun w' => w'.cell? ⟨w.heap.size, 0, none⟩ = some (.int .i64 px) ∧ w'.cell? ⟨w.heap.size, 1, none⟩ = some (.int .i64 py) ∧ w'.cell? ⟨w.heap.size, 2, none⟩ = some (.int .i64 qx) ∧ w'.cell? ⟨w.heap.size, 3, none⟩ = some (.int .i64 qy) ∧ w'.cell? ⟨w.heap.size, 4, none⟩ = some (.int .i64 rx) ∧ w'.cell? ⟨w.heap.size, 5, none⟩ = some (.int .i64 ry) ∧ w'.cell? ⟨w.heap.size, 6, none⟩ = some (.int .i64 sx) ∧ w'.cell? ⟨w.heap.size, 7, none⟩ = some (.int .i64 sy) ∧ w'.cell? ⟨aq, 0, none⟩ = some (.int .i64 px) ∧ w'.cell? ⟨aq, 1, none⟩ = some (.int .i64 py) ∧ w'.cell? ⟨aq, 6, none⟩ = some (.int .i64 fx) ∧ w'.cell? ⟨aq, 7, none⟩ = some (.int .i64 fy) ∧ w'.cell? ⟨aq + 1, 0, none⟩ = some (.int .i64 fx) ∧ w'.cell? ⟨aq + 1, 1, none⟩ = some (.int .i64 fy) ∧ w'.cell? ⟨aq + 1, 6, none⟩ = some (.int .i64 sx) ∧ w'.cell? ⟨aq + 1, 7, none⟩ = some (.int .i64 sy) ∧ w'.cell? ⟨xq, 2, none⟩ = some (.int .i64 xx) ∧ w'.cell? ⟨xq, 3, none⟩ = some (.int .i64 xy) ∧ w'.cell? ⟨xq, 4, none⟩ = some (.int .i64 ex) ∧ w'.cell? ⟨xq, 5, none⟩ = some (.int .i64 ey) ∧ w'.cell? ⟨xq, 6, none⟩ = some (.int .i64 fx) ∧ w'.cell? ⟨xq, 7, none⟩ = some (.int .i64 fy) ∧ w'.cell? ⟨eq, 2, none⟩ = some (.int .i64 xx) ∧ w'.cell? ⟨eq, 3, none⟩ = some (.int .i64 xy) ∧ w'.cell? ⟨eq, 4, none⟩ = some (.int .i64 ex) ∧ w'.cell? ⟨eq, 5, none⟩ = some (.int .i64 ey) ∧ w'.cell? ⟨eq, 6, none⟩ = some (.int .i64 fx) ∧ w'.cell? ⟨eq, 7, none⟩ = some (.int .i64 fy)) (first | (refine ⟨?_, ?_, ?_, ?_, ?_, ?_, ?_, ?_, ?_, ?_, ?_, ?_, ?_, ?_, ?_, ?_, ?_, ?_, ?_, ?_, ?_, ?_, ?_, ?_, ?_, ?_, ?_, ?_⟩ <;> first | with_reducible assumption) | (simp [go_sem, *]; done))
      (first
      | (go_at_call 19; (with_reducible refine (CH.out _).mono ?_); rintro e v1 ⟨rfl, bc1⟩; have HBc1 := Lib.hid (HBd.out.trans (bc1.mono HBd.out.size)); clear xC0 xC1 xC2 xC3 xC4 xC5 xC6 xC7 xA0 xA1 xA6 xA7 xD0 xD1 xD6 xD7 xX2 xX3 xX4 xX5 xX6 xX7 xE2 xE3 xE4 xE5 xE6 xE7; have hC_ := HC9.out.next HBc1.out; have xC0 : v1.cell? ⟨w.heap.size, 0, none⟩ = some (.int .i64 px) := hC_.c 0 rfl; have xC1 : v1.cell? ⟨w.heap.size, 1, none⟩ = some (.int .i64 py) := hC_.c 1 rfl; have xC2 : v1.cell? ⟨w.heap.size, 2, none⟩ = some (.int .i64 qx) := hC_.c 2 rfl; have xC3 : v1.cell? ⟨w.heap.size, 3, none⟩ = some (.int .i64 qy) := hC_.c 3 rfl; have xC4 : v1.cell? ⟨w.heap.size, 4, none⟩ = some (.int .i64 rx) := hC_.c 4 rfl; have xC5 : v1.cell? ⟨w.heap.size, 5, none⟩ = some (.int .i64 ry) := hC_.c 5 rfl; have xC6 : v1.cell? ⟨w.heap.size, 6, none⟩ = some (.int .i64 sx) := hC_.c 6 rfl; have xC7 : v1.cell? ⟨w.heap.size, 7, none⟩ = some (.int .i64 sy) := hC_.c 7 rfl; clear hC_; have hA_ := HA9.out.next HBc1.out; have xA0 : v1.cell? ⟨aq, 0, none⟩ = some (.int .i64 px) := hA_.c 0 rfl; have xA1 : v1.cell? ⟨aq, 1, none⟩ = some (.int .i64 py) := hA_.c 1 rfl; have xA6 : v1.cell? ⟨aq, 6, none⟩ = some (.int .i64 fx) := hA_.c 6 rfl; have xA7 : v1.cell? ⟨aq, 7, none⟩ = some (.int .i64 fy) := hA_.c 7 rfl; clear hA_; have hD_ := HD9.out.next HBc1.out; have xD0 : v1.cell? ⟨aq + 1, 0, none⟩ = some (.int .i64 fx) := hD_.c 0 rfl; have xD1 : v1.cell? ⟨aq + 1, 1, none⟩ = some (.int .i64 fy) := hD_.c 1 rfl; have xD6 : v1.cell? ⟨aq + 1, 6, none⟩ = some (.int .i64 sx) := hD_.c 6 rfl; have xD7 : v1.cell? ⟨aq + 1, 7, none⟩ = some (.int .i64 sy) := hD_.c 7 rfl; clear hD_; have hX_ := HX9.out.next HBc1.out; have xX2 : v1.cell? ⟨xq, 2, none⟩ = some (.int .i64 xx) := hX_.c 2 rfl; have xX3 : v1.cell? ⟨xq, 3, none⟩ = some (.int .i64 xy) := hX_.c 3 rfl; have xX4 : v1.cell? ⟨xq, 4, none⟩ = some (.int .i64 ex) := hX_.c 4 rfl; have xX5 : v1.cell? ⟨xq, 5, none⟩ = some (.int .i64 ey) := hX_.c 5 rfl; have xX6 : v1.cell? ⟨xq, 6, none⟩ = some (.int .i64 fx) := hX_.c 6 rfl; have xX7 : v1.cell? ⟨xq, 7, none⟩ = some (.int .i64 fy) := hX_.c 7 rfl; clear hX_; have hE_ := HE9.out.next HBc1.out; have xE2 : v1.cell? ⟨eq, 2, none⟩ = some (.int .i64 xx) := hE_.c 2 rfl; have xE3 : v1.cell? ⟨eq, 3, none⟩ = some (.int .i64 xy) := hE_.c 3 rfl; have xE4 : v1.cell? ⟨eq, 4, none⟩ = some (.int .i64 ex) := hE_.c 4 rfl; have xE5 : v1.cell? ⟨eq, 5, none⟩ = some (.int .i64 ey) := hE_.c 5 rfl; have xE6 : v1.cell? ⟨eq, 6, none⟩ = some (.int .i64 fx) := hE_.c 6 rfl; have xE7 : v1.cell? ⟨eq, 7, none⟩ = some (.int .i64 fy) := hE_.c 7 rfl; clear hE_; clear bc1)
      | (go_at_call 21; (with_reducible refine (AB1.out _).mono ?_); rintro e v2 ⟨rfl, bc2⟩; have HBc2 := Lib.hid (HBc1.out.trans (bc2.mono HBc1.out.size)); clear xC0 xC1 xC2 xC3 xC4 xC5 xC6 xC7 xA0 xA1 xA6 xA7 xD0 xD1 xD6 xD7 xX2 xX3 xX4 xX5 xX6 xX7 xE2 xE3 xE4 xE5 xE6 xE7; have hC_ := HC9.out.next HBc2.out; have xC0 : v2.cell? ⟨w.heap.size, 0, none⟩ = some (.int .i64 px) := hC_.c 0 rfl; have xC1 : v2.cell? ⟨w.heap.size, 1, none⟩ = some (.int .i64 py) := hC_.c 1 rfl; have xC2 : v2.cell? ⟨w.heap.size, 2, none⟩ = some (.int .i64 qx) := hC_.c 2 rfl; have xC3 : v2.cell? ⟨w.heap.size, 3, none⟩ = some (.int .i64 qy) := hC_.c 3 rfl; have xC4 : v2.cell? ⟨w.heap.size, 4, none⟩ = some (.int .i64 rx) := hC_.c 4 rfl; have xC5 : v2.cell? ⟨w.heap.size, 5, none⟩ = some (.int .i64 ry) := hC_.c 5 rfl; have xC6 : v2.cell? ⟨w.heap.size, 6, none⟩ = some (.int .i64 sx) := hC_.c 6 rfl; have xC7 : v2.cell? ⟨w.heap.size, 7, none⟩ = some (.int .i64 sy) := hC_.c 7 rfl; clear hC_; have hA_ := HA9.out.next HBc2.out; have xA0 : v2.cell? ⟨aq, 0, none⟩ = some (.int .i64 px) := hA_.c 0 rfl; have xA1 : v2.cell? ⟨aq, 1, none⟩ = some (.int .i64 py) := hA_.c 1 rfl; have xA6 : v2.cell? ⟨aq, 6, none⟩ = some (.int .i64 fx) := hA_.c 6 rfl; have xA7 : v2.cell? ⟨aq, 7, none⟩ = some (.int .i64 fy) := hA_.c 7 rfl; clear hA_; have hD_ := HD9.out.next HBc2.out; have xD0 : v2.cell? ⟨aq + 1, 0, none⟩ = some (.int .i64 fx) := hD_.c 0 rfl; have xD1 : v2.cell? ⟨aq + 1, 1, none⟩ = some (.int .i64 fy) := hD_.c 1 rfl; have xD6 : v2.cell? ⟨aq + 1, 6, none⟩ = some (.int .i64 sx) := hD_.c 6 rfl; have xD7 : v2.cell? ⟨aq + 1, 7, none⟩ = some (.int .i64 sy) := hD_.c 7 rfl; clear hD_; have hX_ := HX9.out.next HBc2.out; have xX2 : v2.cell? ⟨xq, 2, none⟩ = some (.int .i64 xx) := hX_.c 2 rfl; have xX3 : v2.cell? ⟨xq, 3, none⟩ = some (.int .i64 xy) := hX_.c 3 rfl; have xX4 : v2.cell? ⟨xq, 4, none⟩ = some (.int .i64 ex) := hX_.c 4 rfl; have xX5 : v2.cell? ⟨xq, 5, none⟩ = some (.int .i64 ey) := hX_.c 5 rfl; have xX6 : v2.cell? ⟨xq, 6, none⟩ = some (.int .i64 fx) := hX_.c 6 rfl; have xX7 : v2.cell? ⟨xq, 7, none⟩ = some (.int .i64 fy) := hX_.c 7 rfl; clear hX_; have hE_ := HE9.out.next HBc2.out; have xE2 : v2.cell? ⟨eq, 2, none⟩ = some (.int .i64 xx) := hE_.c 2 rfl; have xE3 : v2.cell? ⟨eq, 3, none⟩ = some (.int .i64 xy) := hE_.c 3 rfl; have xE4 : v2.cell? ⟨eq, 4, none⟩ = some (.int .i64 ex) := hE_.c 4 rfl; have xE5 : v2.cell? ⟨eq, 5, none⟩ = some (.int .i64 ey) := hE_.c 5 rfl; have xE6 : v2.cell? ⟨eq, 6, none⟩ = some (.int .i64 fx) := hE_.c 6 rfl; have xE7 : v2.cell? ⟨eq, 7, none⟩ = some (.int .i64 fy) := hE_.c 7 rfl; clear hE_; clear bc2)
      | (go_at_call 21; (with_reducible refine (AB2.out _).mono ?_); rintro e v3 ⟨rfl, bc3⟩; have HBc3 := Lib.hid (HBc2.out.trans (bc3.mono HBc2.out.size)); clear xC0 xC1 xC2 xC3 xC4 xC5 xC6 xC7 xA0 xA1 xA6 xA7 xD0 xD1 xD6 xD7 xX2 xX3 xX4 xX5 xX6 xX7 xE2 xE3 xE4 xE5 xE6 xE7; have hC_ := HC9.out.next HBc3.out; have xC0 : v3.cell? ⟨w.heap.size, 0, none⟩ = some (.int .i64 px) := hC_.c 0 rfl; have xC1 : v3.cell? ⟨w.heap.size, 1, none⟩ = some (.int .i64 py) := hC_.c 1 rfl; have xC2 : v3.cell? ⟨w.heap.size, 2, none⟩ = some (.int .i64 qx) := hC_.c 2 rfl; have xC3 : v3.cell? ⟨w.heap.size, 3, none⟩ = some (.int .i64 qy) := hC_.c 3 rfl; have xC4 : v3.cell? ⟨w.heap.size, 4, none⟩ = some (.int .i64 rx) := hC_.c 4 rfl; have xC5 : v3.cell? ⟨w.heap.size, 5, none⟩ = some (.int .i64 ry) := hC_.c 5 rfl; have xC6 : v3.cell? ⟨w.heap.size, 6, none⟩ = some (.int .i64 sx) := hC_.c 6 rfl; have xC7 : v3.cell? ⟨w.heap.size, 7, none⟩ = some (.int .i64 sy) := hC_.c 7 rfl; clear hC_; have hA_ := HA9.out.next HBc3.out; have xA0 : v3.cell? ⟨aq, 0, none⟩ = some (.int .i64 px) := hA_.c 0 rfl; have xA1 : v3.cell? ⟨aq, 1, none⟩ = some (.int .i64 py) := hA_.c 1 rfl; have xA6 : v3.cell? ⟨aq, 6, none⟩ = some (.int .i64 fx) := hA_.c 6 rfl; have xA7 : v3.cell? ⟨aq, 7, none⟩ = some (.int .i64 fy) := hA_.c 7 rfl; clear hA_; have hD_ := HD9.out.next HBc3.out; have xD0 : v3.cell? ⟨aq + 1, 0, none⟩ = some (.int .i64 fx) := hD_.c 0 rfl; have xD1 : v3.cell? ⟨aq + 1, 1, none⟩ = some (.int .i64 fy) := hD_.c 1 rfl; have xD6 : v3.cell? ⟨aq + 1, 6, none⟩ = some (.int .i64 sx) := hD_.c 6 rfl; have xD7 : v3.cell? ⟨aq + 1, 7, none⟩ = some (.int .i64 sy) := hD_.c 7 rfl; clear hD_; have hX_ := HX9.out.next HBc3.out; have xX2 : v3.cell? ⟨xq, 2, none⟩ = some (.int .i64 xx) := hX_.c 2 rfl; have xX3 : v3.cell? ⟨xq, 3, none⟩ = some (.int .i64 xy) := hX_.c 3 rfl; have xX4 : v3.cell? ⟨xq, 4, none⟩ = some (.int .i64 ex) := hX_.c 4 rfl; have xX5 : v3.cell? ⟨xq, 5, none⟩ = some (.int .i64 ey) := hX_.c 5 rfl; have xX6 : v3.cell? ⟨xq, 6, none⟩ = some (.int .i64 fx) := hX_.c 6 rfl; have xX7 : v3.cell? ⟨xq, 7, none⟩ = some (.int .i64 fy) := hX_.c 7 rfl; clear hX_; have hE_ := HE9.out.next HBc3.out; have xE2 : v3.cell? ⟨eq, 2, none⟩ = some (.int .i64 xx) := hE_.c 2 rfl; have xE3 : v3.cell? ⟨eq, 3, none⟩ = some (.int .i64 xy) := hE_.c 3 rfl; have xE4 : v3.cell? ⟨eq, 4, none⟩ = some (.int .i64 ex) := hE_.c 4 rfl; have xE5 : v3.cell? ⟨eq, 5, none⟩ = some (.int .i64 ey) := hE_.c 5 rfl; have xE6 : v3.cell? ⟨eq, 6, none⟩ = some (.int .i64 fx) := hE_.c 6 rfl; have xE7 : v3.cell? ⟨eq, 7, none⟩ = some (.int .i64 fy) := hE_.c 7 rfl; clear hE_; clear bc3)
      | (go_at_call 21; (with_reducible refine (AB3.out _).mono ?_); rintro e v4 ⟨rfl, bc4⟩; have HBc4 := Lib.hid (HBc3.out.trans (bc4.mono HBc3.out.size)); clear xC0 xC1 xC2 xC3 xC4 xC5 xC6 xC7 xA0 xA1 xA6 xA7 xD0 xD1 xD6 xD7 xX2 xX3 xX4 xX5 xX6 xX7 xE2 xE3 xE4 xE5 xE6 xE7; have hC_ := HC9.out.next HBc4.out; have xC0 : v4.cell? ⟨w.heap.size, 0, none⟩ = some (.int .i64 px) := hC_.c 0 rfl; have xC1 : v4.cell? ⟨w.heap.size, 1, none⟩ = some (.int .i64 py) := hC_.c 1 rfl; have xC2 : v4.cell? ⟨w.heap.size, 2, none⟩ = some (.int .i64 qx) := hC_.c 2 rfl; have xC3 : v4.cell? ⟨w.heap.size, 3, none⟩ = some (.int .i64 qy) := hC_.c 3 rfl; have xC4 : v4.cell? ⟨w.heap.size, 4, none⟩ = some (.int .i64 rx) := hC_.c 4 rfl; have xC5 : v4.cell? ⟨w.heap.size, 5, none⟩ = some (.int .i64 ry) := hC_.c 5 rfl; have xC6 : v4.cell? ⟨w.heap.size, 6, none⟩ = some (.int .i64 sx) := hC_.c 6 rfl; have xC7 : v4.cell? ⟨w.heap.size, 7, none⟩ = some (.int .i64 sy) := hC_.c 7 rfl; clear hC_; have hA_ := HA9.out.next HBc4.out; have xA0 : v4.cell? ⟨aq, 0, none⟩ = some (.int .i64 px) := hA_.c 0 rfl; have xA1 : v4.cell? ⟨aq, 1, none⟩ = some (.int .i64 py) := hA_.c 1 rfl; have xA6 : v4.cell? ⟨aq, 6, none⟩ = some (.int .i64 fx) := hA_.c 6 rfl; have xA7 : v4.cell? ⟨aq, 7, none⟩ = some (.int .i64 fy) := hA_.c 7 rfl; clear hA_; have hD_ := HD9.out.next HBc4.out; have xD0 : v4.cell? ⟨aq + 1, 0, none⟩ = some (.int .i64 fx) := hD_.c 0 rfl; have xD1 : v4.cell? ⟨aq + 1, 1, none⟩ = some (.int .i64 fy) := hD_.c 1 rfl; have xD6 : v4.cell? ⟨aq + 1, 6, none⟩ = some (.int .i64 sx) := hD_.c 6 rfl; have xD7 : v4.cell? ⟨aq + 1, 7, none⟩ = some (.int .i64 sy) := hD_.c 7 rfl; clear hD_; have hX_ := HX9.out.next HBc4.out; have xX2 : v4.cell? ⟨xq, 2, none⟩ = some (.int .i64 xx) := hX_.c 2 rfl; have xX3 : v4.cell? ⟨xq, 3, none⟩ = some (.int .i64 xy) := hX_.c 3 rfl; have xX4 : v4.cell? ⟨xq, 4, none⟩ = some (.int .i64 ex) := hX_.c 4 rfl; have xX5 : v4.cell? ⟨xq, 5, none⟩ = some (.int .i64 ey) := hX_.c 5 rfl; have xX6 : v4.cell? ⟨xq, 6, none⟩ = some (.int .i64 fx) := hX_.c 6 rfl; have xX7 : v4.cell? ⟨xq, 7, none⟩ = some (.int .i64 fy) := hX_.c 7 rfl; clear hX_; have hE_ := HE9.out.next HBc4.out; have xE2 : v4.cell? ⟨eq, 2, none⟩ = some (.int .i64 xx) := hE_.c 2 rfl; have xE3 : v4.cell? ⟨eq, 3, none⟩ = some (.int .i64 xy) := hE_.c 3 rfl; have xE4 : v4.cell? ⟨eq, 4, none⟩ = some (.int .i64 ex) := hE_.c 4 rfl; have xE5 : v4.cell? ⟨eq, 5, none⟩ = some (.int .i64 ey) := hE_.c 5 rfl; have xE6 : v4.cell? ⟨eq, 6, none⟩ = some (.int .i64 fx) := hE_.c 6 rfl; have xE7 : v4.cell? ⟨eq, 7, none⟩ = some (.int .i64 fy) := hE_.c 7 rfl; clear hE_; clear bc4)
      | (go_at_call 21; (with_reducible refine (AB1.out _).mono ?_); rintro e v5 ⟨rfl, bc5⟩; have HBc5 := Lib.hid (HBc4.out.trans (bc5.mono HBc4.out.size)); clear xC0 xC1 xC2 xC3 xC4 xC5 xC6 xC7 xA0 xA1 xA6 xA7 xD0 xD1 xD6 xD7 xX2 xX3 xX4 xX5 xX6 xX7 xE2 xE3 xE4 xE5 xE6 xE7; have hC_ := HC9.out.next HBc5.out; have xC0 : v5.cell? ⟨w.heap.size, 0, none⟩ = some (.int .i64 px) := hC_.c 0 rfl; have xC1 : v5.cell? ⟨w.heap.size, 1, none⟩ = some (.int .i64 py) := hC_.c 1 rfl; have xC2 : v5.cell? ⟨w.heap.size, 2, none⟩ = some (.int .i64 qx) := hC_.c 2 rfl; have xC3 : v5.cell? ⟨w.heap.size, 3, none⟩ = some (.int .i64 qy) := hC_.c 3 rfl; have xC4 : v5.cell? ⟨w.heap.size, 4, none⟩ = some (.int .i64 rx) := hC_.c 4 rfl; have xC5 : v5.cell? ⟨w.heap.size, 5, none⟩ = some (.int .i64 ry) := hC_.c 5 rfl; have xC6 : v5.cell? ⟨w.heap.size, 6, none⟩ = some (.int .i64 sx) := hC_.c 6 rfl; have xC7 : v5.cell? ⟨w.heap.size, 7, none⟩ = some (.int .i64 sy) := hC_.c 7 rfl; clear hC_; have hA_ := HA9.out.next HBc5.out; have xA0 : v5.cell? ⟨aq, 0, none⟩ = some (.int .i64 px) := hA_.c 0 rfl; have xA1 : v5.cell? ⟨aq, 1, none⟩ = some (.int .i64 py) := hA_.c 1 rfl; have xA6 : v5.cell? ⟨aq, 6, none⟩ = some (.int .i64 fx) := hA_.c 6 rfl; have xA7 : v5.cell? ⟨aq, 7, none⟩ = some (.int .i64 fy) := hA_.c 7 rfl; clear hA_; have hD_ := HD9.out.next HBc5.out; have xD0 : v5.cell? ⟨aq + 1, 0, none⟩ = some (.int .i64 fx) := hD_.c 0 rfl; have xD1 : v5.cell? ⟨aq + 1, 1, none⟩ = some (.int .i64 fy) := hD_.c 1 rfl; have xD6 : v5.cell? ⟨aq + 1, 6, none⟩ = some (.int .i64 sx) := hD_.c 6 rfl; have xD7 : v5.cell? ⟨aq + 1, 7, none⟩ = some (.int .i64 sy) := hD_.c 7 rfl; clear hD_; have hX_ := HX9.out.next HBc5.out; have xX2 : v5.cell? ⟨xq, 2, none⟩ = some (.int .i64 xx) := hX_.c 2 rfl; have xX3 : v5.cell? ⟨xq, 3, none⟩ = some (.int .i64 xy) := hX_.c 3 rfl; have xX4 : v5.cell? ⟨xq, 4, none⟩ = some (.int .i64 ex) := hX_.c 4 rfl; have xX5 : v5.cell? ⟨xq, 5, none⟩ = some (.int .i64 ey) := hX_.c 5 rfl; have xX6 : v5.cell? ⟨xq, 6, none⟩ = some (.int .i64 fx) := hX_.c 6 rfl; have xX7 : v5.cell? ⟨xq, 7, none⟩ = some (.int .i64 fy) := hX_.c 7 rfl; clear hX_; have hE_ := HE9.out.next HBc5.out; have xE2 : v5.cell? ⟨eq, 2, none⟩ = some (.int .i64 xx) := hE_.c 2 rfl; have xE3 : v5.cell? ⟨eq, 3, none⟩ = some (.int .i64 xy) := hE_.c 3 rfl; have xE4 : v5.cell? ⟨eq, 4, none⟩ = some (.int .i64 ex) := hE_.c 4 rfl; have xE5 : v5.cell? ⟨eq, 5, none⟩ = some (.int .i64 ey) := hE_.c 5 rfl; have xE6 : v5.cell? ⟨eq, 6, none⟩ = some (.int .i64 fx) := hE_.c 6 rfl; have xE7 : v5.cell? ⟨eq, 7, none⟩ = some (.int .i64 fy) := hE_.c 7 rfl; clear hE_; clear bc5)
      )
    clear xC0 xC1 xC2 xC3 xC4 xC5 xC6 xC7 xA0 xA1 xA6 xA7 xD0 xD1 xD6 xD7 xX2 xX3 xX4 xX5 xX6 xX7 xE2 xE3 xE4 xE5 xE6 xE7
    have HB10 := Lib.hid (HB9.out.trans (HBc5.out.mono HB9.out.size))
    have HC10 := Lib.hid (HC9.out.next HBc5.out)
    have HA10 := Lib.hid (HA9.out.next HBc5.out)
    have HD10 := Lib.hid (HD9.out.next HBc5.out)
    have HX10 := Lib.hid (HX9.out.next HBc5.out)
    have HY10 := Lib.hid (HY9.out.next HBc5.out)
    have HE10 := Lib.hid (HE9.out.next HBc5.out)
    generalize v5 = w11 at *
    go_wp2_with fail
    go_ret
    exact ⟨rfl, HB10.out⟩
  · rw [decide_eq_false hr] at RR
    clear hr
    obtain ⟨px, py, qx, qy, rx, ry, sx, sy⟩ := c
    unfold Crv.val Crv.arr at *
    dsimp only at *
    have k1 := CBox.new w 25 #[.int .i64 px, .int .i64 py, .int .i64 qx, .int .i64 qy, .int .i64 rx, .int .i64 ry, .int .i64 sx, .int .i64 sy]
    have HC0 := Lib.hid k1
    have HB0 := Lib.hid ((Below.refl w.heap.size w).alloc (Nat.le_refl _) (.cells #[.int .i64 px, .int .i64 py, .int .i64 qx, .int .i64 qy, .int .i64 rx, .int .i64 ry, .int .i64 sx, .int .i64 sy] 25))
    clear k1
    go_enter Try.func6, Try.ntmps6
    go_upto_region 1 with fail
    generalize w.alloc (.cells #[.int .i64 px, .int .i64 py, .int .i64 qx, .int .i64 qy, .int .i64 rx, .int .i64 ry, .int .i64 sx, .int .i64 sy] 25) = w1 at *
    go_wp2_with fail
    refine (K.out _).mono ?_
    rintro e w2 ⟨rfl, b1⟩
    have HB1 := Lib.hid (HB0.out.trans (b1.mono HB0.out.size))
    have HC1 := Lib.hid (HC0.out.next b1)
    clear b1
    go_upto_region 3 with fail
    have xC0 : w2.cell? ⟨w.heap.size, 0, none⟩ = some (.int .i64 px) := HC1.out.c 0 rfl
    have xC1 : w2.cell? ⟨w.heap.size, 1, none⟩ = some (.int .i64 py) := HC1.out.c 1 rfl
    have xC2 : w2.cell? ⟨w.heap.size, 2, none⟩ = some (.int .i64 qx) := HC1.out.c 2 rfl
    have xC3 : w2.cell? ⟨w.heap.size, 3, none⟩ = some (.int .i64 qy) := HC1.out.c 3 rfl
    have xC4 : w2.cell? ⟨w.heap.size, 4, none⟩ = some (.int .i64 rx) := HC1.out.c 4 rfl
    have xC5 : w2.cell? ⟨w.heap.size, 5, none⟩ = some (.int .i64 ry) := HC1.out.c 5 rfl
    have xC6 : w2.cell? ⟨w.heap.size, 6, none⟩ = some (.int .i64 sx) := HC1.out.c 6 rfl
    have xC7 : w2.cell? ⟨w.heap.size, 7, none⟩ = some (.int .i64 sy) := HC1.out.c 7 rfl
    go_wp2_with fail
    refine (RR.out _).mono ?_
    rintro e w3 ⟨rfl, b2⟩
    clear xC0 xC1 xC2 xC3 xC4 xC5 xC6 xC7
    have HB2 := Lib.hid (HB1.out.trans (b2.mono HB1.out.size))
    have HC2 := Lib.hid (HC1.out.next b2)
    clear b2
    go_wp2_with fail
    go_ret
    exact ⟨rfl, HB2.out⟩
set_option maxRecDepth 100000 in
theorem lifted (os : Os) (started : os.Started) (H : Type) (enc : TypeId × Value → H) :
    ReturnsInHanded {} Try.checked os 6 .any (Rows.curveHalvesSpec.pre6 enc Try.prog Try.f6 Rows.curveHalvesRow.domain false) (Rows.curveHalvesSpec.post enc Try.prog Try.f6 false true false false) := by
  refine returnsInHanded_of_change (C := Try.checked) own started (by kernel_rfl) Try.func6
    (ChangeSpec.witness6 (enc := enc) (C := Try.checked) false ⟨#[], #[.agg #[.int .i64 0, .int .i64 0, .int .i64 0, .int .i64 0, .int .i64 0, .int .i64 0, .int .i64 0, .int .i64 0]], []⟩ 8 (by kernel_rfl) (by kernel_rfl) (by kernel_rfl) (by kernel_rfl)) ?_
  intro W base args ds gs before hval0 hW hcnd _
  have hval : ∀ (j : Nat) t v, Try.f6.params[j]? = some t → args[j]? = some v → Value.okWide Try.prog W .any base t v := hval0
  have hW' := hW
  obtain ⟨p, q, hA0, hV, rfl, hfz, hnd⟩ := hW
  have hA : DataW.TrodAll enc Try.prog W 0 (fun _ => true) true Try.f6.params.toList args.toList ds p := hA0
  rw [Try.params6] at hA hval
  obtain ⟨v0, d0, rfl, rfl, h0⟩ := trodAll_one hA
  obtain ⟨rfl, rfl⟩ := trodVars_none hV
  obtain ⟨c0, rfl, w0⟩ := crv_of_trod Try.underlying25 (by kernel_rfl) rfl rfl rfl rfl Try.underlying23 (by kernel_rfl) rfl rfl rfl rfl rfl (by kernel_rfl) (by kernel_rfl) Try.underlying2 Try.underlying2 (hval 0 25 v0 rfl rfl) h0
  clear hA0 hval0
  simp only [List.append_nil] at hW'
  have lt0 : ∀ x ∈ p, x.block < W.heap.size := fun x hx => hW'.lt x (by simp [hx])
  refine (walk c0 w0 W).mono fun e W' ⟨he, hg⟩ => ?_
  subst he
  have b0' := Below.trod laidOut (by kernel_rfl) (of_decide_eq_true (by kernel_rfl)) h0 hg lt0
  exact ⟨_, rfl, ⟨_, _, _, [], _, [], hW', trodAll_mk1 (shut_bool Try.underlying4 _), trodAll_mk1 b0', rfl, hg.frame _, fun h => by cases h⟩⟩

/-- The given statement. -/
theorem proved : Rows.CurveHalvesSaid :=
  OpenClaim.holds_of_wide 6 Try.f6 rfl rfl rfl rfl rfl rfl rfl ⟨rfl, rfl, rfl, rfl, rfl⟩ rfl rfl rfl rfl rfl (by kernel_rfl) Try.func6 (by kernel_rfl)
    (of_decide_eq_true (by kernel_rfl)) (by unfold Func.isWrapper; first | (rw [if_pos (by decide +kernel)]; kernel_rfl) | (rw [if_neg (by decide +kernel)]; exact ⟨rfl, rfl⟩))
    (fun os started H enc _ => lifted os started H enc)
end Go.Proofs.Ytainocdbapnaaaa.curveHalves
