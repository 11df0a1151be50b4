/-
  PROVED: the statement of CurveCuts, for every input: any curve is right, or not; a right one is cut, flat, or not, and turned about, as the document says. (Typed by a program: wip/gen_law11a.py.)
-/
import Derived.Test.YtainocdbapnaaaaRows
import Derived.Test.YtainocdbapnaaaaCrvWakes
import Derived.Test.YtainocdbapnaaaaCrvTrod
import Derived.Test.YtainocdbapnaaaaRefCrvC
import Derived.Test.YtainocdbapnaaaaRefCrvF
namespace Go.Proofs.Ytainocdbapnaaaa.curveCuts
open Go.ChangeShapes Go.WideShapes Go.ChangeAt Go.RowKit Go.Shelf

set_option maxHeartbeats 16000000 in
set_option maxRecDepth 100000 in
theorem walk (c : Crv) (h : (I64 c.px ∧ I64 c.py) ∧ (I64 c.qx ∧ I64 c.qy) ∧ (I64 c.rx ∧ I64 c.ry) ∧ (I64 c.sx ∧ I64 c.sy)) (w : World) :
    Calls Try.prog 3 #[c.val] w fun e w' => e = .returned (.bool true) ∧ Below w.heap.size w w' := by
  have K := Lib.hid (fun w => wakes11 w)
  have RC := Lib.hid (fun w => cright11 c w h)
  have RR := Lib.hid (fun w => rright11 c w)
  clear h
  by_cases hr : c.right
  · rw [decide_eq_true hr] at RC RR
    have CT := Lib.hid (fun w => ccut11 c w hr)
    have RT := Lib.hid (fun w => rcut11 c w hr)
    have CF := Lib.hid (fun w => cflat11 c w hr)
    have RF := Lib.hid (fun w => rflat11 c w hr)
    have BK := Lib.hid (fun w => cback11 c w)
    generalize c.cutA = a at *
    generalize c.cutB = b at *
    generalize decide c.flat = D at *
    unfold Crv.back at BK
    clear hr
    obtain ⟨px, py, qx, qy, rx, ry, sx, sy⟩ := c
    obtain ⟨a0, a1, a2, a3, a4, a5, a6, a7⟩ := a
    obtain ⟨f0, f1, f2, f3, f4, f5, f6, f7⟩ := b
    unfold Crv.val Crv.arr at *
    dsimp only at *
    have k1 := CBox.new w 25 #[.int .i64 px, .int .i64 py, .int .i64 qx, .int .i64 qy, .int .i64 rx, .int .i64 ry, .int .i64 sx, .int .i64 sy]
    have HC0 := Lib.hid k1
    have HB0 := Lib.hid ((Below.refl w.heap.size w).alloc (Nat.le_refl _) (.cells #[.int .i64 px, .int .i64 py, .int .i64 qx, .int .i64 qy, .int .i64 rx, .int .i64 ry, .int .i64 sx, .int .i64 sy] 25))
    clear k1
    go_enter Try.func3, Try.ntmps3
    go_upto_region 1 with fail
    generalize w.alloc (.cells #[.int .i64 px, .int .i64 py, .int .i64 qx, .int .i64 qy, .int .i64 rx, .int .i64 ry, .int .i64 sx, .int .i64 sy] 25) = w1 at *
    go_wp2_with fail
    refine (K.out _).mono ?_
    rintro e w2 ⟨rfl, b1⟩
    have HB1 := Lib.hid (HB0.out.trans (b1.mono HB0.out.size))
    have HC1 := Lib.hid (HC0.out.next b1)
    clear b1
    go_upto_region 3 with fail
    have xC0 : w2.cell? ⟨w.heap.size, 0, none⟩ = some (.int .i64 px) := HC1.out.c 0 rfl
    have xC1 : w2.cell? ⟨w.heap.size, 1, none⟩ = some (.int .i64 py) := HC1.out.c 1 rfl
    have xC2 : w2.cell? ⟨w.heap.size, 2, none⟩ = some (.int .i64 qx) := HC1.out.c 2 rfl
    have xC3 : w2.cell? ⟨w.heap.size, 3, none⟩ = some (.int .i64 qy) := HC1.out.c 3 rfl
    have xC4 : w2.cell? ⟨w.heap.size, 4, none⟩ = some (.int .i64 rx) := HC1.out.c 4 rfl
    have xC5 : w2.cell? ⟨w.heap.size, 5, none⟩ = some (.int .i64 ry) := HC1.out.c 5 rfl
    have xC6 : w2.cell? ⟨w.heap.size, 6, none⟩ = some (.int .i64 sx) := HC1.out.c 6 rfl
    have xC7 : w2.cell? ⟨w.heap.size, 7, none⟩ = some (.int .i64 sy) := HC1.out.c 7 rfl
    have HBz := Lib.hid (Below.refl w2.heap.size w2)
    have HBd := Lib.hid HBz.out.drew
    go_region_held3 (fun w' => w'.cell? ⟨w.heap.size, 0, none⟩ = some (.int .i64 px) ∧ w'.cell? ⟨w.heap.size, 1, none⟩ = some (.int .i64 py) ∧ w'.cell? ⟨w.heap.size, 2, none⟩ = some (.int .i64 qx) ∧ w'.cell? ⟨w.heap.size, 3, none⟩ = some (.int .i64 qy) ∧ w'.cell? ⟨w.heap.size, 4, none⟩ = some (.int .i64 rx) ∧ w'.cell? ⟨w.heap.size, 5, none⟩ = some (.int .i64 ry) ∧ w'.cell? ⟨w.heap.size, 6, none⟩ = some (.int .i64 sx) ∧ w'.cell? ⟨w.heap.size, 7, none⟩ = some (.int .i64 sy)) (first | (refine ⟨?_, ?_, ?_, ?_, ?_, ?_, ?_, ?_⟩ <;> first | with_reducible assumption) | (simp [go_sem, *]; done))
      (first
      | (go_at_call 9; (with_reducible refine (RC.out _).mono ?_); rintro e v1 ⟨rfl, bc1⟩; have HBc1 := Lib.hid (HBd.out.trans (bc1.mono HBd.out.size)); clear xC0 xC1 xC2 xC3 xC4 xC5 xC6 xC7; have hC_ := HC1.out.next HBc1.out; have xC0 : v1.cell? ⟨w.heap.size, 0, none⟩ = some (.int .i64 px) := hC_.c 0 rfl; have xC1 : v1.cell? ⟨w.heap.size, 1, none⟩ = some (.int .i64 py) := hC_.c 1 rfl; have xC2 : v1.cell? ⟨w.heap.size, 2, none⟩ = some (.int .i64 qx) := hC_.c 2 rfl; have xC3 : v1.cell? ⟨w.heap.size, 3, none⟩ = some (.int .i64 qy) := hC_.c 3 rfl; have xC4 : v1.cell? ⟨w.heap.size, 4, none⟩ = some (.int .i64 rx) := hC_.c 4 rfl; have xC5 : v1.cell? ⟨w.heap.size, 5, none⟩ = some (.int .i64 ry) := hC_.c 5 rfl; have xC6 : v1.cell? ⟨w.heap.size, 6, none⟩ = some (.int .i64 sx) := hC_.c 6 rfl; have xC7 : v1.cell? ⟨w.heap.size, 7, none⟩ = some (.int .i64 sy) := hC_.c 7 rfl; clear hC_; clear bc1)
      | (go_at_call 10; (with_reducible refine (RR.out _).mono ?_); rintro e v2 ⟨rfl, bc2⟩; have HBc2 := Lib.hid (HBc1.out.trans (bc2.mono HBc1.out.size)); clear xC0 xC1 xC2 xC3 xC4 xC5 xC6 xC7; have hC_ := HC1.out.next HBc2.out; have xC0 : v2.cell? ⟨w.heap.size, 0, none⟩ = some (.int .i64 px) := hC_.c 0 rfl; have xC1 : v2.cell? ⟨w.heap.size, 1, none⟩ = some (.int .i64 py) := hC_.c 1 rfl; have xC2 : v2.cell? ⟨w.heap.size, 2, none⟩ = some (.int .i64 qx) := hC_.c 2 rfl; have xC3 : v2.cell? ⟨w.heap.size, 3, none⟩ = some (.int .i64 qy) := hC_.c 3 rfl; have xC4 : v2.cell? ⟨w.heap.size, 4, none⟩ = some (.int .i64 rx) := hC_.c 4 rfl; have xC5 : v2.cell? ⟨w.heap.size, 5, none⟩ = some (.int .i64 ry) := hC_.c 5 rfl; have xC6 : v2.cell? ⟨w.heap.size, 6, none⟩ = some (.int .i64 sx) := hC_.c 6 rfl; have xC7 : v2.cell? ⟨w.heap.size, 7, none⟩ = some (.int .i64 sy) := hC_.c 7 rfl; clear hC_; clear bc2)
      )
    clear xC0 xC1 xC2 xC3 xC4 xC5 xC6 xC7
    have HB2 := Lib.hid (HB1.out.trans (HBc2.out.mono HB1.out.size))
    have HC2 := Lib.hid (HC1.out.next HBc2.out)
    generalize v2 = w3 at *
    go_upto_region 5 with fail
    have xC0 : w3.cell? ⟨w.heap.size, 0, none⟩ = some (.int .i64 px) := HC2.out.c 0 rfl
    have xC1 : w3.cell? ⟨w.heap.size, 1, none⟩ = some (.int .i64 py) := HC2.out.c 1 rfl
    have xC2 : w3.cell? ⟨w.heap.size, 2, none⟩ = some (.int .i64 qx) := HC2.out.c 2 rfl
    have xC3 : w3.cell? ⟨w.heap.size, 3, none⟩ = some (.int .i64 qy) := HC2.out.c 3 rfl
    have xC4 : w3.cell? ⟨w.heap.size, 4, none⟩ = some (.int .i64 rx) := HC2.out.c 4 rfl
    have xC5 : w3.cell? ⟨w.heap.size, 5, none⟩ = some (.int .i64 ry) := HC2.out.c 5 rfl
    have xC6 : w3.cell? ⟨w.heap.size, 6, none⟩ = some (.int .i64 sx) := HC2.out.c 6 rfl
    have xC7 : w3.cell? ⟨w.heap.size, 7, none⟩ = some (.int .i64 sy) := HC2.out.c 7 rfl
    go_wp2_with fail
    refine (RR.out _).mono ?_
    rintro e w4 ⟨rfl, b3⟩
    clear xC0 xC1 xC2 xC3 xC4 xC5 xC6 xC7
    have HB3 := Lib.hid (HB2.out.trans (b3.mono HB2.out.size))
    have HC3 := Lib.hid (HC2.out.next b3)
    clear b3
    have xC0 : w4.cell? ⟨w.heap.size, 0, none⟩ = some (.int .i64 px) := HC3.out.c 0 rfl
    have xC1 : w4.cell? ⟨w.heap.size, 1, none⟩ = some (.int .i64 py) := HC3.out.c 1 rfl
    have xC2 : w4.cell? ⟨w.heap.size, 2, none⟩ = some (.int .i64 qx) := HC3.out.c 2 rfl
    have xC3 : w4.cell? ⟨w.heap.size, 3, none⟩ = some (.int .i64 qy) := HC3.out.c 3 rfl
    have xC4 : w4.cell? ⟨w.heap.size, 4, none⟩ = some (.int .i64 rx) := HC3.out.c 4 rfl
    have xC5 : w4.cell? ⟨w.heap.size, 5, none⟩ = some (.int .i64 ry) := HC3.out.c 5 rfl
    have xC6 : w4.cell? ⟨w.heap.size, 6, none⟩ = some (.int .i64 sx) := HC3.out.c 6 rfl
    have xC7 : w4.cell? ⟨w.heap.size, 7, none⟩ = some (.int .i64 sy) := HC3.out.c 7 rfl
    go_wp2_with fail
    refine (CT.out _).mono ?_
    rintro e w5 ⟨rfl, b4⟩
    clear xC0 xC1 xC2 xC3 xC4 xC5 xC6 xC7
    have HB4 := Lib.hid (HB3.out.trans (b4.mono HB3.out.size))
    have HC4 := Lib.hid (HC3.out.next b4)
    clear b4
    obtain ⟨k1, k2, k3⟩ := boxes_two w5 #[.int .i64 a0, .int .i64 a1, .int .i64 a2, .int .i64 a3, .int .i64 a4, .int .i64 a5, .int .i64 a6, .int .i64 a7] #[.int .i64 f0, .int .i64 f1, .int .i64 f2, .int .i64 f3, .int .i64 f4, .int .i64 f5, .int .i64 f6, .int .i64 f7] 25 25
    have b5 := k3
    have HB5 := Lib.hid (HB4.out.trans (b5.mono HB4.out.size))
    have HC5 := Lib.hid (HC4.out.next b5)
    clear b5
    have HA5 := Lib.hid k1; have HD5 := Lib.hid k2
    clear k1 k2 k3
    go_upto_region 8 with fail
    generalize ((w5.alloc (.cells #[.int .i64 a0, .int .i64 a1, .int .i64 a2, .int .i64 a3, .int .i64 a4, .int .i64 a5, .int .i64 a6, .int .i64 a7] 25)).alloc (.cells #[.int .i64 f0, .int .i64 f1, .int .i64 f2, .int .i64 f3, .int .i64 f4, .int .i64 f5, .int .i64 f6, .int .i64 f7] 25)) = w6 at *
    generalize w5.heap.size = aq at *
    have xC0 : w6.cell? ⟨w.heap.size, 0, none⟩ = some (.int .i64 px) := HC5.out.c 0 rfl
    have xC1 : w6.cell? ⟨w.heap.size, 1, none⟩ = some (.int .i64 py) := HC5.out.c 1 rfl
    have xC2 : w6.cell? ⟨w.heap.size, 2, none⟩ = some (.int .i64 qx) := HC5.out.c 2 rfl
    have xC3 : w6.cell? ⟨w.heap.size, 3, none⟩ = some (.int .i64 qy) := HC5.out.c 3 rfl
    have xC4 : w6.cell? ⟨w.heap.size, 4, none⟩ = some (.int .i64 rx) := HC5.out.c 4 rfl
    have xC5 : w6.cell? ⟨w.heap.size, 5, none⟩ = some (.int .i64 ry) := HC5.out.c 5 rfl
    have xC6 : w6.cell? ⟨w.heap.size, 6, none⟩ = some (.int .i64 sx) := HC5.out.c 6 rfl
    have xC7 : w6.cell? ⟨w.heap.size, 7, none⟩ = some (.int .i64 sy) := HC5.out.c 7 rfl
    go_wp2_with fail
    refine (RT.out _).mono ?_
    rintro e w7 ⟨rfl, b6⟩
    clear xC0 xC1 xC2 xC3 xC4 xC5 xC6 xC7
    have HB6 := Lib.hid (HB5.out.trans (b6.mono HB5.out.size))
    have HC6 := Lib.hid (HC5.out.next b6)
    have HA6 := Lib.hid (HA5.out.next b6)
    have HD6 := Lib.hid (HD5.out.next b6)
    clear b6
    obtain ⟨k1, k2, k3⟩ := boxes_two w7 #[.int .i64 a0, .int .i64 a1, .int .i64 a2, .int .i64 a3, .int .i64 a4, .int .i64 a5, .int .i64 a6, .int .i64 a7] #[.int .i64 f0, .int .i64 f1, .int .i64 f2, .int .i64 f3, .int .i64 f4, .int .i64 f5, .int .i64 f6, .int .i64 f7] 25 25
    have b7 := k3
    have HB7 := Lib.hid (HB6.out.trans (b7.mono HB6.out.size))
    have HC7 := Lib.hid (HC6.out.next b7)
    have HA7 := Lib.hid (HA6.out.next b7)
    have HD7 := Lib.hid (HD6.out.next b7)
    clear b7
    have HX7 := Lib.hid k1; have HY7 := Lib.hid k2
    clear k1 k2 k3
    go_upto_region 9 with fail
    generalize ((w7.alloc (.cells #[.int .i64 a0, .int .i64 a1, .int .i64 a2, .int .i64 a3, .int .i64 a4, .int .i64 a5, .int .i64 a6, .int .i64 a7] 25)).alloc (.cells #[.int .i64 f0, .int .i64 f1, .int .i64 f2, .int .i64 f3, .int .i64 f4, .int .i64 f5, .int .i64 f6, .int .i64 f7] 25)) = w8 at *
    generalize w7.heap.size = xq at *
    have eD : (D == D) = true := by cases D <;> rfl
    have xC0 : w8.cell? ⟨w.heap.size, 0, none⟩ = some (.int .i64 px) := HC7.out.c 0 rfl
    have xC1 : w8.cell? ⟨w.heap.size, 1, none⟩ = some (.int .i64 py) := HC7.out.c 1 rfl
    have xC2 : w8.cell? ⟨w.heap.size, 2, none⟩ = some (.int .i64 qx) := HC7.out.c 2 rfl
    have xC3 : w8.cell? ⟨w.heap.size, 3, none⟩ = some (.int .i64 qy) := HC7.out.c 3 rfl
    have xC4 : w8.cell? ⟨w.heap.size, 4, none⟩ = some (.int .i64 rx) := HC7.out.c 4 rfl
    have xC5 : w8.cell? ⟨w.heap.size, 5, none⟩ = some (.int .i64 ry) := HC7.out.c 5 rfl
    have xC6 : w8.cell? ⟨w.heap.size, 6, none⟩ = some (.int .i64 sx) := HC7.out.c 6 rfl
    have xC7 : w8.cell? ⟨w.heap.size, 7, none⟩ = some (.int .i64 sy) := HC7.out.c 7 rfl
    have xA0 : w8.cell? ⟨aq, 0, none⟩ = some (.int .i64 a0) := HA7.out.c 0 rfl
    have xA1 : w8.cell? ⟨aq, 1, none⟩ = some (.int .i64 a1) := HA7.out.c 1 rfl
    have xA2 : w8.cell? ⟨aq, 2, none⟩ = some (.int .i64 a2) := HA7.out.c 2 rfl
    have xA3 : w8.cell? ⟨aq, 3, none⟩ = some (.int .i64 a3) := HA7.out.c 3 rfl
    have xA4 : w8.cell? ⟨aq, 4, none⟩ = some (.int .i64 a4) := HA7.out.c 4 rfl
    have xA5 : w8.cell? ⟨aq, 5, none⟩ = some (.int .i64 a5) := HA7.out.c 5 rfl
    have xA6 : w8.cell? ⟨aq, 6, none⟩ = some (.int .i64 a6) := HA7.out.c 6 rfl
    have xA7 : w8.cell? ⟨aq, 7, none⟩ = some (.int .i64 a7) := HA7.out.c 7 rfl
    have xD0 : w8.cell? ⟨aq + 1, 0, none⟩ = some (.int .i64 f0) := HD7.out.c 0 rfl
    have xD1 : w8.cell? ⟨aq + 1, 1, none⟩ = some (.int .i64 f1) := HD7.out.c 1 rfl
    have xD2 : w8.cell? ⟨aq + 1, 2, none⟩ = some (.int .i64 f2) := HD7.out.c 2 rfl
    have xD3 : w8.cell? ⟨aq + 1, 3, none⟩ = some (.int .i64 f3) := HD7.out.c 3 rfl
    have xD4 : w8.cell? ⟨aq + 1, 4, none⟩ = some (.int .i64 f4) := HD7.out.c 4 rfl
    have xD5 : w8.cell? ⟨aq + 1, 5, none⟩ = some (.int .i64 f5) := HD7.out.c 5 rfl
    have xD6 : w8.cell? ⟨aq + 1, 6, none⟩ = some (.int .i64 f6) := HD7.out.c 6 rfl
    have xD7 : w8.cell? ⟨aq + 1, 7, none⟩ = some (.int .i64 f7) := HD7.out.c 7 rfl
    have xX0 : w8.cell? ⟨xq, 0, none⟩ = some (.int .i64 a0) := HX7.out.c 0 rfl
    have xX1 : w8.cell? ⟨xq, 1, none⟩ = some (.int .i64 a1) := HX7.out.c 1 rfl
    have xX2 : w8.cell? ⟨xq, 2, none⟩ = some (.int .i64 a2) := HX7.out.c 2 rfl
    have xX3 : w8.cell? ⟨xq, 3, none⟩ = some (.int .i64 a3) := HX7.out.c 3 rfl
    have xX4 : w8.cell? ⟨xq, 4, none⟩ = some (.int .i64 a4) := HX7.out.c 4 rfl
    have xX5 : w8.cell? ⟨xq, 5, none⟩ = some (.int .i64 a5) := HX7.out.c 5 rfl
    have xX6 : w8.cell? ⟨xq, 6, none⟩ = some (.int .i64 a6) := HX7.out.c 6 rfl
    have xX7 : w8.cell? ⟨xq, 7, none⟩ = some (.int .i64 a7) := HX7.out.c 7 rfl
    have xY0 : w8.cell? ⟨xq + 1, 0, none⟩ = some (.int .i64 f0) := HY7.out.c 0 rfl
    have xY1 : w8.cell? ⟨xq + 1, 1, none⟩ = some (.int .i64 f1) := HY7.out.c 1 rfl
    have xY2 : w8.cell? ⟨xq + 1, 2, none⟩ = some (.int .i64 f2) := HY7.out.c 2 rfl
    have xY3 : w8.cell? ⟨xq + 1, 3, none⟩ = some (.int .i64 f3) := HY7.out.c 3 rfl
    have xY4 : w8.cell? ⟨xq + 1, 4, none⟩ = some (.int .i64 f4) := HY7.out.c 4 rfl
    have xY5 : w8.cell? ⟨xq + 1, 5, none⟩ = some (.int .i64 f5) := HY7.out.c 5 rfl
    have xY6 : w8.cell? ⟨xq + 1, 6, none⟩ = some (.int .i64 f6) := HY7.out.c 6 rfl
    have xY7 : w8.cell? ⟨xq + 1, 7, none⟩ = some (.int .i64 f7) := HY7.out.c 7 rfl
    have HBz := Lib.hid (Below.refl w8.heap.size w8)
    have HBd := Lib.hid HBz.out.drew
    go_region_held3 (fun w' => w'.cell? ⟨w.heap.size, 0, none⟩ = some (.int .i64 px) ∧ w'.cell? ⟨w.heap.size, 1, none⟩ = some (.int .i64 py) ∧ w'.cell? ⟨w.heap.size, 2, none⟩ = some (.int .i64 qx) ∧ w'.cell? ⟨w.heap.size, 3, none⟩ = some (.int .i64 qy) ∧ w'.cell? ⟨w.heap.size, 4, none⟩ = some (.int .i64 rx) ∧ w'.cell? ⟨w.heap.size, 5, none⟩ = some (.int .i64 ry) ∧ w'.cell? ⟨w.heap.size, 6, none⟩ = some (.int .i64 sx) ∧ w'.cell? ⟨w.heap.size, 7, none⟩ = some (.int .i64 sy) ∧ w'.cell? ⟨aq, 0, none⟩ = some (.int .i64 a0) ∧ w'.cell? ⟨aq, 1, none⟩ = some (.int .i64 a1) ∧ w'.cell? ⟨aq, 2, none⟩ = some (.int .i64 a2) ∧ w'.cell? ⟨aq, 3, none⟩ = some (.int .i64 a3) ∧ w'.cell? ⟨aq, 4, none⟩ = some (.int .i64 a4) ∧ w'.cell? ⟨aq, 5, none⟩ = some (.int .i64 a5) ∧ w'.cell? ⟨aq, 6, none⟩ = some (.int .i64 a6) ∧ w'.cell? ⟨aq, 7, none⟩ = some (.int .i64 a7) ∧ w'.cell? ⟨aq + 1, 0, none⟩ = some (.int .i64 f0) ∧ w'.cell? ⟨aq + 1, 1, none⟩ = some (.int .i64 f1) ∧ w'.cell? ⟨aq + 1, 2, none⟩ = some (.int .i64 f2) ∧ w'.cell? ⟨aq + 1, 3, none⟩ = some (.int .i64 f3) ∧ w'.cell? ⟨aq + 1, 4, none⟩ = some (.int .i64 f4) ∧ w'.cell? ⟨aq + 1, 5, none⟩ = some (.int .i64 f5) ∧ w'.cell? ⟨aq + 1, 6, none⟩ = some (.int .i64 f6) ∧ w'.cell? ⟨aq + 1, 7, none⟩ = some (.int .i64 f7) ∧ w'.cell? ⟨xq, 0, none⟩ = some (.int .i64 a0) ∧ w'.cell? ⟨xq, 1, none⟩ = some (.int .i64 a1) ∧ w'.cell? ⟨xq, 2, none⟩ = some (.int .i64 a2) ∧ w'.cell? ⟨xq, 3, none⟩ = some (.int .i64 a3) ∧ w'.cell? ⟨xq, 4, none⟩ = some (.int .i64 a4) ∧ w'.cell? ⟨xq, 5, none⟩ = some (.int .i64 a5) ∧ w'.cell? ⟨xq, 6, none⟩ = some (.int .i64 a6) ∧ w'.cell? ⟨xq, 7, none⟩ = some (.int .i64 a7) ∧ w'.cell? ⟨xq + 1, 0, none⟩ = some (.int .i64 f0) ∧ w'.cell? ⟨xq + 1, 1, none⟩ = some (.int .i64 f1) ∧ w'.cell? ⟨xq + 1, 2, none⟩ = some (.int .i64 f2) ∧ w'.cell? ⟨xq + 1, 3, none⟩ = some (.int .i64 f3) ∧ w'.cell? ⟨xq + 1, 4, none⟩ = some (.int .i64 f4) ∧ w'.cell? ⟨xq + 1, 5, none⟩ = some (.int .i64 f5) ∧ w'.cell? ⟨xq + 1, 6, none⟩ = some (.int .i64 f6) ∧ w'.cell? ⟨xq + 1, 7, none⟩ = some (.int .i64 f7)) (first | (refine ⟨?_, ?_, ?_, ?_, ?_, ?_, ?_, ?_, ?_, ?_, ?_, ?_, ?_, ?_, ?_, ?_, ?_, ?_, ?_, ?_, ?_, ?_, ?_, ?_, ?_, ?_, ?_, ?_, ?_, ?_, ?_, ?_, ?_, ?_, ?_, ?_, ?_, ?_, ?_, ?_⟩ <;> first | with_reducible assumption) | (simp [go_sem, *]; done))
      (first
      | (go_at_call 13; (with_reducible refine (CF.out _).mono ?_); rintro e v1 ⟨rfl, bc1⟩; have HBc1 := Lib.hid (HBd.out.trans (bc1.mono HBd.out.size)); clear xC0 xC1 xC2 xC3 xC4 xC5 xC6 xC7 xA0 xA1 xA2 xA3 xA4 xA5 xA6 xA7 xD0 xD1 xD2 xD3 xD4 xD5 xD6 xD7 xX0 xX1 xX2 xX3 xX4 xX5 xX6 xX7 xY0 xY1 xY2 xY3 xY4 xY5 xY6 xY7; have hC_ := HC7.out.next HBc1.out; have xC0 : v1.cell? ⟨w.heap.size, 0, none⟩ = some (.int .i64 px) := hC_.c 0 rfl; have xC1 : v1.cell? ⟨w.heap.size, 1, none⟩ = some (.int .i64 py) := hC_.c 1 rfl; have xC2 : v1.cell? ⟨w.heap.size, 2, none⟩ = some (.int .i64 qx) := hC_.c 2 rfl; have xC3 : v1.cell? ⟨w.heap.size, 3, none⟩ = some (.int .i64 qy) := hC_.c 3 rfl; have xC4 : v1.cell? ⟨w.heap.size, 4, none⟩ = some (.int .i64 rx) := hC_.c 4 rfl; have xC5 : v1.cell? ⟨w.heap.size, 5, none⟩ = some (.int .i64 ry) := hC_.c 5 rfl; have xC6 : v1.cell? ⟨w.heap.size, 6, none⟩ = some (.int .i64 sx) := hC_.c 6 rfl; have xC7 : v1.cell? ⟨w.heap.size, 7, none⟩ = some (.int .i64 sy) := hC_.c 7 rfl; clear hC_; have hA_ := HA7.out.next HBc1.out; have xA0 : v1.cell? ⟨aq, 0, none⟩ = some (.int .i64 a0) := hA_.c 0 rfl; have xA1 : v1.cell? ⟨aq, 1, none⟩ = some (.int .i64 a1) := hA_.c 1 rfl; have xA2 : v1.cell? ⟨aq, 2, none⟩ = some (.int .i64 a2) := hA_.c 2 rfl; have xA3 : v1.cell? ⟨aq, 3, none⟩ = some (.int .i64 a3) := hA_.c 3 rfl; have xA4 : v1.cell? ⟨aq, 4, none⟩ = some (.int .i64 a4) := hA_.c 4 rfl; have xA5 : v1.cell? ⟨aq, 5, none⟩ = some (.int .i64 a5) := hA_.c 5 rfl; have xA6 : v1.cell? ⟨aq, 6, none⟩ = some (.int .i64 a6) := hA_.c 6 rfl; have xA7 : v1.cell? ⟨aq, 7, none⟩ = some (.int .i64 a7) := hA_.c 7 rfl; clear hA_; have hD_ := HD7.out.next HBc1.out; have xD0 : v1.cell? ⟨aq + 1, 0, none⟩ = some (.int .i64 f0) := hD_.c 0 rfl; have xD1 : v1.cell? ⟨aq + 1, 1, none⟩ = some (.int .i64 f1) := hD_.c 1 rfl; have xD2 : v1.cell? ⟨aq + 1, 2, none⟩ = some (.int .i64 f2) := hD_.c 2 rfl; have xD3 : v1.cell? ⟨aq + 1, 3, none⟩ = some (.int .i64 f3) := hD_.c 3 rfl; have xD4 : v1.cell? ⟨aq + 1, 4, none⟩ = some (.int .i64 f4) := hD_.c 4 rfl; have xD5 : v1.cell? ⟨aq + 1, 5, none⟩ = some (.int .i64 f5) := hD_.c 5 rfl; have xD6 : v1.cell? ⟨aq + 1, 6, none⟩ = some (.int .i64 f6) := hD_.c 6 rfl; have xD7 : v1.cell? ⟨aq + 1, 7, none⟩ = some (.int .i64 f7) := hD_.c 7 rfl; clear hD_; have hX_ := HX7.out.next HBc1.out; have xX0 : v1.cell? ⟨xq, 0, none⟩ = some (.int .i64 a0) := hX_.c 0 rfl; have xX1 : v1.cell? ⟨xq, 1, none⟩ = some (.int .i64 a1) := hX_.c 1 rfl; have xX2 : v1.cell? ⟨xq, 2, none⟩ = some (.int .i64 a2) := hX_.c 2 rfl; have xX3 : v1.cell? ⟨xq, 3, none⟩ = some (.int .i64 a3) := hX_.c 3 rfl; have xX4 : v1.cell? ⟨xq, 4, none⟩ = some (.int .i64 a4) := hX_.c 4 rfl; have xX5 : v1.cell? ⟨xq, 5, none⟩ = some (.int .i64 a5) := hX_.c 5 rfl; have xX6 : v1.cell? ⟨xq, 6, none⟩ = some (.int .i64 a6) := hX_.c 6 rfl; have xX7 : v1.cell? ⟨xq, 7, none⟩ = some (.int .i64 a7) := hX_.c 7 rfl; clear hX_; have hY_ := HY7.out.next HBc1.out; have xY0 : v1.cell? ⟨xq + 1, 0, none⟩ = some (.int .i64 f0) := hY_.c 0 rfl; have xY1 : v1.cell? ⟨xq + 1, 1, none⟩ = some (.int .i64 f1) := hY_.c 1 rfl; have xY2 : v1.cell? ⟨xq + 1, 2, none⟩ = some (.int .i64 f2) := hY_.c 2 rfl; have xY3 : v1.cell? ⟨xq + 1, 3, none⟩ = some (.int .i64 f3) := hY_.c 3 rfl; have xY4 : v1.cell? ⟨xq + 1, 4, none⟩ = some (.int .i64 f4) := hY_.c 4 rfl; have xY5 : v1.cell? ⟨xq + 1, 5, none⟩ = some (.int .i64 f5) := hY_.c 5 rfl; have xY6 : v1.cell? ⟨xq + 1, 6, none⟩ = some (.int .i64 f6) := hY_.c 6 rfl; have xY7 : v1.cell? ⟨xq + 1, 7, none⟩ = some (.int .i64 f7) := hY_.c 7 rfl; clear hY_; clear bc1)
      | (go_at_call 14; (with_reducible refine (RF.out _).mono ?_); rintro e v2 ⟨rfl, bc2⟩; have HBc2 := Lib.hid (HBc1.out.trans (bc2.mono HBc1.out.size)); clear xC0 xC1 xC2 xC3 xC4 xC5 xC6 xC7 xA0 xA1 xA2 xA3 xA4 xA5 xA6 xA7 xD0 xD1 xD2 xD3 xD4 xD5 xD6 xD7 xX0 xX1 xX2 xX3 xX4 xX5 xX6 xX7 xY0 xY1 xY2 xY3 xY4 xY5 xY6 xY7; have hC_ := HC7.out.next HBc2.out; have xC0 : v2.cell? ⟨w.heap.size, 0, none⟩ = some (.int .i64 px) := hC_.c 0 rfl; have xC1 : v2.cell? ⟨w.heap.size, 1, none⟩ = some (.int .i64 py) := hC_.c 1 rfl; have xC2 : v2.cell? ⟨w.heap.size, 2, none⟩ = some (.int .i64 qx) := hC_.c 2 rfl; have xC3 : v2.cell? ⟨w.heap.size, 3, none⟩ = some (.int .i64 qy) := hC_.c 3 rfl; have xC4 : v2.cell? ⟨w.heap.size, 4, none⟩ = some (.int .i64 rx) := hC_.c 4 rfl; have xC5 : v2.cell? ⟨w.heap.size, 5, none⟩ = some (.int .i64 ry) := hC_.c 5 rfl; have xC6 : v2.cell? ⟨w.heap.size, 6, none⟩ = some (.int .i64 sx) := hC_.c 6 rfl; have xC7 : v2.cell? ⟨w.heap.size, 7, none⟩ = some (.int .i64 sy) := hC_.c 7 rfl; clear hC_; have hA_ := HA7.out.next HBc2.out; have xA0 : v2.cell? ⟨aq, 0, none⟩ = some (.int .i64 a0) := hA_.c 0 rfl; have xA1 : v2.cell? ⟨aq, 1, none⟩ = some (.int .i64 a1) := hA_.c 1 rfl; have xA2 : v2.cell? ⟨aq, 2, none⟩ = some (.int .i64 a2) := hA_.c 2 rfl; have xA3 : v2.cell? ⟨aq, 3, none⟩ = some (.int .i64 a3) := hA_.c 3 rfl; have xA4 : v2.cell? ⟨aq, 4, none⟩ = some (.int .i64 a4) := hA_.c 4 rfl; have xA5 : v2.cell? ⟨aq, 5, none⟩ = some (.int .i64 a5) := hA_.c 5 rfl; have xA6 : v2.cell? ⟨aq, 6, none⟩ = some (.int .i64 a6) := hA_.c 6 rfl; have xA7 : v2.cell? ⟨aq, 7, none⟩ = some (.int .i64 a7) := hA_.c 7 rfl; clear hA_; have hD_ := HD7.out.next HBc2.out; have xD0 : v2.cell? ⟨aq + 1, 0, none⟩ = some (.int .i64 f0) := hD_.c 0 rfl; have xD1 : v2.cell? ⟨aq + 1, 1, none⟩ = some (.int .i64 f1) := hD_.c 1 rfl; have xD2 : v2.cell? ⟨aq + 1, 2, none⟩ = some (.int .i64 f2) := hD_.c 2 rfl; have xD3 : v2.cell? ⟨aq + 1, 3, none⟩ = some (.int .i64 f3) := hD_.c 3 rfl; have xD4 : v2.cell? ⟨aq + 1, 4, none⟩ = some (.int .i64 f4) := hD_.c 4 rfl; have xD5 : v2.cell? ⟨aq + 1, 5, none⟩ = some (.int .i64 f5) := hD_.c 5 rfl; have xD6 : v2.cell? ⟨aq + 1, 6, none⟩ = some (.int .i64 f6) := hD_.c 6 rfl; have xD7 : v2.cell? ⟨aq + 1, 7, none⟩ = some (.int .i64 f7) := hD_.c 7 rfl; clear hD_; have hX_ := HX7.out.next HBc2.out; have xX0 : v2.cell? ⟨xq, 0, none⟩ = some (.int .i64 a0) := hX_.c 0 rfl; have xX1 : v2.cell? ⟨xq, 1, none⟩ = some (.int .i64 a1) := hX_.c 1 rfl; have xX2 : v2.cell? ⟨xq, 2, none⟩ = some (.int .i64 a2) := hX_.c 2 rfl; have xX3 : v2.cell? ⟨xq, 3, none⟩ = some (.int .i64 a3) := hX_.c 3 rfl; have xX4 : v2.cell? ⟨xq, 4, none⟩ = some (.int .i64 a4) := hX_.c 4 rfl; have xX5 : v2.cell? ⟨xq, 5, none⟩ = some (.int .i64 a5) := hX_.c 5 rfl; have xX6 : v2.cell? ⟨xq, 6, none⟩ = some (.int .i64 a6) := hX_.c 6 rfl; have xX7 : v2.cell? ⟨xq, 7, none⟩ = some (.int .i64 a7) := hX_.c 7 rfl; clear hX_; have hY_ := HY7.out.next HBc2.out; have xY0 : v2.cell? ⟨xq + 1, 0, none⟩ = some (.int .i64 f0) := hY_.c 0 rfl; have xY1 : v2.cell? ⟨xq + 1, 1, none⟩ = some (.int .i64 f1) := hY_.c 1 rfl; have xY2 : v2.cell? ⟨xq + 1, 2, none⟩ = some (.int .i64 f2) := hY_.c 2 rfl; have xY3 : v2.cell? ⟨xq + 1, 3, none⟩ = some (.int .i64 f3) := hY_.c 3 rfl; have xY4 : v2.cell? ⟨xq + 1, 4, none⟩ = some (.int .i64 f4) := hY_.c 4 rfl; have xY5 : v2.cell? ⟨xq + 1, 5, none⟩ = some (.int .i64 f5) := hY_.c 5 rfl; have xY6 : v2.cell? ⟨xq + 1, 6, none⟩ = some (.int .i64 f6) := hY_.c 6 rfl; have xY7 : v2.cell? ⟨xq + 1, 7, none⟩ = some (.int .i64 f7) := hY_.c 7 rfl; clear hY_; clear bc2)
      | (go_at_call 15; (with_reducible refine (BK.out _).mono ?_); rintro e v3 ⟨rfl, bc3⟩; have HBc3 := Lib.hid (HBc2.out.trans (bc3.mono HBc2.out.size)); clear xC0 xC1 xC2 xC3 xC4 xC5 xC6 xC7 xA0 xA1 xA2 xA3 xA4 xA5 xA6 xA7 xD0 xD1 xD2 xD3 xD4 xD5 xD6 xD7 xX0 xX1 xX2 xX3 xX4 xX5 xX6 xX7 xY0 xY1 xY2 xY3 xY4 xY5 xY6 xY7; have hC_ := HC7.out.next HBc3.out; have xC0 : v3.cell? ⟨w.heap.size, 0, none⟩ = some (.int .i64 px) := hC_.c 0 rfl; have xC1 : v3.cell? ⟨w.heap.size, 1, none⟩ = some (.int .i64 py) := hC_.c 1 rfl; have xC2 : v3.cell? ⟨w.heap.size, 2, none⟩ = some (.int .i64 qx) := hC_.c 2 rfl; have xC3 : v3.cell? ⟨w.heap.size, 3, none⟩ = some (.int .i64 qy) := hC_.c 3 rfl; have xC4 : v3.cell? ⟨w.heap.size, 4, none⟩ = some (.int .i64 rx) := hC_.c 4 rfl; have xC5 : v3.cell? ⟨w.heap.size, 5, none⟩ = some (.int .i64 ry) := hC_.c 5 rfl; have xC6 : v3.cell? ⟨w.heap.size, 6, none⟩ = some (.int .i64 sx) := hC_.c 6 rfl; have xC7 : v3.cell? ⟨w.heap.size, 7, none⟩ = some (.int .i64 sy) := hC_.c 7 rfl; clear hC_; have hA_ := HA7.out.next HBc3.out; have xA0 : v3.cell? ⟨aq, 0, none⟩ = some (.int .i64 a0) := hA_.c 0 rfl; have xA1 : v3.cell? ⟨aq, 1, none⟩ = some (.int .i64 a1) := hA_.c 1 rfl; have xA2 : v3.cell? ⟨aq, 2, none⟩ = some (.int .i64 a2) := hA_.c 2 rfl; have xA3 : v3.cell? ⟨aq, 3, none⟩ = some (.int .i64 a3) := hA_.c 3 rfl; have xA4 : v3.cell? ⟨aq, 4, none⟩ = some (.int .i64 a4) := hA_.c 4 rfl; have xA5 : v3.cell? ⟨aq, 5, none⟩ = some (.int .i64 a5) := hA_.c 5 rfl; have xA6 : v3.cell? ⟨aq, 6, none⟩ = some (.int .i64 a6) := hA_.c 6 rfl; have xA7 : v3.cell? ⟨aq, 7, none⟩ = some (.int .i64 a7) := hA_.c 7 rfl; clear hA_; have hD_ := HD7.out.next HBc3.out; have xD0 : v3.cell? ⟨aq + 1, 0, none⟩ = some (.int .i64 f0) := hD_.c 0 rfl; have xD1 : v3.cell? ⟨aq + 1, 1, none⟩ = some (.int .i64 f1) := hD_.c 1 rfl; have xD2 : v3.cell? ⟨aq + 1, 2, none⟩ = some (.int .i64 f2) := hD_.c 2 rfl; have xD3 : v3.cell? ⟨aq + 1, 3, none⟩ = some (.int .i64 f3) := hD_.c 3 rfl; have xD4 : v3.cell? ⟨aq + 1, 4, none⟩ = some (.int .i64 f4) := hD_.c 4 rfl; have xD5 : v3.cell? ⟨aq + 1, 5, none⟩ = some (.int .i64 f5) := hD_.c 5 rfl; have xD6 : v3.cell? ⟨aq + 1, 6, none⟩ = some (.int .i64 f6) := hD_.c 6 rfl; have xD7 : v3.cell? ⟨aq + 1, 7, none⟩ = some (.int .i64 f7) := hD_.c 7 rfl; clear hD_; have hX_ := HX7.out.next HBc3.out; have xX0 : v3.cell? ⟨xq, 0, none⟩ = some (.int .i64 a0) := hX_.c 0 rfl; have xX1 : v3.cell? ⟨xq, 1, none⟩ = some (.int .i64 a1) := hX_.c 1 rfl; have xX2 : v3.cell? ⟨xq, 2, none⟩ = some (.int .i64 a2) := hX_.c 2 rfl; have xX3 : v3.cell? ⟨xq, 3, none⟩ = some (.int .i64 a3) := hX_.c 3 rfl; have xX4 : v3.cell? ⟨xq, 4, none⟩ = some (.int .i64 a4) := hX_.c 4 rfl; have xX5 : v3.cell? ⟨xq, 5, none⟩ = some (.int .i64 a5) := hX_.c 5 rfl; have xX6 : v3.cell? ⟨xq, 6, none⟩ = some (.int .i64 a6) := hX_.c 6 rfl; have xX7 : v3.cell? ⟨xq, 7, none⟩ = some (.int .i64 a7) := hX_.c 7 rfl; clear hX_; have hY_ := HY7.out.next HBc3.out; have xY0 : v3.cell? ⟨xq + 1, 0, none⟩ = some (.int .i64 f0) := hY_.c 0 rfl; have xY1 : v3.cell? ⟨xq + 1, 1, none⟩ = some (.int .i64 f1) := hY_.c 1 rfl; have xY2 : v3.cell? ⟨xq + 1, 2, none⟩ = some (.int .i64 f2) := hY_.c 2 rfl; have xY3 : v3.cell? ⟨xq + 1, 3, none⟩ = some (.int .i64 f3) := hY_.c 3 rfl; have xY4 : v3.cell? ⟨xq + 1, 4, none⟩ = some (.int .i64 f4) := hY_.c 4 rfl; have xY5 : v3.cell? ⟨xq + 1, 5, none⟩ = some (.int .i64 f5) := hY_.c 5 rfl; have xY6 : v3.cell? ⟨xq + 1, 6, none⟩ = some (.int .i64 f6) := hY_.c 6 rfl; have xY7 : v3.cell? ⟨xq + 1, 7, none⟩ = some (.int .i64 f7) := hY_.c 7 rfl; clear hY_; clear bc3)
      )
    clear xC0 xC1 xC2 xC3 xC4 xC5 xC6 xC7 xA0 xA1 xA2 xA3 xA4 xA5 xA6 xA7 xD0 xD1 xD2 xD3 xD4 xD5 xD6 xD7 xX0 xX1 xX2 xX3 xX4 xX5 xX6 xX7 xY0 xY1 xY2 xY3 xY4 xY5 xY6 xY7
    have HB8 := Lib.hid (HB7.out.trans (HBc3.out.mono HB7.out.size))
    have HC8 := Lib.hid (HC7.out.next HBc3.out)
    have HA8 := Lib.hid (HA7.out.next HBc3.out)
    have HD8 := Lib.hid (HD7.out.next HBc3.out)
    have HX8 := Lib.hid (HX7.out.next HBc3.out)
    have HY8 := Lib.hid (HY7.out.next HBc3.out)
    generalize v3 = w9 at *
    go_wp2_with fail
    go_ret
    exact ⟨rfl, HB8.out⟩
  · rw [decide_eq_false hr] at RC RR
    clear hr
    obtain ⟨px, py, qx, qy, rx, ry, sx, sy⟩ := c
    unfold Crv.val Crv.arr at *
    dsimp only at *
    have k1 := CBox.new w 25 #[.int .i64 px, .int .i64 py, .int .i64 qx, .int .i64 qy, .int .i64 rx, .int .i64 ry, .int .i64 sx, .int .i64 sy]
    have HC0 := Lib.hid k1
    have HB0 := Lib.hid ((Below.refl w.heap.size w).alloc (Nat.le_refl _) (.cells #[.int .i64 px, .int .i64 py, .int .i64 qx, .int .i64 qy, .int .i64 rx, .int .i64 ry, .int .i64 sx, .int .i64 sy] 25))
    clear k1
    go_enter Try.func3, Try.ntmps3
    go_upto_region 1 with fail
    generalize w.alloc (.cells #[.int .i64 px, .int .i64 py, .int .i64 qx, .int .i64 qy, .int .i64 rx, .int .i64 ry, .int .i64 sx, .int .i64 sy] 25) = w1 at *
    go_wp2_with fail
    refine (K.out _).mono ?_
    rintro e w2 ⟨rfl, b1⟩
    have HB1 := Lib.hid (HB0.out.trans (b1.mono HB0.out.size))
    have HC1 := Lib.hid (HC0.out.next b1)
    clear b1
    go_upto_region 3 with fail
    have xC0 : w2.cell? ⟨w.heap.size, 0, none⟩ = some (.int .i64 px) := HC1.out.c 0 rfl
    have xC1 : w2.cell? ⟨w.heap.size, 1, none⟩ = some (.int .i64 py) := HC1.out.c 1 rfl
    have xC2 : w2.cell? ⟨w.heap.size, 2, none⟩ = some (.int .i64 qx) := HC1.out.c 2 rfl
    have xC3 : w2.cell? ⟨w.heap.size, 3, none⟩ = some (.int .i64 qy) := HC1.out.c 3 rfl
    have xC4 : w2.cell? ⟨w.heap.size, 4, none⟩ = some (.int .i64 rx) := HC1.out.c 4 rfl
    have xC5 : w2.cell? ⟨w.heap.size, 5, none⟩ = some (.int .i64 ry) := HC1.out.c 5 rfl
    have xC6 : w2.cell? ⟨w.heap.size, 6, none⟩ = some (.int .i64 sx) := HC1.out.c 6 rfl
    have xC7 : w2.cell? ⟨w.heap.size, 7, none⟩ = some (.int .i64 sy) := HC1.out.c 7 rfl
    have HBz := Lib.hid (Below.refl w2.heap.size w2)
    have HBd := Lib.hid HBz.out.drew
    go_region_held3 (fun w' => w'.cell? ⟨w.heap.size, 0, none⟩ = some (.int .i64 px) ∧ w'.cell? ⟨w.heap.size, 1, none⟩ = some (.int .i64 py) ∧ w'.cell? ⟨w.heap.size, 2, none⟩ = some (.int .i64 qx) ∧ w'.cell? ⟨w.heap.size, 3, none⟩ = some (.int .i64 qy) ∧ w'.cell? ⟨w.heap.size, 4, none⟩ = some (.int .i64 rx) ∧ w'.cell? ⟨w.heap.size, 5, none⟩ = some (.int .i64 ry) ∧ w'.cell? ⟨w.heap.size, 6, none⟩ = some (.int .i64 sx) ∧ w'.cell? ⟨w.heap.size, 7, none⟩ = some (.int .i64 sy)) (first | (refine ⟨?_, ?_, ?_, ?_, ?_, ?_, ?_, ?_⟩ <;> first | with_reducible assumption) | (simp [go_sem, *]; done))
      (first
      | (go_at_call 9; (with_reducible refine (RC.out _).mono ?_); rintro e v1 ⟨rfl, bc1⟩; have HBc1 := Lib.hid (HBd.out.trans (bc1.mono HBd.out.size)); clear xC0 xC1 xC2 xC3 xC4 xC5 xC6 xC7; have hC_ := HC1.out.next HBc1.out; have xC0 : v1.cell? ⟨w.heap.size, 0, none⟩ = some (.int .i64 px) := hC_.c 0 rfl; have xC1 : v1.cell? ⟨w.heap.size, 1, none⟩ = some (.int .i64 py) := hC_.c 1 rfl; have xC2 : v1.cell? ⟨w.heap.size, 2, none⟩ = some (.int .i64 qx) := hC_.c 2 rfl; have xC3 : v1.cell? ⟨w.heap.size, 3, none⟩ = some (.int .i64 qy) := hC_.c 3 rfl; have xC4 : v1.cell? ⟨w.heap.size, 4, none⟩ = some (.int .i64 rx) := hC_.c 4 rfl; have xC5 : v1.cell? ⟨w.heap.size, 5, none⟩ = some (.int .i64 ry) := hC_.c 5 rfl; have xC6 : v1.cell? ⟨w.heap.size, 6, none⟩ = some (.int .i64 sx) := hC_.c 6 rfl; have xC7 : v1.cell? ⟨w.heap.size, 7, none⟩ = some (.int .i64 sy) := hC_.c 7 rfl; clear hC_; clear bc1)
      | (go_at_call 10; (with_reducible refine (RR.out _).mono ?_); rintro e v2 ⟨rfl, bc2⟩; have HBc2 := Lib.hid (HBc1.out.trans (bc2.mono HBc1.out.size)); clear xC0 xC1 xC2 xC3 xC4 xC5 xC6 xC7; have hC_ := HC1.out.next HBc2.out; have xC0 : v2.cell? ⟨w.heap.size, 0, none⟩ = some (.int .i64 px) := hC_.c 0 rfl; have xC1 : v2.cell? ⟨w.heap.size, 1, none⟩ = some (.int .i64 py) := hC_.c 1 rfl; have xC2 : v2.cell? ⟨w.heap.size, 2, none⟩ = some (.int .i64 qx) := hC_.c 2 rfl; have xC3 : v2.cell? ⟨w.heap.size, 3, none⟩ = some (.int .i64 qy) := hC_.c 3 rfl; have xC4 : v2.cell? ⟨w.heap.size, 4, none⟩ = some (.int .i64 rx) := hC_.c 4 rfl; have xC5 : v2.cell? ⟨w.heap.size, 5, none⟩ = some (.int .i64 ry) := hC_.c 5 rfl; have xC6 : v2.cell? ⟨w.heap.size, 6, none⟩ = some (.int .i64 sx) := hC_.c 6 rfl; have xC7 : v2.cell? ⟨w.heap.size, 7, none⟩ = some (.int .i64 sy) := hC_.c 7 rfl; clear hC_; clear bc2)
      )
    clear xC0 xC1 xC2 xC3 xC4 xC5 xC6 xC7
    have HB2 := Lib.hid (HB1.out.trans (HBc2.out.mono HB1.out.size))
    have HC2 := Lib.hid (HC1.out.next HBc2.out)
    generalize v2 = w3 at *
    go_upto_region 5 with fail
    have xC0 : w3.cell? ⟨w.heap.size, 0, none⟩ = some (.int .i64 px) := HC2.out.c 0 rfl
    have xC1 : w3.cell? ⟨w.heap.size, 1, none⟩ = some (.int .i64 py) := HC2.out.c 1 rfl
    have xC2 : w3.cell? ⟨w.heap.size, 2, none⟩ = some (.int .i64 qx) := HC2.out.c 2 rfl
    have xC3 : w3.cell? ⟨w.heap.size, 3, none⟩ = some (.int .i64 qy) := HC2.out.c 3 rfl
    have xC4 : w3.cell? ⟨w.heap.size, 4, none⟩ = some (.int .i64 rx) := HC2.out.c 4 rfl
    have xC5 : w3.cell? ⟨w.heap.size, 5, none⟩ = some (.int .i64 ry) := HC2.out.c 5 rfl
    have xC6 : w3.cell? ⟨w.heap.size, 6, none⟩ = some (.int .i64 sx) := HC2.out.c 6 rfl
    have xC7 : w3.cell? ⟨w.heap.size, 7, none⟩ = some (.int .i64 sy) := HC2.out.c 7 rfl
    go_wp2_with fail
    refine (RR.out _).mono ?_
    rintro e w4 ⟨rfl, b3⟩
    clear xC0 xC1 xC2 xC3 xC4 xC5 xC6 xC7
    have HB3 := Lib.hid (HB2.out.trans (b3.mono HB2.out.size))
    have HC3 := Lib.hid (HC2.out.next b3)
    clear b3
    go_wp2_with fail
    go_ret
    exact ⟨rfl, HB3.out⟩
set_option maxRecDepth 100000 in
theorem lifted (os : Os) (started : os.Started) (H : Type) (enc : TypeId × Value → H) :
    ReturnsInHanded {} Try.checked os 3 .any (Rows.curveCutsSpec.pre6 enc Try.prog Try.f3 Rows.curveCutsRow.domain false) (Rows.curveCutsSpec.post enc Try.prog Try.f3 false true false false) := by
  refine returnsInHanded_of_change (C := Try.checked) own started (by kernel_rfl) Try.func3
    (ChangeSpec.witness6 (enc := enc) (C := Try.checked) false ⟨#[], #[.agg #[.int .i64 0, .int .i64 0, .int .i64 0, .int .i64 0, .int .i64 0, .int .i64 0, .int .i64 0, .int .i64 0]], []⟩ 8 (by kernel_rfl) (by kernel_rfl) (by kernel_rfl) (by kernel_rfl)) ?_
  intro W base args ds gs before hval0 hW hcnd _
  have hval : ∀ (j : Nat) t v, Try.f3.params[j]? = some t → args[j]? = some v → Value.okWide Try.prog W .any base t v := hval0
  have hW' := hW
  obtain ⟨p, q, hA0, hV, rfl, hfz, hnd⟩ := hW
  have hA : DataW.TrodAll enc Try.prog W 0 (fun _ => true) true Try.f3.params.toList args.toList ds p := hA0
  rw [Try.params3] at hA hval
  obtain ⟨v0, d0, rfl, rfl, h0⟩ := trodAll_one hA
  obtain ⟨rfl, rfl⟩ := trodVars_none hV
  obtain ⟨c0, rfl, w0⟩ := crv_of_trod Try.underlying25 (by kernel_rfl) rfl rfl rfl rfl Try.underlying23 (by kernel_rfl) rfl rfl rfl rfl rfl (by kernel_rfl) (by kernel_rfl) Try.underlying2 Try.underlying2 (hval 0 25 v0 rfl rfl) h0
  clear hA0 hval0
  simp only [List.append_nil] at hW'
  have lt0 : ∀ x ∈ p, x.block < W.heap.size := fun x hx => hW'.lt x (by simp [hx])
  refine (walk c0 w0 W).mono fun e W' ⟨he, hg⟩ => ?_
  subst he
  have b0' := Below.trod laidOut (by kernel_rfl) (of_decide_eq_true (by kernel_rfl)) h0 hg lt0
  exact ⟨_, rfl, ⟨_, _, _, [], _, [], hW', trodAll_mk1 (shut_bool Try.underlying4 _), trodAll_mk1 b0', rfl, hg.frame _, fun h => by cases h⟩⟩

/-- The given statement. -/
theorem proved : Rows.CurveCutsSaid :=
  OpenClaim.holds_of_wide 3 Try.f3 rfl rfl rfl rfl rfl rfl rfl ⟨rfl, rfl, rfl, rfl, rfl⟩ rfl rfl rfl rfl rfl (by kernel_rfl) Try.func3 (by kernel_rfl)
    (of_decide_eq_true (by kernel_rfl)) (by unfold Func.isWrapper; first | (rw [if_pos (by decide +kernel)]; kernel_rfl) | (rw [if_neg (by decide +kernel)]; exact ⟨rfl, rfl⟩))
    (fun os started H enc _ => lifted os started H enc)
end Go.Proofs.Ytainocdbapnaaaa.curveCuts
