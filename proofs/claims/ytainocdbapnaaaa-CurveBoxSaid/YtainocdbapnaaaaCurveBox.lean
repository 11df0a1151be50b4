/-
  PROVED: the statement of CurveBox, for every input: what a right curve is cut into, and its points, lie within the box of its four points. (Typed by a program: wip/gen_law11a.py.)
-/
import Derived.Test.YtainocdbapnaaaaRows
import Derived.Test.YtainocdbapnaaaaCrvWakes
import Derived.Test.YtainocdbapnaaaaCrvTrod
import Derived.Test.YtainocdbapnaaaaRefCrvF
import Derived.Test.YtainocdbapnaaaaCrvAt
import Derived.Test.YtainocdbapnaaaaAffCell
import Derived.Lib.MinMax
namespace Go.Proofs.Ytainocdbapnaaaa.curveBox
open Go.ChangeShapes Go.WideShapes Go.ChangeAt Go.RowKit Go.Shelf

def mn4 (a b c d : Int) : Int := min a (min b (min c d))
def mx4 (a b c d : Int) : Int := max a (max b (max c d))
/-- Within the box of four numbers. -/
theorem box4 (a b c d : Int) : (mn4 a b c d ≤ a ∧ a ≤ mx4 a b c d) ∧ (mn4 a b c d ≤ b ∧ b ≤ mx4 a b c d) ∧ (mn4 a b c d ≤ c ∧ c ≤ mx4 a b c d) ∧ (mn4 a b c d ≤ d ∧ d ≤ mx4 a b c d) := by unfold mn4 mx4; omega
theorem run_min_ints4 {P : Program} (w : World) (ts : Array TypeId) (t : TypeId) (k : IntKind) (x y z u : Int) :
    (Builtin.min_ ts t #[.int k x, .int k y, .int k z, .int k u]).run P w = .ok (.int k (mn4 x y z u)) w := by
  have e : ∀ x y : Int, (if y < x then y else x) = min x y := fun x y => by rw [Int.min_def]; split <;> split <;> omega
  simp [Builtin.min_, Builtin.min2, e, mn4, Int.min_assoc]
theorem run_max_ints4 {P : Program} (w : World) (ts : Array TypeId) (t : TypeId) (k : IntKind) (x y z u : Int) :
    (Builtin.max_ ts t #[.int k x, .int k y, .int k z, .int k u]).run P w = .ok (.int k (mx4 x y z u)) w := by
  have e : ∀ x y : Int, (if y > x then y else x) = max x y := fun x y => by rw [Int.max_def]; split <;> split <;> omega
  simp [Builtin.max_, Builtin.max2, e, mx4, Int.max_assoc]
attribute [local go_sem] run_min_ints4 run_max_ints4
set_option maxHeartbeats 16000000 in
set_option maxRecDepth 100000 in
theorem walk (c : Crv) (_h : (I64 c.px ∧ I64 c.py) ∧ (I64 c.qx ∧ I64 c.qy) ∧ (I64 c.rx ∧ I64 c.ry) ∧ (I64 c.sx ∧ I64 c.sy)) (t : Int) (_ht : (Lit.int .i64 t).wf = true) (w : World) :
    Calls Try.prog 7 #[c.val, .int .i64 t] w fun e w' => e = .returned (.bool true) ∧ Below w.heap.size w w' := by
  have K := Lib.hid (fun w => wakes11 w)
  have RR := Lib.hid (fun w => rright11 c w)
  by_cases hr : c.right
  · rw [decide_eq_true hr] at RR
    have CT := Lib.hid (fun w => ccut11 c w hr)
    have CH := Lib.hid (fun w => cat11 c t w hr)
    obtain ⟨t0, t1⟩ := capT_in t
    clear hr
    obtain ⟨px, py, qx, qy, rx, ry, sx, sy⟩ := c
    unfold Crv.cutA Crv.cutB Crv.at at *
    unfold Crv.val Crv.arr at *
    dsimp only at *
    obtain ⟨k1, k2, k3, k4⟩ := box4 px qx rx sx
    obtain ⟨l, hl⟩ : ∃ z, z = mn4 px qx rx sx := ⟨_, rfl⟩
    obtain ⟨h, hh⟩ : ∃ z, z = mx4 px qx rx sx := ⟨_, rfl⟩
    rw [← hl, ← hh] at k1 k2 k3 k4
    have ix1 := mid_in k1 k2; have ix2 := m3_in k1 k2 k3; have ix3 := m4_in k1 k2 k3 k4; have ix4 := m3_in k2 k3 k4; have ix5 := mid_in k3 k4; have ix6 := b4_in t0 t1 k1 k2 k3 k4
    clear k1 k2 k3 k4
    obtain ⟨k1, k2, k3, k4⟩ := box4 py qy ry sy
    obtain ⟨lo, hlo⟩ : ∃ z, z = mn4 py qy ry sy := ⟨_, rfl⟩
    obtain ⟨hi, hhi⟩ : ∃ z, z = mx4 py qy ry sy := ⟨_, rfl⟩
    rw [← hlo, ← hhi] at k1 k2 k3 k4
    have iy1 := mid_in k1 k2; have iy2 := m3_in k1 k2 k3; have iy3 := m4_in k1 k2 k3 k4; have iy4 := m3_in k2 k3 k4; have iy5 := mid_in k3 k4; have iy6 := b4_in t0 t1 k1 k2 k3 k4
    clear k1 k2 k3 k4
    clear t0 t1
    generalize mid px qx = ax at *
    generalize mid py qy = ay at *
    generalize m3 px qx rx = dx at *
    generalize m3 py qy ry = dy at *
    generalize m4 px qx rx sx = fx at *
    generalize m4 py qy ry sy = fy at *
    generalize m3 qx rx sx = ex at *
    generalize m3 qy ry sy = ey at *
    generalize mid rx sx = xx at *
    generalize mid ry sy = xy at *
    generalize b4 px qx rx sx (capT t) = gx at *
    generalize b4 py qy ry sy (capT t) = gy at *
    have j1a : ¬ ax < l := Int.not_lt.2 ix1.1; have j2a : ¬ h < ax := Int.not_lt.2 ix1.2; have j3a : ¬ ay < lo := Int.not_lt.2 iy1.1; have j4a : ¬ hi < ay := Int.not_lt.2 iy1.2
    have j1d : ¬ dx < l := Int.not_lt.2 ix2.1; have j2d : ¬ h < dx := Int.not_lt.2 ix2.2; have j3d : ¬ dy < lo := Int.not_lt.2 iy2.1; have j4d : ¬ hi < dy := Int.not_lt.2 iy2.2
    have j1f : ¬ fx < l := Int.not_lt.2 ix3.1; have j2f : ¬ h < fx := Int.not_lt.2 ix3.2; have j3f : ¬ fy < lo := Int.not_lt.2 iy3.1; have j4f : ¬ hi < fy := Int.not_lt.2 iy3.2
    have j1e : ¬ ex < l := Int.not_lt.2 ix4.1; have j2e : ¬ h < ex := Int.not_lt.2 ix4.2; have j3e : ¬ ey < lo := Int.not_lt.2 iy4.1; have j4e : ¬ hi < ey := Int.not_lt.2 iy4.2
    have j1x : ¬ xx < l := Int.not_lt.2 ix5.1; have j2x : ¬ h < xx := Int.not_lt.2 ix5.2; have j3x : ¬ xy < lo := Int.not_lt.2 iy5.1; have j4x : ¬ hi < xy := Int.not_lt.2 iy5.2
    have j1g : ¬ gx < l := Int.not_lt.2 ix6.1; have j2g : ¬ h < gx := Int.not_lt.2 ix6.2; have j3g : ¬ gy < lo := Int.not_lt.2 iy6.1; have j4g : ¬ hi < gy := Int.not_lt.2 iy6.2
    clear ix1 iy1
    clear ix2 iy2
    clear ix3 iy3
    clear ix4 iy4
    clear ix5 iy5
    clear ix6 iy6
    replace hl := hl.symm; replace hh := hh.symm; replace hlo := hlo.symm; replace hhi := hhi.symm
    have k1 := CBox.new w 25 #[.int .i64 px, .int .i64 py, .int .i64 qx, .int .i64 qy, .int .i64 rx, .int .i64 ry, .int .i64 sx, .int .i64 sy]
    have HC0 := Lib.hid k1
    have HB0 := Lib.hid ((Below.refl w.heap.size w).alloc (Nat.le_refl _) (.cells #[.int .i64 px, .int .i64 py, .int .i64 qx, .int .i64 qy, .int .i64 rx, .int .i64 ry, .int .i64 sx, .int .i64 sy] 25))
    clear k1
    go_enter Try.func7, Try.ntmps7
    go_upto_region 1 with fail
    generalize w.alloc (.cells #[.int .i64 px, .int .i64 py, .int .i64 qx, .int .i64 qy, .int .i64 rx, .int .i64 ry, .int .i64 sx, .int .i64 sy] 25) = w1 at *
    go_wp2_with fail
    refine (K.out _).mono ?_
    rintro e w2 ⟨rfl, b1⟩
    have HB1 := Lib.hid (HB0.out.trans (b1.mono HB0.out.size))
    have HC1 := Lib.hid (HC0.out.next b1)
    clear b1
    go_upto_region 3 with fail
    have xC0 : w2.cell? ⟨w.heap.size, 0, none⟩ = some (.int .i64 px) := HC1.out.c 0 rfl
    have xC1 : w2.cell? ⟨w.heap.size, 1, none⟩ = some (.int .i64 py) := HC1.out.c 1 rfl
    have xC2 : w2.cell? ⟨w.heap.size, 2, none⟩ = some (.int .i64 qx) := HC1.out.c 2 rfl
    have xC3 : w2.cell? ⟨w.heap.size, 3, none⟩ = some (.int .i64 qy) := HC1.out.c 3 rfl
    have xC4 : w2.cell? ⟨w.heap.size, 4, none⟩ = some (.int .i64 rx) := HC1.out.c 4 rfl
    have xC5 : w2.cell? ⟨w.heap.size, 5, none⟩ = some (.int .i64 ry) := HC1.out.c 5 rfl
    have xC6 : w2.cell? ⟨w.heap.size, 6, none⟩ = some (.int .i64 sx) := HC1.out.c 6 rfl
    have xC7 : w2.cell? ⟨w.heap.size, 7, none⟩ = some (.int .i64 sy) := HC1.out.c 7 rfl
    go_wp2_with fail
    refine (RR.out _).mono ?_
    rintro e w3 ⟨rfl, b2⟩
    clear xC0 xC1 xC2 xC3 xC4 xC5 xC6 xC7
    have HB2 := Lib.hid (HB1.out.trans (b2.mono HB1.out.size))
    have HC2 := Lib.hid (HC1.out.next b2)
    clear b2
    have xC0 : w3.cell? ⟨w.heap.size, 0, none⟩ = some (.int .i64 px) := HC2.out.c 0 rfl
    have xC1 : w3.cell? ⟨w.heap.size, 1, none⟩ = some (.int .i64 py) := HC2.out.c 1 rfl
    have xC2 : w3.cell? ⟨w.heap.size, 2, none⟩ = some (.int .i64 qx) := HC2.out.c 2 rfl
    have xC3 : w3.cell? ⟨w.heap.size, 3, none⟩ = some (.int .i64 qy) := HC2.out.c 3 rfl
    have xC4 : w3.cell? ⟨w.heap.size, 4, none⟩ = some (.int .i64 rx) := HC2.out.c 4 rfl
    have xC5 : w3.cell? ⟨w.heap.size, 5, none⟩ = some (.int .i64 ry) := HC2.out.c 5 rfl
    have xC6 : w3.cell? ⟨w.heap.size, 6, none⟩ = some (.int .i64 sx) := HC2.out.c 6 rfl
    have xC7 : w3.cell? ⟨w.heap.size, 7, none⟩ = some (.int .i64 sy) := HC2.out.c 7 rfl
    go_wp2_with fail
    refine (CT.out _).mono ?_
    rintro e w4 ⟨rfl, b3⟩
    clear xC0 xC1 xC2 xC3 xC4 xC5 xC6 xC7
    have HB3 := Lib.hid (HB2.out.trans (b3.mono HB2.out.size))
    have HC3 := Lib.hid (HC2.out.next b3)
    clear b3
    obtain ⟨k1, k2, k3⟩ := boxes_two w4 #[.int .i64 px, .int .i64 py, .int .i64 ax, .int .i64 ay, .int .i64 dx, .int .i64 dy, .int .i64 fx, .int .i64 fy] #[.int .i64 fx, .int .i64 fy, .int .i64 ex, .int .i64 ey, .int .i64 xx, .int .i64 xy, .int .i64 sx, .int .i64 sy] 25 25
    have b4 := k3
    have HB4 := Lib.hid (HB3.out.trans (b4.mono HB3.out.size))
    have HC4 := Lib.hid (HC3.out.next b4)
    clear b4
    have HA4 := Lib.hid k1; have HD4 := Lib.hid k2
    clear k1 k2 k3
    go_upto_region 6 with fail
    generalize ((w4.alloc (.cells #[.int .i64 px, .int .i64 py, .int .i64 ax, .int .i64 ay, .int .i64 dx, .int .i64 dy, .int .i64 fx, .int .i64 fy] 25)).alloc (.cells #[.int .i64 fx, .int .i64 fy, .int .i64 ex, .int .i64 ey, .int .i64 xx, .int .i64 xy, .int .i64 sx, .int .i64 sy] 25)) = w5 at *
    generalize w4.heap.size = aq at *
    go_upto_region 6 with fail
    go_cut [7, 8] (fun s1 s2 wc => s1 = .int .i64 l ∧ s2 = .int .i64 h ∧ Below w5.heap.size w5 wc)
    case first =>
      have xC0 : w5.cell? ⟨w.heap.size, 0, none⟩ = some (.int .i64 px) := HC4.out.c 0 rfl
      have xC1 : w5.cell? ⟨w.heap.size, 1, none⟩ = some (.int .i64 py) := HC4.out.c 1 rfl
      have xC2 : w5.cell? ⟨w.heap.size, 2, none⟩ = some (.int .i64 qx) := HC4.out.c 2 rfl
      have xC3 : w5.cell? ⟨w.heap.size, 3, none⟩ = some (.int .i64 qy) := HC4.out.c 3 rfl
      have xC4 : w5.cell? ⟨w.heap.size, 4, none⟩ = some (.int .i64 rx) := HC4.out.c 4 rfl
      have xC5 : w5.cell? ⟨w.heap.size, 5, none⟩ = some (.int .i64 ry) := HC4.out.c 5 rfl
      have xC6 : w5.cell? ⟨w.heap.size, 6, none⟩ = some (.int .i64 sx) := HC4.out.c 6 rfl
      have xC7 : w5.cell? ⟨w.heap.size, 7, none⟩ = some (.int .i64 sy) := HC4.out.c 7 rfl
      have HBz := Lib.hid (Below.refl w5.heap.size w5)
      go_region_held3 (fun w' => w'.cell? ⟨w.heap.size, 0, none⟩ = some (.int .i64 px) ∧ w'.cell? ⟨w.heap.size, 1, none⟩ = some (.int .i64 py) ∧ w'.cell? ⟨w.heap.size, 2, none⟩ = some (.int .i64 qx) ∧ w'.cell? ⟨w.heap.size, 3, none⟩ = some (.int .i64 qy) ∧ w'.cell? ⟨w.heap.size, 4, none⟩ = some (.int .i64 rx) ∧ w'.cell? ⟨w.heap.size, 5, none⟩ = some (.int .i64 ry) ∧ w'.cell? ⟨w.heap.size, 6, none⟩ = some (.int .i64 sx) ∧ w'.cell? ⟨w.heap.size, 7, none⟩ = some (.int .i64 sy)) (first | (refine ⟨?_, ?_, ?_, ?_, ?_, ?_, ?_, ?_⟩ <;> first | with_reducible assumption) | (simp [go_sem, *]; done)) (fail)
      all_goals
        go_wp2_with fail
        go_meet
        exact ⟨rfl, rfl, HBz.out.drew⟩
    case rest =>
      obtain ⟨rfl, rfl, b5⟩ := hcut
      have HB5 := Lib.hid (HB4.out.trans (b5.mono HB4.out.size))
      have HC5 := Lib.hid (HC4.out.next b5)
      have HA5 := Lib.hid (HA4.out.next b5)
      have HD5 := Lib.hid (HD4.out.next b5)
      clear b5
      generalize wc = w6 at *
      go_upto_region 7 with fail
      go_cut [9, 10] (fun s1 s2 wc => s1 = .int .i64 lo ∧ s2 = .int .i64 hi ∧ Below w6.heap.size w6 wc)
      case first =>
        have xC0 : w6.cell? ⟨w.heap.size, 0, none⟩ = some (.int .i64 px) := HC5.out.c 0 rfl
        have xC1 : w6.cell? ⟨w.heap.size, 1, none⟩ = some (.int .i64 py) := HC5.out.c 1 rfl
        have xC2 : w6.cell? ⟨w.heap.size, 2, none⟩ = some (.int .i64 qx) := HC5.out.c 2 rfl
        have xC3 : w6.cell? ⟨w.heap.size, 3, none⟩ = some (.int .i64 qy) := HC5.out.c 3 rfl
        have xC4 : w6.cell? ⟨w.heap.size, 4, none⟩ = some (.int .i64 rx) := HC5.out.c 4 rfl
        have xC5 : w6.cell? ⟨w.heap.size, 5, none⟩ = some (.int .i64 ry) := HC5.out.c 5 rfl
        have xC6 : w6.cell? ⟨w.heap.size, 6, none⟩ = some (.int .i64 sx) := HC5.out.c 6 rfl
        have xC7 : w6.cell? ⟨w.heap.size, 7, none⟩ = some (.int .i64 sy) := HC5.out.c 7 rfl
        have HBz := Lib.hid (Below.refl w6.heap.size w6)
        go_region_held3 (fun w' => w'.cell? ⟨w.heap.size, 0, none⟩ = some (.int .i64 px) ∧ w'.cell? ⟨w.heap.size, 1, none⟩ = some (.int .i64 py) ∧ w'.cell? ⟨w.heap.size, 2, none⟩ = some (.int .i64 qx) ∧ w'.cell? ⟨w.heap.size, 3, none⟩ = some (.int .i64 qy) ∧ w'.cell? ⟨w.heap.size, 4, none⟩ = some (.int .i64 rx) ∧ w'.cell? ⟨w.heap.size, 5, none⟩ = some (.int .i64 ry) ∧ w'.cell? ⟨w.heap.size, 6, none⟩ = some (.int .i64 sx) ∧ w'.cell? ⟨w.heap.size, 7, none⟩ = some (.int .i64 sy)) (first | (refine ⟨?_, ?_, ?_, ?_, ?_, ?_, ?_, ?_⟩ <;> first | with_reducible assumption) | (simp [go_sem, *]; done)) (fail)
        all_goals
          go_wp2_with fail
          go_meet
          exact ⟨rfl, rfl, HBz.out.drew⟩
      case rest =>
        obtain ⟨rfl, rfl, b6⟩ := hcut
        have HB6 := Lib.hid (HB5.out.trans (b6.mono HB5.out.size))
        have HC6 := Lib.hid (HC5.out.next b6)
        have HA6 := Lib.hid (HA5.out.next b6)
        have HD6 := Lib.hid (HD5.out.next b6)
        clear b6
        generalize wc = w7 at *
        go_upto_region 8 with fail
        have xC0 : w7.cell? ⟨w.heap.size, 0, none⟩ = some (.int .i64 px) := HC6.out.c 0 rfl
        have xC1 : w7.cell? ⟨w.heap.size, 1, none⟩ = some (.int .i64 py) := HC6.out.c 1 rfl
        have xC2 : w7.cell? ⟨w.heap.size, 2, none⟩ = some (.int .i64 qx) := HC6.out.c 2 rfl
        have xC3 : w7.cell? ⟨w.heap.size, 3, none⟩ = some (.int .i64 qy) := HC6.out.c 3 rfl
        have xC4 : w7.cell? ⟨w.heap.size, 4, none⟩ = some (.int .i64 rx) := HC6.out.c 4 rfl
        have xC5 : w7.cell? ⟨w.heap.size, 5, none⟩ = some (.int .i64 ry) := HC6.out.c 5 rfl
        have xC6 : w7.cell? ⟨w.heap.size, 6, none⟩ = some (.int .i64 sx) := HC6.out.c 6 rfl
        have xC7 : w7.cell? ⟨w.heap.size, 7, none⟩ = some (.int .i64 sy) := HC6.out.c 7 rfl
        have xA2 : w7.cell? ⟨aq, 2, none⟩ = some (.int .i64 ax) := HA6.out.c 2 rfl
        have xA3 : w7.cell? ⟨aq, 3, none⟩ = some (.int .i64 ay) := HA6.out.c 3 rfl
        have xA4 : w7.cell? ⟨aq, 4, none⟩ = some (.int .i64 dx) := HA6.out.c 4 rfl
        have xA5 : w7.cell? ⟨aq, 5, none⟩ = some (.int .i64 dy) := HA6.out.c 5 rfl
        have xA6 : w7.cell? ⟨aq, 6, none⟩ = some (.int .i64 fx) := HA6.out.c 6 rfl
        have xA7 : w7.cell? ⟨aq, 7, none⟩ = some (.int .i64 fy) := HA6.out.c 7 rfl
        have xD2 : w7.cell? ⟨aq + 1, 2, none⟩ = some (.int .i64 ex) := HD6.out.c 2 rfl
        have xD3 : w7.cell? ⟨aq + 1, 3, none⟩ = some (.int .i64 ey) := HD6.out.c 3 rfl
        have xD4 : w7.cell? ⟨aq + 1, 4, none⟩ = some (.int .i64 xx) := HD6.out.c 4 rfl
        have xD5 : w7.cell? ⟨aq + 1, 5, none⟩ = some (.int .i64 xy) := HD6.out.c 5 rfl
        have HBz := Lib.hid (Below.refl w7.heap.size w7)
        have HBd := Lib.hid HBz.out.drew
        go_region_held3 (fun w' => w'.cell? ⟨w.heap.size, 0, none⟩ = some (.int .i64 px) ∧ w'.cell? ⟨w.heap.size, 1, none⟩ = some (.int .i64 py) ∧ w'.cell? ⟨w.heap.size, 2, none⟩ = some (.int .i64 qx) ∧ w'.cell? ⟨w.heap.size, 3, none⟩ = some (.int .i64 qy) ∧ w'.cell? ⟨w.heap.size, 4, none⟩ = some (.int .i64 rx) ∧ w'.cell? ⟨w.heap.size, 5, none⟩ = some (.int .i64 ry) ∧ w'.cell? ⟨w.heap.size, 6, none⟩ = some (.int .i64 sx) ∧ w'.cell? ⟨w.heap.size, 7, none⟩ = some (.int .i64 sy) ∧ w'.cell? ⟨aq, 2, none⟩ = some (.int .i64 ax) ∧ w'.cell? ⟨aq, 3, none⟩ = some (.int .i64 ay) ∧ w'.cell? ⟨aq, 4, none⟩ = some (.int .i64 dx) ∧ w'.cell? ⟨aq, 5, none⟩ = some (.int .i64 dy) ∧ w'.cell? ⟨aq, 6, none⟩ = some (.int .i64 fx) ∧ w'.cell? ⟨aq, 7, none⟩ = some (.int .i64 fy) ∧ w'.cell? ⟨aq + 1, 2, none⟩ = some (.int .i64 ex) ∧ w'.cell? ⟨aq + 1, 3, none⟩ = some (.int .i64 ey) ∧ w'.cell? ⟨aq + 1, 4, none⟩ = some (.int .i64 xx) ∧ w'.cell? ⟨aq + 1, 5, none⟩ = some (.int .i64 xy)) (first | (refine ⟨?_, ?_, ?_, ?_, ?_, ?_, ?_, ?_, ?_, ?_, ?_, ?_, ?_, ?_, ?_, ?_, ?_, ?_⟩ <;> first | with_reducible assumption | (with_reducible refine cell_alloc ?_; with_reducible assumption)) | (simp [go_sem, *]; done))
          (first
          | (go_at_call 19; (with_reducible refine (CH.out _).mono ?_); rintro e v1 ⟨rfl, bc1⟩; have HBc1 := Lib.hid (HBd.out.trans (bc1.mono HBd.out.size)); clear xC0 xC1 xC2 xC3 xC4 xC5 xC6 xC7 xA2 xA3 xA4 xA5 xA6 xA7 xD2 xD3 xD4 xD5; have hC_ := HC6.out.next HBc1.out; have xC0 : v1.cell? ⟨w.heap.size, 0, none⟩ = some (.int .i64 px) := hC_.c 0 rfl; have xC1 : v1.cell? ⟨w.heap.size, 1, none⟩ = some (.int .i64 py) := hC_.c 1 rfl; have xC2 : v1.cell? ⟨w.heap.size, 2, none⟩ = some (.int .i64 qx) := hC_.c 2 rfl; have xC3 : v1.cell? ⟨w.heap.size, 3, none⟩ = some (.int .i64 qy) := hC_.c 3 rfl; have xC4 : v1.cell? ⟨w.heap.size, 4, none⟩ = some (.int .i64 rx) := hC_.c 4 rfl; have xC5 : v1.cell? ⟨w.heap.size, 5, none⟩ = some (.int .i64 ry) := hC_.c 5 rfl; have xC6 : v1.cell? ⟨w.heap.size, 6, none⟩ = some (.int .i64 sx) := hC_.c 6 rfl; have xC7 : v1.cell? ⟨w.heap.size, 7, none⟩ = some (.int .i64 sy) := hC_.c 7 rfl; clear hC_; have hA_ := HA6.out.next HBc1.out; have xA2 : v1.cell? ⟨aq, 2, none⟩ = some (.int .i64 ax) := hA_.c 2 rfl; have xA3 : v1.cell? ⟨aq, 3, none⟩ = some (.int .i64 ay) := hA_.c 3 rfl; have xA4 : v1.cell? ⟨aq, 4, none⟩ = some (.int .i64 dx) := hA_.c 4 rfl; have xA5 : v1.cell? ⟨aq, 5, none⟩ = some (.int .i64 dy) := hA_.c 5 rfl; have xA6 : v1.cell? ⟨aq, 6, none⟩ = some (.int .i64 fx) := hA_.c 6 rfl; have xA7 : v1.cell? ⟨aq, 7, none⟩ = some (.int .i64 fy) := hA_.c 7 rfl; clear hA_; have hD_ := HD6.out.next HBc1.out; have xD2 : v1.cell? ⟨aq + 1, 2, none⟩ = some (.int .i64 ex) := hD_.c 2 rfl; have xD3 : v1.cell? ⟨aq + 1, 3, none⟩ = some (.int .i64 ey) := hD_.c 3 rfl; have xD4 : v1.cell? ⟨aq + 1, 4, none⟩ = some (.int .i64 xx) := hD_.c 4 rfl; have xD5 : v1.cell? ⟨aq + 1, 5, none⟩ = some (.int .i64 xy) := hD_.c 5 rfl; clear hD_; clear bc1)
          )
        clear xC0 xC1 xC2 xC3 xC4 xC5 xC6 xC7 xA2 xA3 xA4 xA5 xA6 xA7 xD2 xD3 xD4 xD5
        have HB7 := Lib.hid (HB6.out.trans (HBc1.out.mono HB6.out.size))
        have HC7 := Lib.hid (HC6.out.next HBc1.out)
        have HA7 := Lib.hid (HA6.out.next HBc1.out)
        have HD7 := Lib.hid (HD6.out.next HBc1.out)
        generalize v1 = w8 at *
        have k1 := CBox.new w8 23 #[.int .i64 ax, .int .i64 ay, .int .i64 dx, .int .i64 dy, .int .i64 fx, .int .i64 fy, .int .i64 ex, .int .i64 ey, .int .i64 xx, .int .i64 xy, .int .i64 gx, .int .i64 gy]
        have k2 := HB7.out.alloc HB7.out.size (.cells #[.int .i64 ax, .int .i64 ay, .int .i64 dx, .int .i64 dy, .int .i64 fx, .int .i64 fy, .int .i64 ex, .int .i64 ey, .int .i64 xx, .int .i64 xy, .int .i64 gx, .int .i64 gy] 23)
        have HR := Lib.hid k1; have HB := Lib.hid k2
        clear k1 k2
        go_wp2_with fail
        generalize w8.alloc (.cells #[.int .i64 ax, .int .i64 ay, .int .i64 dx, .int .i64 dy, .int .i64 fx, .int .i64 fy, .int .i64 ex, .int .i64 ey, .int .i64 xx, .int .i64 xy, .int .i64 gx, .int .i64 gy] 23) = wl at *
        generalize w8.heap.size = y at *
        go_loopw [90] (fun iv wr => (Below w.heap.size w wr ∧ CBox y 23 #[.int .i64 ax, .int .i64 ay, .int .i64 dx, .int .i64 dy, .int .i64 fx, .int .i64 fy, .int .i64 ex, .int .i64 ey, .int .i64 xx, .int .i64 xy, .int .i64 gx, .int .i64 gy] wr) ∧ (iv = .int .i64 0 ∨ iv = .int .i64 1 ∨ iv = .int .i64 2 ∨ iv = .int .i64 3 ∨ iv = .int .i64 4 ∨ iv = .int .i64 5 ∨ iv = .int .i64 6)) (fun iv _ => (6 - intOf iv).toNat)
        case atStart => exact ⟨⟨HB.out, HR.out⟩, Or.inl rfl⟩
        case round =>
          obtain ⟨⟨hb, hy⟩, hrel⟩ := hrel
          have HBr := Lib.hid hb; have HYr := Lib.hid hy
          clear hb hy HB HR
          rcases hrel with rfl | rfl | rfl | rfl | rfl | rfl | rfl
          ·
            have z0 : wr.cell? ⟨y, 0, none⟩ = some (.int .i64 ax) := HYr.out.c 0 rfl
            have z1 : wr.cell? ⟨y, 1, none⟩ = some (.int .i64 ay) := HYr.out.c 1 rfl
            go_wp2_with fail
            go_roundw
            case rel => exact ⟨⟨HBr.out.alloc HBr.out.size _, HYr.out.next ((Below.refl wr.heap.size wr).alloc (Nat.le_refl _) _)⟩, Or.inr (Or.inl (by go_num))⟩
            case measure => simp [intOf]
          ·
            have z0 : wr.cell? ⟨y, 2, none⟩ = some (.int .i64 dx) := HYr.out.c 2 rfl
            have z1 : wr.cell? ⟨y, 3, none⟩ = some (.int .i64 dy) := HYr.out.c 3 rfl
            go_wp2_with fail
            go_roundw
            case rel => exact ⟨⟨HBr.out.alloc HBr.out.size _, HYr.out.next ((Below.refl wr.heap.size wr).alloc (Nat.le_refl _) _)⟩, Or.inr (Or.inr (Or.inl (by go_num)))⟩
            case measure => simp [intOf]
          ·
            have z0 : wr.cell? ⟨y, 4, none⟩ = some (.int .i64 fx) := HYr.out.c 4 rfl
            have z1 : wr.cell? ⟨y, 5, none⟩ = some (.int .i64 fy) := HYr.out.c 5 rfl
            go_wp2_with fail
            go_roundw
            case rel => exact ⟨⟨HBr.out.alloc HBr.out.size _, HYr.out.next ((Below.refl wr.heap.size wr).alloc (Nat.le_refl _) _)⟩, Or.inr (Or.inr (Or.inr (Or.inl (by go_num))))⟩
            case measure => simp [intOf]
          ·
            have z0 : wr.cell? ⟨y, 6, none⟩ = some (.int .i64 ex) := HYr.out.c 6 rfl
            have z1 : wr.cell? ⟨y, 7, none⟩ = some (.int .i64 ey) := HYr.out.c 7 rfl
            go_wp2_with fail
            go_roundw
            case rel => exact ⟨⟨HBr.out.alloc HBr.out.size _, HYr.out.next ((Below.refl wr.heap.size wr).alloc (Nat.le_refl _) _)⟩, Or.inr (Or.inr (Or.inr (Or.inr (Or.inl (by go_num)))))⟩
            case measure => simp [intOf]
          ·
            have z0 : wr.cell? ⟨y, 8, none⟩ = some (.int .i64 xx) := HYr.out.c 8 rfl
            have z1 : wr.cell? ⟨y, 9, none⟩ = some (.int .i64 xy) := HYr.out.c 9 rfl
            go_wp2_with fail
            go_roundw
            case rel => exact ⟨⟨HBr.out.alloc HBr.out.size _, HYr.out.next ((Below.refl wr.heap.size wr).alloc (Nat.le_refl _) _)⟩, Or.inr (Or.inr (Or.inr (Or.inr (Or.inr (Or.inl (by go_num))))))⟩
            case measure => simp [intOf]
          ·
            have z0 : wr.cell? ⟨y, 10, none⟩ = some (.int .i64 gx) := HYr.out.c 10 rfl
            have z1 : wr.cell? ⟨y, 11, none⟩ = some (.int .i64 gy) := HYr.out.c 11 rfl
            go_wp2_with fail
            go_roundw
            case rel => exact ⟨⟨HBr.out.alloc HBr.out.size _, HYr.out.next ((Below.refl wr.heap.size wr).alloc (Nat.le_refl _) _)⟩, Or.inr (Or.inr (Or.inr (Or.inr (Or.inr (Or.inr ((by go_num)))))))⟩
            case measure => simp [intOf]
          ·
            go_wp2_with fail
            go_ret
            exact ⟨rfl, HBr.out⟩
  · rw [decide_eq_false hr] at RR
    clear hr
    obtain ⟨px, py, qx, qy, rx, ry, sx, sy⟩ := c
    unfold Crv.val Crv.arr at *
    dsimp only at *
    have k1 := CBox.new w 25 #[.int .i64 px, .int .i64 py, .int .i64 qx, .int .i64 qy, .int .i64 rx, .int .i64 ry, .int .i64 sx, .int .i64 sy]
    have HC0 := Lib.hid k1
    have HB0 := Lib.hid ((Below.refl w.heap.size w).alloc (Nat.le_refl _) (.cells #[.int .i64 px, .int .i64 py, .int .i64 qx, .int .i64 qy, .int .i64 rx, .int .i64 ry, .int .i64 sx, .int .i64 sy] 25))
    clear k1
    go_enter Try.func7, Try.ntmps7
    go_upto_region 1 with fail
    generalize w.alloc (.cells #[.int .i64 px, .int .i64 py, .int .i64 qx, .int .i64 qy, .int .i64 rx, .int .i64 ry, .int .i64 sx, .int .i64 sy] 25) = w1 at *
    go_wp2_with fail
    refine (K.out _).mono ?_
    rintro e w2 ⟨rfl, b1⟩
    have HB1 := Lib.hid (HB0.out.trans (b1.mono HB0.out.size))
    have HC1 := Lib.hid (HC0.out.next b1)
    clear b1
    go_upto_region 3 with fail
    have xC0 : w2.cell? ⟨w.heap.size, 0, none⟩ = some (.int .i64 px) := HC1.out.c 0 rfl
    have xC1 : w2.cell? ⟨w.heap.size, 1, none⟩ = some (.int .i64 py) := HC1.out.c 1 rfl
    have xC2 : w2.cell? ⟨w.heap.size, 2, none⟩ = some (.int .i64 qx) := HC1.out.c 2 rfl
    have xC3 : w2.cell? ⟨w.heap.size, 3, none⟩ = some (.int .i64 qy) := HC1.out.c 3 rfl
    have xC4 : w2.cell? ⟨w.heap.size, 4, none⟩ = some (.int .i64 rx) := HC1.out.c 4 rfl
    have xC5 : w2.cell? ⟨w.heap.size, 5, none⟩ = some (.int .i64 ry) := HC1.out.c 5 rfl
    have xC6 : w2.cell? ⟨w.heap.size, 6, none⟩ = some (.int .i64 sx) := HC1.out.c 6 rfl
    have xC7 : w2.cell? ⟨w.heap.size, 7, none⟩ = some (.int .i64 sy) := HC1.out.c 7 rfl
    go_wp2_with fail
    refine (RR.out _).mono ?_
    rintro e w3 ⟨rfl, b2⟩
    clear xC0 xC1 xC2 xC3 xC4 xC5 xC6 xC7
    have HB2 := Lib.hid (HB1.out.trans (b2.mono HB1.out.size))
    have HC2 := Lib.hid (HC1.out.next b2)
    clear b2
    go_wp2_with fail
    go_ret
    exact ⟨rfl, HB2.out⟩
set_option maxRecDepth 100000 in
theorem lifted (os : Os) (started : os.Started) (H : Type) (enc : TypeId × Value → H) :
    ReturnsInHanded {} Try.checked os 7 .any (Rows.curveBoxSpec.pre6 enc Try.prog Try.f7 Rows.curveBoxRow.domain false) (Rows.curveBoxSpec.post enc Try.prog Try.f7 false true false false) := by
  refine returnsInHanded_of_change (C := Try.checked) own started (by kernel_rfl) Try.func7
    (ChangeSpec.witness6 (enc := enc) (C := Try.checked) false ⟨#[], #[.agg #[.int .i64 0, .int .i64 0, .int .i64 0, .int .i64 0, .int .i64 0, .int .i64 0, .int .i64 0, .int .i64 0], .int .i64 0], []⟩ 8 (by kernel_rfl) (by kernel_rfl) (by kernel_rfl) (by kernel_rfl)) ?_
  intro W base args ds gs before hval0 hW hcnd _
  have hval : ∀ (j : Nat) t v, Try.f7.params[j]? = some t → args[j]? = some v → Value.okWide Try.prog W .any base t v := hval0
  have hW' := hW
  obtain ⟨p, q, hA0, hV, rfl, hfz, hnd⟩ := hW
  have hA : DataW.TrodAll enc Try.prog W 0 (fun _ => true) true Try.f7.params.toList args.toList ds p := hA0
  rw [Try.params7] at hA hval
  obtain ⟨v0, v1, d0, d1, p0, p1, rfl, rfl, rfl, h0, h1⟩ := trodAll_two hA
  obtain ⟨rfl, rfl⟩ := trodVars_none hV
  obtain ⟨c0, rfl, w0⟩ := crv_of_trod Try.underlying25 (by kernel_rfl) rfl rfl rfl rfl Try.underlying23 (by kernel_rfl) rfl rfl rfl rfl rfl (by kernel_rfl) (by kernel_rfl) Try.underlying2 Try.underlying2 (hval 0 25 v0 rfl rfl) h0
  obtain ⟨a1, rfl, rfl, rfl, w1⟩ := open_int Try.underlying2 (hval 1 2 v1 rfl rfl) h1
  clear hA0 hval0
  simp only [List.append_nil] at hW'
  have lt0 : ∀ x ∈ p0, x.block < W.heap.size := fun x hx => hW'.lt x (by simp [hx])
  refine (walk c0 w0 a1 w1 W).mono fun e W' ⟨he, hg⟩ => ?_
  subst he
  have b0' := Below.trod laidOut (by kernel_rfl) (of_decide_eq_true (by kernel_rfl)) h0 hg lt0
  exact ⟨_, rfl, ⟨_, _, _, [], _, [], hW', trodAll_mk1 (shut_bool Try.underlying4 _), trodAll_mk2 b0' (shut_int Try.underlying2 w1), rfl, hg.frame _, fun h => by cases h⟩⟩

/-- The given statement. -/
theorem proved : Rows.CurveBoxSaid :=
  OpenClaim.holds_of_wide 7 Try.f7 rfl rfl rfl rfl rfl rfl rfl ⟨rfl, rfl, rfl, rfl, rfl⟩ rfl rfl rfl rfl rfl (by kernel_rfl) Try.func7 (by kernel_rfl)
    (of_decide_eq_true (by kernel_rfl)) (by unfold Func.isWrapper; first | (rw [if_pos (by decide +kernel)]; kernel_rfl) | (rw [if_neg (by decide +kernel)]; exact ⟨rfl, rfl⟩))
    (fun os started H enc _ => lifted os started H enc)
end Go.Proofs.Ytainocdbapnaaaa.curveBox
