/-
  Package affine: stretch and take. (Typed by a program.)
-/
import Derived.Test.YthnjdncnmdmjaaaAffMust
import Derived.Test.YthnjdncnmdmjaaaOpsDot
import Derived.Deep.DeepCutAuto
namespace Go.Proofs.Ythnjdncnmdmjaaa
open Go.RowKit Go.Shelf

theorem PBox.set0 {n : Nat} {x y : Int} {w : World} (h : PBox n x y w) (x' : Int) : PBox n x' y (w.setCell ⟨n, 0, none⟩ (.int .i64 x')) := by
  unfold PBox at *
  simp only [World.setCell, Array.getElem?_modify, h]
  simp
theorem PBox.set1 {n : Nat} {x y : Int} {w : World} (h : PBox n x y w) (y' : Int) : PBox n x y' (w.setCell ⟨n, 1, none⟩ (.int .i64 y')) := by
  unfold PBox at *
  simp only [World.setCell, Array.getElem?_modify, h]
  simp
/-- One number without what is added. -/
def linA (a x b y : Int) : Int := near (a * x + b * y) (2 ^ 16)
theorem num_lin (a x b y c : Int) : numA a x b y c = linA a x b y + c := rfl
theorem pair_lin {a x b y : Int} (ha : In32 a) (hx : In32 x) (hb : In32 b) (hy : In32 y) : Pair (dot a x b y 16) = .tuple #[.int .i64 (linA a x b y), .bool true] := by
  have hn := num_near ha hx hb hy
  exact pair_i64 ⟨by show _ ≤ near (a * x + b * y) (2 ^ 16); omega, by show near (a * x + b * y) (2 ^ 16) ≤ _; omega⟩
theorem lin_near {a x b y : Int} (ha : In32 a) (hx : In32 x) (hb : In32 b) (hy : In32 y) : -1125899906842624 ≤ linA a x b y ∧ linA a x b y ≤ 1125899906842624 := num_near ha hx hb hy
set_option maxHeartbeats 4000000 in
set_option maxRecDepth 100000 in
theorem stretch_any (m : Mtx) (x y : Int) (w : World) (hr : m.right) (hx : In32 x) (hy : In32 y) :
    Calls Try.prog 42 #[m.val, .agg #[.int .i64 x, .int .i64 y]] w fun e w' => e = .returned (.agg #[.int .i64 (linA m.a x m.c y), .int .i64 (linA m.b x m.d y)]) ∧ Below w.heap.size w w' := by
  obtain ⟨ra, rb, rc, rd, re, rf⟩ := hr
  have D1 := Lib.hid (fun w => dot_any m.a x m.c y 16 w ra.i hx.i rc.i hy.i (by decide))
  rw [pair_lin ra hx rc hy] at D1
  have D2 := Lib.hid (fun w => dot_any m.b x m.d y 16 w rb.i hx.i rd.i hy.i (by decide))
  rw [pair_lin rb hx rd hy] at D2
  clear ra rb rc rd re rf hx hy
  obtain ⟨hbm, hbp, hbz, hbb⟩ := boxes3 w m x y
  obtain ⟨a, b, c, d, e0, f⟩ := m
  simp only [Mtx.cells] at hbm hbp hbz hbb
  have HM1 := Lib.hid hbm
  have HP1 := Lib.hid hbp
  have HZ1 := Lib.hid hbz
  have HB1 := Lib.hid hbb
  clear hbm hbp hbz hbb
  dsimp only at D1 D2 ⊢
  generalize linA a x c y = X at *
  generalize linA b x d y = Y at *
  show Calls _ _ #[.agg #[.int .i64 a, .int .i64 b, .int .i64 c, .int .i64 d, .int .i64 e0, .int .i64 f], .agg #[.int .i64 x, .int .i64 y]] w _
  go_enter Try.func42, Try.ntmps42
  go_wp2_with fail
  generalize ((w.alloc (.cells #[.int .i64 a, .int .i64 b, .int .i64 c, .int .i64 d, .int .i64 e0, .int .i64 f] 23)).alloc (.cells #[.int .i64 x, .int .i64 y] 25)).alloc (.cells #[.int .i64 0, .int .i64 0] 25) = w1 at *
  have m1_0 : w1.cell? ⟨w.heap.size, 0, none⟩ = some (.int .i64 a) := HM1.out.c0
  have m1_1 : w1.cell? ⟨w.heap.size, 1, none⟩ = some (.int .i64 b) := HM1.out.c1
  have m1_2 : w1.cell? ⟨w.heap.size, 2, none⟩ = some (.int .i64 c) := HM1.out.c2
  have m1_3 : w1.cell? ⟨w.heap.size, 3, none⟩ = some (.int .i64 d) := HM1.out.c3
  have m1_4 : w1.cell? ⟨w.heap.size, 4, none⟩ = some (.int .i64 e0) := HM1.out.c4
  have m1_5 : w1.cell? ⟨w.heap.size, 5, none⟩ = some (.int .i64 f) := HM1.out.c5
  have p1_0 : w1.cell? ⟨w.heap.size + 1, 0, none⟩ = some (.int .i64 x) := HP1.out.c0
  have p1_1 : w1.cell? ⟨w.heap.size + 1, 1, none⟩ = some (.int .i64 y) := HP1.out.c1
  go_wp2_with fail
  refine (D1.out _).mono ?_
  rintro e w2 ⟨rfl, b2⟩
  have HB2 := Lib.hid (HB1.out.trans (b2.mono HB1.out.size))
  have HM2 := Lib.hid (HM1.out.next b2)
  have HP2 := Lib.hid (HP1.out.next b2)
  have HZ2 := Lib.hid (HZ1.out.next b2)
  clear b2
  clear m1_0 m1_1 m1_2 m1_3 m1_4 m1_5 p1_0 p1_1
  have m2_0 : w2.cell? ⟨w.heap.size, 0, none⟩ = some (.int .i64 a) := HM2.out.c0
  have m2_1 : w2.cell? ⟨w.heap.size, 1, none⟩ = some (.int .i64 b) := HM2.out.c1
  have m2_2 : w2.cell? ⟨w.heap.size, 2, none⟩ = some (.int .i64 c) := HM2.out.c2
  have m2_3 : w2.cell? ⟨w.heap.size, 3, none⟩ = some (.int .i64 d) := HM2.out.c3
  have m2_4 : w2.cell? ⟨w.heap.size, 4, none⟩ = some (.int .i64 e0) := HM2.out.c4
  have m2_5 : w2.cell? ⟨w.heap.size, 5, none⟩ = some (.int .i64 f) := HM2.out.c5
  have p2_0 : w2.cell? ⟨w.heap.size + 1, 0, none⟩ = some (.int .i64 x) := HP2.out.c0
  have p2_1 : w2.cell? ⟨w.heap.size + 1, 1, none⟩ = some (.int .i64 y) := HP2.out.c1
  go_wp2_with fail
  refine (D2.out _).mono ?_
  rintro e w3 ⟨rfl, b3⟩
  have HB3 := Lib.hid (HB2.out.trans (b3.mono HB2.out.size))
  have HM3 := Lib.hid (HM2.out.next b3)
  have HP3 := Lib.hid (HP2.out.next b3)
  have HZ3 := Lib.hid (HZ2.out.next b3)
  clear b3
  clear m2_0 m2_1 m2_2 m2_3 m2_4 m2_5 p2_0 p2_1
  have z3_0 : w3.cell? ⟨w.heap.size + 1 + 1, 0, none⟩ = some (.int .i64 0) := HZ3.out.c0
  have f3_0 := HZ3.out.z 0
  have z3_1 : w3.cell? ⟨w.heap.size + 1 + 1, 1, none⟩ = some (.int .i64 0) := HZ3.out.c1
  have f3_1 := HZ3.out.z 1
  go_wp2_with fail
  exact pe_ret Try.results42 (HZ3.out.set X Y) (below_pt8 HB3.out (by omega) (.int .i64 X) (.int .i64 Y)) rfl
/-- How take ends. -/
def takeE (r : (Int × Int) × Int) : Ending := if r.2 = 0 then .returned (.agg #[.int .i64 r.1.1, .int .i64 r.1.2]) else Gives r.2
theorem takeE_ok (x y : Int) : takeE ((x, y), 0) = .returned (.agg #[.int .i64 x, .int .i64 y]) := rfl
theorem takeE_one (p : Int × Int) : takeE (p, 1) = Gives 1 := rfl
theorem takeE_two (p : Int × Int) : takeE (p, 2) = Gives 2 := rfl
set_option maxHeartbeats 4000000 in
set_option maxRecDepth 100000 in
theorem take_any (m : Mtx) (x y : Int) (w : World) (hr : m.right) (hx : I64 x) (hy : I64 y) :
    Calls Try.prog 37 #[m.val, .agg #[.int .i64 x, .int .i64 y]] w fun e w' => e = takeE (applyS m x y) ∧ Below w.heap.size w w' := by
  have NE := Lib.hid (fun w => near_any x y w hx hy)
  have ME1 := Lib.hid (fun w => must_no 1 w)
  have ME2 := Lib.hid (fun w => must_no 2 w)
  have MK1 := Lib.hid (fun w => must_ok 1 w)
  have MK2 := Lib.hid (fun w => must_ok 2 w)
  unfold Gives at ME1 ME2
  clear hx hy
  by_cases hn : In32 x ∧ In32 y
  case neg =>
    have hS : applyS m x y = ((0, 0), 1) := by unfold applyS; rw [if_neg (fun h => hn h.2)]
    rw [hS, takeE_one]
    rw [decide_eq_false hn] at NE
    clear hS hn hr MK1 MK2 ME2
    obtain ⟨hbm, hbp, hbz, hbb⟩ := boxes3 w m x y
    obtain ⟨a, b, c, d, e0, f⟩ := m
    simp only [Mtx.cells] at hbm hbp hbz hbb
    have HM1 := Lib.hid hbm
    have HP1 := Lib.hid hbp
    have HZ1 := Lib.hid hbz
    have HB1 := Lib.hid hbb
    clear hbm hbp hbz hbb
    show Calls _ _ #[.agg #[.int .i64 a, .int .i64 b, .int .i64 c, .int .i64 d, .int .i64 e0, .int .i64 f], .agg #[.int .i64 x, .int .i64 y]] w _
    go_enter Try.func37, Try.ntmps37
    go_wp2_with fail
    generalize ((w.alloc (.cells #[.int .i64 a, .int .i64 b, .int .i64 c, .int .i64 d, .int .i64 e0, .int .i64 f] 23)).alloc (.cells #[.int .i64 x, .int .i64 y] 25)).alloc (.cells #[.int .i64 0, .int .i64 0] 25) = w1 at *
    have p1_0 : w1.cell? ⟨w.heap.size + 1, 0, none⟩ = some (.int .i64 x) := HP1.out.c0
    have p1_1 : w1.cell? ⟨w.heap.size + 1, 1, none⟩ = some (.int .i64 y) := HP1.out.c1
    go_wp2_with fail
    refine (NE.out _).mono ?_
    rintro e w2 ⟨rfl, b2⟩
    have HB2 := Lib.hid (HB1.out.trans (b2.mono HB1.out.size))
    have HM2 := Lib.hid (HM1.out.next b2)
    have HP2 := Lib.hid (HP1.out.next b2)
    have HZ2 := Lib.hid (HZ1.out.next b2)
    clear b2
    clear p1_0 p1_1
    go_wp2_with fail
    refine (ME1.out _).mono ?_
    rintro e wm ⟨rfl, rfl⟩
    go_wp2_with fail
    exact ⟨rfl, rfl, HB2.out⟩
  rw [decide_eq_true hn] at NE
  have ST := Lib.hid (fun w => stretch_any m x y w hr hn.1 hn.2)
  have hS : applyS m x y = if In32 (linA m.a x m.c y + m.e) ∧ In32 (linA m.b x m.d y + m.f) then ((linA m.a x m.c y + m.e, linA m.b x m.d y + m.f), 0) else ((0, 0), 2) := by
    unfold applyS
    rw [if_pos ⟨hr, hn⟩]
    rfl
  rw [hS]
  have b1 := lin_near hr.1 hn.1 hr.2.2.1 hn.2
  have b2 := lin_near hr.2.1 hn.1 hr.2.2.2.1 hn.2
  have b3 := hr.2.2.2.2.1
  have b4 := hr.2.2.2.2.2
  unfold In32 at b3 b4
  clear hS hn hr ME1
  obtain ⟨hbm, hbp, hbz, hbb⟩ := boxes3 w m x y
  obtain ⟨a, b, c, d, e0, f⟩ := m
  simp only [Mtx.cells] at hbm hbp hbz hbb
  have HM1 := Lib.hid hbm
  have HP1 := Lib.hid hbp
  have HZ1 := Lib.hid hbz
  have HB1 := Lib.hid hbb
  clear hbm hbp hbz hbb
  dsimp only at ST b1 b2 b3 b4 ⊢
  generalize linA a x c y = X at *
  generalize linA b x d y = Y at *
  have e1 : IntKind.i64.wrap (X + e0) = X + e0 := IntWalk.i64_in _ (by omega)
  have e2 : IntKind.i64.wrap (Y + f) = Y + f := IntWalk.i64_in _ (by omega)
  have iX : I64 (X + e0) := ⟨by omega, by omega⟩
  have iY : I64 (Y + f) := ⟨by omega, by omega⟩
  have N2 := Lib.hid (fun w => near_any (X + e0) (Y + f) w iX iY)
  clear b1 b2 b3 b4 iX iY
  obtain ⟨R, hR⟩ : ∃ R, takeE (if In32 (X + e0) ∧ In32 (Y + f) then ((X + e0, Y + f), 0) else ((0, 0), 2)) = R := ⟨_, rfl⟩
  rw [hR]
  have HR := Lib.hid hR
  clear hR
  show Calls _ _ #[.agg #[.int .i64 a, .int .i64 b, .int .i64 c, .int .i64 d, .int .i64 e0, .int .i64 f], .agg #[.int .i64 x, .int .i64 y]] w _
  go_enter Try.func37, Try.ntmps37
  go_wp2_with fail
  generalize ((w.alloc (.cells #[.int .i64 a, .int .i64 b, .int .i64 c, .int .i64 d, .int .i64 e0, .int .i64 f] 23)).alloc (.cells #[.int .i64 x, .int .i64 y] 25)).alloc (.cells #[.int .i64 0, .int .i64 0] 25) = w1 at *
  have p1_0 : w1.cell? ⟨w.heap.size + 1, 0, none⟩ = some (.int .i64 x) := HP1.out.c0
  have p1_1 : w1.cell? ⟨w.heap.size + 1, 1, none⟩ = some (.int .i64 y) := HP1.out.c1
  go_wp2_with fail
  refine (NE.out _).mono ?_
  rintro e w2 ⟨rfl, b2⟩
  have HB2 := Lib.hid (HB1.out.trans (b2.mono HB1.out.size))
  have HM2 := Lib.hid (HM1.out.next b2)
  have HP2 := Lib.hid (HP1.out.next b2)
  have HZ2 := Lib.hid (HZ1.out.next b2)
  clear b2
  clear p1_0 p1_1
  have m2_0 : w2.cell? ⟨w.heap.size, 0, none⟩ = some (.int .i64 a) := HM2.out.c0
  have m2_1 : w2.cell? ⟨w.heap.size, 1, none⟩ = some (.int .i64 b) := HM2.out.c1
  have m2_2 : w2.cell? ⟨w.heap.size, 2, none⟩ = some (.int .i64 c) := HM2.out.c2
  have m2_3 : w2.cell? ⟨w.heap.size, 3, none⟩ = some (.int .i64 d) := HM2.out.c3
  have m2_4 : w2.cell? ⟨w.heap.size, 4, none⟩ = some (.int .i64 e0) := HM2.out.c4
  have m2_5 : w2.cell? ⟨w.heap.size, 5, none⟩ = some (.int .i64 f) := HM2.out.c5
  have p2_0 : w2.cell? ⟨w.heap.size + 1, 0, none⟩ = some (.int .i64 x) := HP2.out.c0
  have p2_1 : w2.cell? ⟨w.heap.size + 1, 1, none⟩ = some (.int .i64 y) := HP2.out.c1
  go_wp2_with fail
  refine (MK1.out _).mono ?_
  rintro e wm ⟨rfl, rfl⟩
  go_wp2_with fail
  refine (ST.out _).mono ?_
  rintro e w3 ⟨rfl, b3⟩
  have HB3 := Lib.hid (HB2.out.trans (b3.mono HB2.out.size))
  have HM3 := Lib.hid (HM2.out.next b3)
  have HP3 := Lib.hid (HP2.out.next b3)
  have HZ3 := Lib.hid (HZ2.out.next b3)
  clear b3
  clear m2_0 m2_1 m2_2 m2_3 m2_4 m2_5 p2_0 p2_1
  go_upto_region 3 with fail
  have al := (Below.refl w3.heap.size w3).alloc (Nat.le_refl _) (.cells #[.int .i64 X, .int .i64 Y] 25)
  have HQ4 := Lib.hid (PBox.new w3 X Y)
  have HB4 := Lib.hid (HB3.out.alloc HB3.out.size (.cells #[.int .i64 X, .int .i64 Y] 25))
  have HM4 := Lib.hid (HM3.out.next al)
  have HZ4 := Lib.hid (HZ3.out.next al)
  have l3 := HB3.out.size
  have lm3 := HM3.out.lt
  have lz3 := HZ3.out.lt
  clear al
  generalize w3.alloc (.cells #[.int .i64 X, .int .i64 Y] 25) = w4 at *
  generalize w3.heap.size = q at *
  have a0 := HQ4.out.c0
  have a1 := HQ4.out.z 0
  have a2 := HM4.out.c4
  dsimp only at a2
  go_upto_region 4 with fail
  clear a0 a1 a2
  have HQ5 := Lib.hid (HQ4.out.set0 (X + e0))
  have HB5 := Lib.hid (HB4.out.setCell (p := ⟨q, 0, none⟩) l3 (.int .i64 (X + e0)))
  have HM5 := Lib.hid (HM4.out.other (Nat.ne_of_lt lm3) 0 (.int .i64 (X + e0)))
  have HZ5 := Lib.hid (HZ4.out.other (Nat.ne_of_lt lz3) 0 (.int .i64 (X + e0)))
  generalize w4.setCell ⟨q, 0, none⟩ (.int .i64 (X + e0)) = w5 at *
  have a0 := HQ5.out.c1
  have a1 := HQ5.out.z 1
  have a2 := HM5.out.c5
  dsimp only at a2
  go_upto_region 5 with fail
  clear a0 a1 a2
  have HQ6 := Lib.hid (HQ5.out.set1 (Y + f))
  have HB6 := Lib.hid (HB5.out.setCell (p := ⟨q, 1, none⟩) l3 (.int .i64 (Y + f)))
  have HM6 := Lib.hid (HM5.out.other (Nat.ne_of_lt lm3) 1 (.int .i64 (Y + f)))
  have HZ6 := Lib.hid (HZ5.out.other (Nat.ne_of_lt lz3) 1 (.int .i64 (Y + f)))
  generalize w5.setCell ⟨q, 1, none⟩ (.int .i64 (Y + f)) = w6 at *
  have a0 := HQ6.out.c0
  have a1 := HQ6.out.c1
  clear HM4 HM5 HZ4 HZ5 HQ4 HQ5 HB4 HB5 lm3 lz3 HM6 e1 e2
  generalize X + e0 = X' at *
  generalize Y + f = Y' at *
  go_wp2_with fail
  by_cases ho : In32 X' ∧ In32 Y'
  · obtain rfl : .returned (.agg #[.int .i64 X', .int .i64 Y']) = R := by rw [← HR.out, if_pos ho]; rfl
    rw [decide_eq_true ho] at N2
    refine (N2.out _).mono ?_
    rintro e w7 ⟨rfl, b7⟩
    have HQ7 := Lib.hid (HQ6.out.next b7)
    have HZ7 := Lib.hid (HZ6.out.next b7)
    have HB7 := Lib.hid (HB6.out.trans (b7.mono HB6.out.size))
    clear a0 a1 b7
    go_wp2_with fail
    refine (MK2.out _).mono ?_
    rintro e wm ⟨rfl, rfl⟩
    have a0 := HQ7.out.c0
    have a1 := HQ7.out.c1
    have a2 := HZ7.out.c0
    have a3 := HZ7.out.c1
    have a4 := HZ7.out.z 0
    have a5 := HZ7.out.z 1
    go_wp2_with fail
    exact pe_ret Try.results37 (HZ7.out.set X' Y') (below_pt8 HB7.out (by omega) (.int .i64 X') (.int .i64 Y')) rfl
  · obtain rfl : .panicked [{ v := .iface 27 (.int .i64 2), recovered := false }] = R := by rw [← HR.out, if_neg ho]; rfl
    rw [decide_eq_false ho] at N2
    refine (N2.out _).mono ?_
    rintro e w7 ⟨rfl, b7⟩
    have HB7 := Lib.hid (HB6.out.trans (b7.mono HB6.out.size))
    clear a0 a1 b7
    go_wp2_with fail
    refine (ME2.out _).mono ?_
    rintro e wm ⟨rfl, rfl⟩
    go_wp2_with fail
    exact ⟨rfl, rfl, HB7.out⟩
end Go.Proofs.Ythnjdncnmdmjaaa
