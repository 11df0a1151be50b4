/-
  Package curve: Cut. (Typed by a program: wip/gen_crv4.py.)
-/
import Derived.Test.YtgkjbmejfcijkaaCrvSplit
import Derived.Lib.MinMax
namespace Go.Proofs.Ytgkjbmejfcijkaa
open Go.RowKit Go.Shelf
theorem how_mid : How 47 #[] 0 (fun _ => True) mid :=
  ⟨fun _ _ => by kernel_rfl, fun a b w ha hb _ => middle11 a b w ha hb, fun _ _ _ _ _ _ => trivial, fun _ _ ha hb => mid40 ha hb⟩
theorem cutA_sp (c : Crv) : spA mid c = c.cutA := rfl
theorem cutB_sp (c : Crv) : spB mid c = c.cutB := rfl
set_option maxHeartbeats 8000000 in
set_option maxRecDepth 100000 in
theorem ccut11 (c : Crv) (w : World) (hc : c.right) : Calls Try.prog 36 #[c.val] w fun e w' => e = .returned (.tuple #[c.cutA.val, c.cutB.val]) ∧ Below w.heap.size w w' := by
  have SP := Lib.hid (fun w => split11 how_mid c w hc (Nat.zero_le _) trivial)
  rw [cutA_sp, cutB_sp] at SP
  have CO := Lib.hid (fun w => corners11 c w)
  have TA := Lib.hid (fun w => through11 c.cutA w)
  have TB := Lib.hid (fun w => through11 c.cutB w)
  clear hc
  generalize c.cutA = a at *
  generalize c.cutB = b at *
  obtain ⟨px, py, qx, qy, rx, ry, sx, sy⟩ := c
  obtain ⟨a0, a1, a2, a3, a4, a5, a6, a7⟩ := a
  obtain ⟨f0, f1, f2, f3, f4, f5, f6, f7⟩ := b
  unfold Crv.val Crv.arr at *
  dsimp only at *
  obtain ⟨k1, k2, k3, k4⟩ := boxes_three w #[.int .i64 px, .int .i64 py, .int .i64 qx, .int .i64 qy, .int .i64 rx, .int .i64 ry, .int .i64 sx, .int .i64 sy] #[.int .i64 0, .int .i64 0, .int .i64 0, .int .i64 0, .int .i64 0, .int .i64 0, .int .i64 0, .int .i64 0] #[.int .i64 0, .int .i64 0, .int .i64 0, .int .i64 0, .int .i64 0, .int .i64 0, .int .i64 0, .int .i64 0] 25 25 25
  have HC0 := Lib.hid k1; have HP0 := Lib.hid k2; have HQ0 := Lib.hid k3; have HB0 := Lib.hid k4
  clear k1 k2 k3 k4
  go_enter Try.func36, Try.ntmps36
  go_upto_region 1 with fail
  generalize (((w.alloc (.cells #[.int .i64 px, .int .i64 py, .int .i64 qx, .int .i64 qy, .int .i64 rx, .int .i64 ry, .int .i64 sx, .int .i64 sy] 25)).alloc (.cells #[.int .i64 0, .int .i64 0, .int .i64 0, .int .i64 0, .int .i64 0, .int .i64 0, .int .i64 0, .int .i64 0] 25)).alloc (.cells #[.int .i64 0, .int .i64 0, .int .i64 0, .int .i64 0, .int .i64 0, .int .i64 0, .int .i64 0, .int .i64 0] 25)) = w1 at *
  have xC0 : w1.cell? ⟨w.heap.size, 0, none⟩ = some (.int .i64 px) := HC0.out.c 0 rfl
  have xC1 : w1.cell? ⟨w.heap.size, 1, none⟩ = some (.int .i64 py) := HC0.out.c 1 rfl
  have xC2 : w1.cell? ⟨w.heap.size, 2, none⟩ = some (.int .i64 qx) := HC0.out.c 2 rfl
  have xC3 : w1.cell? ⟨w.heap.size, 3, none⟩ = some (.int .i64 qy) := HC0.out.c 3 rfl
  have xC4 : w1.cell? ⟨w.heap.size, 4, none⟩ = some (.int .i64 rx) := HC0.out.c 4 rfl
  have xC5 : w1.cell? ⟨w.heap.size, 5, none⟩ = some (.int .i64 ry) := HC0.out.c 5 rfl
  have xC6 : w1.cell? ⟨w.heap.size, 6, none⟩ = some (.int .i64 sx) := HC0.out.c 6 rfl
  have xC7 : w1.cell? ⟨w.heap.size, 7, none⟩ = some (.int .i64 sy) := HC0.out.c 7 rfl
  go_wp2_with fail
  refine (CO.out _).mono ?_
  rintro e w2 ⟨rfl, b1⟩
  clear xC0 xC1 xC2 xC3 xC4 xC5 xC6 xC7
  have HB1 := Lib.hid (HB0.out.trans (b1.mono HB0.out.size))
  have HP1 := Lib.hid (HP0.out.next b1)
  have HQ1 := Lib.hid (HQ0.out.next b1)
  clear b1
  go_wp2_with fail
  refine (SP.out _).mono ?_
  rintro e w3 ⟨rfl, b2⟩
  have HB2 := Lib.hid (HB1.out.trans (b2.mono HB1.out.size))
  have HP2 := Lib.hid (HP1.out.next b2)
  have HQ2 := Lib.hid (HQ1.out.next b2)
  clear b2
  obtain ⟨k1, k2, k3⟩ := boxes_two w3 #[.int .i64 a0, .int .i64 a1, .int .i64 a2, .int .i64 a3, .int .i64 a4, .int .i64 a5, .int .i64 a6, .int .i64 a7] #[.int .i64 f0, .int .i64 f1, .int .i64 f2, .int .i64 f3, .int .i64 f4, .int .i64 f5, .int .i64 f6, .int .i64 f7] 79 79
  have b3 := k3
  have HB3 := Lib.hid (HB2.out.trans (b3.mono HB2.out.size))
  have HP3 := Lib.hid (HP2.out.next b3)
  have HQ3 := Lib.hid (HQ2.out.next b3)
  clear b3
  have HY3 := Lib.hid k1; have HZ3 := Lib.hid k2
  clear k1 k2 k3
  have g3 : w.heap.size + 1 + 1 < w3.heap.size := HQ2.out.lt
  go_upto_region 2 with fail
  generalize ((w3.alloc (.cells #[.int .i64 a0, .int .i64 a1, .int .i64 a2, .int .i64 a3, .int .i64 a4, .int .i64 a5, .int .i64 a6, .int .i64 a7] 79)).alloc (.cells #[.int .i64 f0, .int .i64 f1, .int .i64 f2, .int .i64 f3, .int .i64 f4, .int .i64 f5, .int .i64 f6, .int .i64 f7] 79)) = w4 at *
  generalize w3.heap.size = y at *
  have xY0 : w4.cell? ⟨y, 0, none⟩ = some (.int .i64 a0) := HY3.out.c 0 rfl
  have xY1 : w4.cell? ⟨y, 1, none⟩ = some (.int .i64 a1) := HY3.out.c 1 rfl
  have xY2 : w4.cell? ⟨y, 2, none⟩ = some (.int .i64 a2) := HY3.out.c 2 rfl
  have xY3 : w4.cell? ⟨y, 3, none⟩ = some (.int .i64 a3) := HY3.out.c 3 rfl
  have xY4 : w4.cell? ⟨y, 4, none⟩ = some (.int .i64 a4) := HY3.out.c 4 rfl
  have xY5 : w4.cell? ⟨y, 5, none⟩ = some (.int .i64 a5) := HY3.out.c 5 rfl
  have xY6 : w4.cell? ⟨y, 6, none⟩ = some (.int .i64 a6) := HY3.out.c 6 rfl
  have xY7 : w4.cell? ⟨y, 7, none⟩ = some (.int .i64 a7) := HY3.out.c 7 rfl
  have xZ0 : w4.cell? ⟨y + 1, 0, none⟩ = some (.int .i64 f0) := HZ3.out.c 0 rfl
  have xZ1 : w4.cell? ⟨y + 1, 1, none⟩ = some (.int .i64 f1) := HZ3.out.c 1 rfl
  have xZ2 : w4.cell? ⟨y + 1, 2, none⟩ = some (.int .i64 f2) := HZ3.out.c 2 rfl
  have xZ3 : w4.cell? ⟨y + 1, 3, none⟩ = some (.int .i64 f3) := HZ3.out.c 3 rfl
  have xZ4 : w4.cell? ⟨y + 1, 4, none⟩ = some (.int .i64 f4) := HZ3.out.c 4 rfl
  have xZ5 : w4.cell? ⟨y + 1, 5, none⟩ = some (.int .i64 f5) := HZ3.out.c 5 rfl
  have xZ6 : w4.cell? ⟨y + 1, 6, none⟩ = some (.int .i64 f6) := HZ3.out.c 6 rfl
  have xZ7 : w4.cell? ⟨y + 1, 7, none⟩ = some (.int .i64 f7) := HZ3.out.c 7 rfl
  have HBz := Lib.hid (Below.refl w4.heap.size w4)
  have HBd := Lib.hid HBz.out.drew
  go_region_held3 (fun w' => w'.cell? ⟨y, 0, none⟩ = some (.int .i64 a0) ∧ w'.cell? ⟨y, 1, none⟩ = some (.int .i64 a1) ∧ w'.cell? ⟨y, 2, none⟩ = some (.int .i64 a2) ∧ w'.cell? ⟨y, 3, none⟩ = some (.int .i64 a3) ∧ w'.cell? ⟨y, 4, none⟩ = some (.int .i64 a4) ∧ w'.cell? ⟨y, 5, none⟩ = some (.int .i64 a5) ∧ w'.cell? ⟨y, 6, none⟩ = some (.int .i64 a6) ∧ w'.cell? ⟨y, 7, none⟩ = some (.int .i64 a7) ∧ w'.cell? ⟨y + 1, 0, none⟩ = some (.int .i64 f0) ∧ w'.cell? ⟨y + 1, 1, none⟩ = some (.int .i64 f1) ∧ w'.cell? ⟨y + 1, 2, none⟩ = some (.int .i64 f2) ∧ w'.cell? ⟨y + 1, 3, none⟩ = some (.int .i64 f3) ∧ w'.cell? ⟨y + 1, 4, none⟩ = some (.int .i64 f4) ∧ w'.cell? ⟨y + 1, 5, none⟩ = some (.int .i64 f5) ∧ w'.cell? ⟨y + 1, 6, none⟩ = some (.int .i64 f6) ∧ w'.cell? ⟨y + 1, 7, none⟩ = some (.int .i64 f7)) (first | (refine ⟨?_, ?_, ?_, ?_, ?_, ?_, ?_, ?_, ?_, ?_, ?_, ?_, ?_, ?_, ?_, ?_⟩ <;> first | with_reducible assumption) | (simp [go_sem, *]; done))
    (first
    | (go_at_call 48; (with_reducible refine (TA.out _).mono ?_); rintro e v1 ⟨rfl, bc1⟩; have HBc1 := Lib.hid (HBd.out.trans (bc1.mono HBd.out.size)); clear xY0 xY1 xY2 xY3 xY4 xY5 xY6 xY7 xZ0 xZ1 xZ2 xZ3 xZ4 xZ5 xZ6 xZ7; have hY_ := HY3.out.next HBc1.out; have xY0 : v1.cell? ⟨y, 0, none⟩ = some (.int .i64 a0) := hY_.c 0 rfl; have xY1 : v1.cell? ⟨y, 1, none⟩ = some (.int .i64 a1) := hY_.c 1 rfl; have xY2 : v1.cell? ⟨y, 2, none⟩ = some (.int .i64 a2) := hY_.c 2 rfl; have xY3 : v1.cell? ⟨y, 3, none⟩ = some (.int .i64 a3) := hY_.c 3 rfl; have xY4 : v1.cell? ⟨y, 4, none⟩ = some (.int .i64 a4) := hY_.c 4 rfl; have xY5 : v1.cell? ⟨y, 5, none⟩ = some (.int .i64 a5) := hY_.c 5 rfl; have xY6 : v1.cell? ⟨y, 6, none⟩ = some (.int .i64 a6) := hY_.c 6 rfl; have xY7 : v1.cell? ⟨y, 7, none⟩ = some (.int .i64 a7) := hY_.c 7 rfl; clear hY_; have hZ_ := HZ3.out.next HBc1.out; have xZ0 : v1.cell? ⟨y + 1, 0, none⟩ = some (.int .i64 f0) := hZ_.c 0 rfl; have xZ1 : v1.cell? ⟨y + 1, 1, none⟩ = some (.int .i64 f1) := hZ_.c 1 rfl; have xZ2 : v1.cell? ⟨y + 1, 2, none⟩ = some (.int .i64 f2) := hZ_.c 2 rfl; have xZ3 : v1.cell? ⟨y + 1, 3, none⟩ = some (.int .i64 f3) := hZ_.c 3 rfl; have xZ4 : v1.cell? ⟨y + 1, 4, none⟩ = some (.int .i64 f4) := hZ_.c 4 rfl; have xZ5 : v1.cell? ⟨y + 1, 5, none⟩ = some (.int .i64 f5) := hZ_.c 5 rfl; have xZ6 : v1.cell? ⟨y + 1, 6, none⟩ = some (.int .i64 f6) := hZ_.c 6 rfl; have xZ7 : v1.cell? ⟨y + 1, 7, none⟩ = some (.int .i64 f7) := hZ_.c 7 rfl; clear hZ_; clear bc1)
    | (go_at_call 48; (with_reducible refine (TB.out _).mono ?_); rintro e v2 ⟨rfl, bc2⟩; have HBc2 := Lib.hid (HBc1.out.trans (bc2.mono HBc1.out.size)); clear xY0 xY1 xY2 xY3 xY4 xY5 xY6 xY7 xZ0 xZ1 xZ2 xZ3 xZ4 xZ5 xZ6 xZ7; have hY_ := HY3.out.next HBc2.out; have xY0 : v2.cell? ⟨y, 0, none⟩ = some (.int .i64 a0) := hY_.c 0 rfl; have xY1 : v2.cell? ⟨y, 1, none⟩ = some (.int .i64 a1) := hY_.c 1 rfl; have xY2 : v2.cell? ⟨y, 2, none⟩ = some (.int .i64 a2) := hY_.c 2 rfl; have xY3 : v2.cell? ⟨y, 3, none⟩ = some (.int .i64 a3) := hY_.c 3 rfl; have xY4 : v2.cell? ⟨y, 4, none⟩ = some (.int .i64 a4) := hY_.c 4 rfl; have xY5 : v2.cell? ⟨y, 5, none⟩ = some (.int .i64 a5) := hY_.c 5 rfl; have xY6 : v2.cell? ⟨y, 6, none⟩ = some (.int .i64 a6) := hY_.c 6 rfl; have xY7 : v2.cell? ⟨y, 7, none⟩ = some (.int .i64 a7) := hY_.c 7 rfl; clear hY_; have hZ_ := HZ3.out.next HBc2.out; have xZ0 : v2.cell? ⟨y + 1, 0, none⟩ = some (.int .i64 f0) := hZ_.c 0 rfl; have xZ1 : v2.cell? ⟨y + 1, 1, none⟩ = some (.int .i64 f1) := hZ_.c 1 rfl; have xZ2 : v2.cell? ⟨y + 1, 2, none⟩ = some (.int .i64 f2) := hZ_.c 2 rfl; have xZ3 : v2.cell? ⟨y + 1, 3, none⟩ = some (.int .i64 f3) := hZ_.c 3 rfl; have xZ4 : v2.cell? ⟨y + 1, 4, none⟩ = some (.int .i64 f4) := hZ_.c 4 rfl; have xZ5 : v2.cell? ⟨y + 1, 5, none⟩ = some (.int .i64 f5) := hZ_.c 5 rfl; have xZ6 : v2.cell? ⟨y + 1, 6, none⟩ = some (.int .i64 f6) := hZ_.c 6 rfl; have xZ7 : v2.cell? ⟨y + 1, 7, none⟩ = some (.int .i64 f7) := hZ_.c 7 rfl; clear hZ_; have hP_ := HP3.out.next HBc2.out; have uP0 : v2.cell? ⟨w.heap.size + 1, 0, none⟩ = some (.int .i64 0) := hP_.c 0 rfl; have rP0 := hP_.z 0; have uP1 : v2.cell? ⟨w.heap.size + 1, 1, none⟩ = some (.int .i64 0) := hP_.c 1 rfl; have rP1 := hP_.z 1; have uP2 : v2.cell? ⟨w.heap.size + 1, 2, none⟩ = some (.int .i64 0) := hP_.c 2 rfl; have rP2 := hP_.z 2; have uP3 : v2.cell? ⟨w.heap.size + 1, 3, none⟩ = some (.int .i64 0) := hP_.c 3 rfl; have rP3 := hP_.z 3; have uP4 : v2.cell? ⟨w.heap.size + 1, 4, none⟩ = some (.int .i64 0) := hP_.c 4 rfl; have rP4 := hP_.z 4; have uP5 : v2.cell? ⟨w.heap.size + 1, 5, none⟩ = some (.int .i64 0) := hP_.c 5 rfl; have rP5 := hP_.z 5; have uP6 : v2.cell? ⟨w.heap.size + 1, 6, none⟩ = some (.int .i64 0) := hP_.c 6 rfl; have rP6 := hP_.z 6; have uP7 : v2.cell? ⟨w.heap.size + 1, 7, none⟩ = some (.int .i64 0) := hP_.c 7 rfl; have rP7 := hP_.z 7; clear hP_; have hQ_ := HQ3.out.next HBc2.out; have uQ0 : v2.cell? ⟨w.heap.size + 1 + 1, 0, none⟩ = some (.int .i64 0) := hQ_.c 0 rfl; have rQ0 := hQ_.z 0; have uQ1 : v2.cell? ⟨w.heap.size + 1 + 1, 1, none⟩ = some (.int .i64 0) := hQ_.c 1 rfl; have rQ1 := hQ_.z 1; have uQ2 : v2.cell? ⟨w.heap.size + 1 + 1, 2, none⟩ = some (.int .i64 0) := hQ_.c 2 rfl; have rQ2 := hQ_.z 2; have uQ3 : v2.cell? ⟨w.heap.size + 1 + 1, 3, none⟩ = some (.int .i64 0) := hQ_.c 3 rfl; have rQ3 := hQ_.z 3; have uQ4 : v2.cell? ⟨w.heap.size + 1 + 1, 4, none⟩ = some (.int .i64 0) := hQ_.c 4 rfl; have rQ4 := hQ_.z 4; have uQ5 : v2.cell? ⟨w.heap.size + 1 + 1, 5, none⟩ = some (.int .i64 0) := hQ_.c 5 rfl; have rQ5 := hQ_.z 5; have uQ6 : v2.cell? ⟨w.heap.size + 1 + 1, 6, none⟩ = some (.int .i64 0) := hQ_.c 6 rfl; have rQ6 := hQ_.z 6; have uQ7 : v2.cell? ⟨w.heap.size + 1 + 1, 7, none⟩ = some (.int .i64 0) := hQ_.c 7 rfl; have rQ7 := hQ_.z 7; clear hQ_; clear bc2)
    )
  clear xY0 xY1 xY2 xY3 xY4 xY5 xY6 xY7 xZ0 xZ1 xZ2 xZ3 xZ4 xZ5 xZ6 xZ7
  clear uP0 rP0 uP1 rP1 uP2 rP2 uP3 rP3 uP4 rP4 uP5 rP5 uP6 rP6 uP7 rP7
  clear uQ0 rQ0 uQ1 rQ1 uQ2 rQ2 uQ3 rQ3 uQ4 rQ4 uQ5 rQ5 uQ6 rQ6 uQ7 rQ7
  have HB4 := Lib.hid (HB3.out.trans (HBc2.out.mono HB3.out.size))
  have HP4 := Lib.hid (HP3.out.next HBc2.out)
  have HQ4 := Lib.hid (HQ3.out.next HBc2.out)
  go_wp2_with fail
  exact crv2_ret Try.results36 ((HP4.out.set8 _ _ _ _ _ _ _ _).other8 (by omega) _ _ _ _ _ _ _ _) ((HQ4.out.other8 (by omega) _ _ _ _ _ _ _ _).set8 _ _ _ _ _ _ _ _) (below_8 (below_8 HB4.out (by omega) _ _ _ _ _ _ _ _) (by omega) _ _ _ _ _ _ _ _) rfl rfl
end Go.Proofs.Ytgkjbmejfcijkaa
