/-
  The example of layer 11's laws holds. (Typed by a program: wip/gen_wakes11.py.)
-/
import Derived.Test.YtainocdbapnaaaaCrvCut
import Derived.Test.YtainocdbapnaaaaCrvElev
import Derived.Test.YtainocdbapnaaaaCrvFlat
namespace Go.Proofs.Ytainocdbapnaaaa
open Go.RowKit Go.Shelf

set_option maxHeartbeats 1000000 in
set_option maxRecDepth 100000 in
theorem line11 (a b c d : Int) (w : World) : Calls Try.prog 22 #[.int .i64 a, .int .i64 b, .int .i64 c, .int .i64 d] w fun e w' => e = .returned (.agg #[.int .i64 a, .int .i64 0, .int .i64 b, .int .i64 0, .int .i64 c, .int .i64 0, .int .i64 d, .int .i64 0]) ∧ Below w.heap.size w w' := by
  have HZ0 := Lib.hid (CBox.new w 25 #[.int .i64 0, .int .i64 0, .int .i64 0, .int .i64 0, .int .i64 0, .int .i64 0, .int .i64 0, .int .i64 0])
  have HB0 := Lib.hid ((Below.refl w.heap.size w).alloc (Nat.le_refl _) (.cells #[.int .i64 0, .int .i64 0, .int .i64 0, .int .i64 0, .int .i64 0, .int .i64 0, .int .i64 0, .int .i64 0] 25))
  go_enter Try.func22, Try.ntmps22
  go_upto_region 1 with fail
  generalize w.alloc (.cells #[.int .i64 0, .int .i64 0, .int .i64 0, .int .i64 0, .int .i64 0, .int .i64 0, .int .i64 0, .int .i64 0] 25) = w1 at *
  have u0 : w1.cell? ⟨w.heap.size, 0, none⟩ = some (.int .i64 0) := HZ0.out.c 0 rfl; have r0 := HZ0.out.z 0
  have u1 : w1.cell? ⟨w.heap.size, 1, none⟩ = some (.int .i64 0) := HZ0.out.c 1 rfl; have r1 := HZ0.out.z 1
  have u2 : w1.cell? ⟨w.heap.size, 2, none⟩ = some (.int .i64 0) := HZ0.out.c 2 rfl; have r2 := HZ0.out.z 2
  have u3 : w1.cell? ⟨w.heap.size, 3, none⟩ = some (.int .i64 0) := HZ0.out.c 3 rfl; have r3 := HZ0.out.z 3
  have u4 : w1.cell? ⟨w.heap.size, 4, none⟩ = some (.int .i64 0) := HZ0.out.c 4 rfl; have r4 := HZ0.out.z 4
  have u5 : w1.cell? ⟨w.heap.size, 5, none⟩ = some (.int .i64 0) := HZ0.out.c 5 rfl; have r5 := HZ0.out.z 5
  have u6 : w1.cell? ⟨w.heap.size, 6, none⟩ = some (.int .i64 0) := HZ0.out.c 6 rfl; have r6 := HZ0.out.z 6
  have u7 : w1.cell? ⟨w.heap.size, 7, none⟩ = some (.int .i64 0) := HZ0.out.c 7 rfl; have r7 := HZ0.out.z 7
  go_wp2_with fail
  exact crv_ret Try.results22 (CBox.set8 HZ0.out _ _ _ _ _ _ _ _) (below_8 HB0.out (by omega) _ _ _ _ _ _ _ _) rfl
set_option maxHeartbeats 8000000 in
set_option maxRecDepth 100000 in
theorem wakes11 (w : World) : Calls Try.prog 8 #[] w fun e w' => e = .returned (.bool true) ∧ Below w.heap.size w w' := by
  have L1 := Lib.hid (fun w => line11 0 4 8 12 w)
  have L2 := Lib.hid (fun w => line11 0 2 4 6 w)
  have CU := Lib.hid (fun w => ccut11 ⟨0, 0, 4, 0, 8, 0, 12, 0⟩ w (by decide))
  have FL := Lib.hid (fun w => cflat11 ⟨0, 0, 2, 0, 4, 0, 6, 0⟩ w (by decide))
  have EL := Lib.hid (fun w => celev11 0 0 3 0 6 0 w (by decide) (by decide) (by decide) (by decide) (by decide) (by decide))
  rw [show Crv.cutA ⟨0, 0, 4, 0, 8, 0, 12, 0⟩ = ⟨0, 0, 2, 0, 4, 0, 6, 0⟩ from by unfold Crv.cutA; rw [Crv.mk.injEq]; decide, show Crv.cutB ⟨0, 0, 4, 0, 8, 0, 12, 0⟩ = ⟨6, 0, 8, 0, 10, 0, 12, 0⟩ from by unfold Crv.cutB; rw [Crv.mk.injEq]; decide] at CU
  rw [show decide (Crv.flat ⟨0, 0, 2, 0, 4, 0, 6, 0⟩) = true from by decide] at FL
  rw [show third 0 3 = 2 from by decide, show third 0 0 = 0 from by decide, show third 6 3 = 4 from by decide] at EL
  unfold Crv.val Crv.arr at *
  dsimp only at *
  have HB0 := Lib.hid (Below.refl w.heap.size w)
  go_enter Try.func8, Try.ntmps8
  go_wp2_with fail
  refine (L1.out _).mono ?_
  rintro e w1 ⟨rfl, b1⟩
  have HB1 := Lib.hid (HB0.out.trans (b1.mono HB0.out.size))
  clear b1
  go_wp2_with fail
  refine (CU.out _).mono ?_
  rintro e w2 ⟨rfl, b2⟩
  have HB2 := Lib.hid (HB1.out.trans (b2.mono HB1.out.size))
  clear b2
  obtain ⟨k1, k2, k3⟩ := boxes_two w2 #[.int .i64 0, .int .i64 0, .int .i64 2, .int .i64 0, .int .i64 4, .int .i64 0, .int .i64 6, .int .i64 0] #[.int .i64 6, .int .i64 0, .int .i64 8, .int .i64 0, .int .i64 10, .int .i64 0, .int .i64 12, .int .i64 0] 25 25
  have b3 := k3
  have HB3 := Lib.hid (HB2.out.trans (b3.mono HB2.out.size))
  clear b3
  have HA3 := Lib.hid k1; have HD3 := Lib.hid k2
  clear k1 k2 k3
  go_upto_region 2 with fail
  generalize ((w2.alloc (.cells #[.int .i64 0, .int .i64 0, .int .i64 2, .int .i64 0, .int .i64 4, .int .i64 0, .int .i64 6, .int .i64 0] 25)).alloc (.cells #[.int .i64 6, .int .i64 0, .int .i64 8, .int .i64 0, .int .i64 10, .int .i64 0, .int .i64 12, .int .i64 0] 25)) = w3 at *
  generalize w2.heap.size = aq at *
  go_wp2_with fail
  refine (EL.out _).mono ?_
  rintro e w4 ⟨rfl, b4⟩
  have HB4 := Lib.hid (HB3.out.trans (b4.mono HB3.out.size))
  have HA4 := Lib.hid (HA3.out.next b4)
  have HD4 := Lib.hid (HD3.out.next b4)
  clear b4
  have k1 := CBox.new w4 25 #[.int .i64 0, .int .i64 0, .int .i64 2, .int .i64 0, .int .i64 4, .int .i64 0, .int .i64 6, .int .i64 0]
  have b5 := (Below.refl w4.heap.size w4).alloc (Nat.le_refl _) (.cells #[.int .i64 0, .int .i64 0, .int .i64 2, .int .i64 0, .int .i64 4, .int .i64 0, .int .i64 6, .int .i64 0] 25)
  have HB5 := Lib.hid (HB4.out.trans (b5.mono HB4.out.size))
  have HA5 := Lib.hid (HA4.out.next b5)
  have HD5 := Lib.hid (HD4.out.next b5)
  clear b5
  have HE5 := Lib.hid k1
  clear k1
  go_upto_region 3 with fail
  generalize w4.alloc (.cells #[.int .i64 0, .int .i64 0, .int .i64 2, .int .i64 0, .int .i64 4, .int .i64 0, .int .i64 6, .int .i64 0] 25) = w5 at *
  generalize w4.heap.size = eq at *
  have xA0 : w5.cell? ⟨aq, 0, none⟩ = some (.int .i64 0) := HA5.out.c 0 rfl
  have xA1 : w5.cell? ⟨aq, 1, none⟩ = some (.int .i64 0) := HA5.out.c 1 rfl
  have xA2 : w5.cell? ⟨aq, 2, none⟩ = some (.int .i64 2) := HA5.out.c 2 rfl
  have xA3 : w5.cell? ⟨aq, 3, none⟩ = some (.int .i64 0) := HA5.out.c 3 rfl
  have xA4 : w5.cell? ⟨aq, 4, none⟩ = some (.int .i64 4) := HA5.out.c 4 rfl
  have xA5 : w5.cell? ⟨aq, 5, none⟩ = some (.int .i64 0) := HA5.out.c 5 rfl
  have xA6 : w5.cell? ⟨aq, 6, none⟩ = some (.int .i64 6) := HA5.out.c 6 rfl
  have xA7 : w5.cell? ⟨aq, 7, none⟩ = some (.int .i64 0) := HA5.out.c 7 rfl
  have xD0 : w5.cell? ⟨aq + 1, 0, none⟩ = some (.int .i64 6) := HD5.out.c 0 rfl
  have xE0 : w5.cell? ⟨eq, 0, none⟩ = some (.int .i64 0) := HE5.out.c 0 rfl
  have xE1 : w5.cell? ⟨eq, 1, none⟩ = some (.int .i64 0) := HE5.out.c 1 rfl
  have xE2 : w5.cell? ⟨eq, 2, none⟩ = some (.int .i64 2) := HE5.out.c 2 rfl
  have xE3 : w5.cell? ⟨eq, 3, none⟩ = some (.int .i64 0) := HE5.out.c 3 rfl
  have xE4 : w5.cell? ⟨eq, 4, none⟩ = some (.int .i64 4) := HE5.out.c 4 rfl
  have xE5 : w5.cell? ⟨eq, 5, none⟩ = some (.int .i64 0) := HE5.out.c 5 rfl
  have xE6 : w5.cell? ⟨eq, 6, none⟩ = some (.int .i64 6) := HE5.out.c 6 rfl
  have xE7 : w5.cell? ⟨eq, 7, none⟩ = some (.int .i64 0) := HE5.out.c 7 rfl
  have HBz := Lib.hid (Below.refl w5.heap.size w5)
  have HBd := Lib.hid HBz.out.drew
  go_region_held3 (fun w' => w'.cell? ⟨aq, 0, none⟩ = some (.int .i64 0) ∧ w'.cell? ⟨aq, 1, none⟩ = some (.int .i64 0) ∧ w'.cell? ⟨aq, 2, none⟩ = some (.int .i64 2) ∧ w'.cell? ⟨aq, 3, none⟩ = some (.int .i64 0) ∧ w'.cell? ⟨aq, 4, none⟩ = some (.int .i64 4) ∧ w'.cell? ⟨aq, 5, none⟩ = some (.int .i64 0) ∧ w'.cell? ⟨aq, 6, none⟩ = some (.int .i64 6) ∧ w'.cell? ⟨aq, 7, none⟩ = some (.int .i64 0) ∧ w'.cell? ⟨aq + 1, 0, none⟩ = some (.int .i64 6) ∧ w'.cell? ⟨eq, 0, none⟩ = some (.int .i64 0) ∧ w'.cell? ⟨eq, 1, none⟩ = some (.int .i64 0) ∧ w'.cell? ⟨eq, 2, none⟩ = some (.int .i64 2) ∧ w'.cell? ⟨eq, 3, none⟩ = some (.int .i64 0) ∧ w'.cell? ⟨eq, 4, none⟩ = some (.int .i64 4) ∧ w'.cell? ⟨eq, 5, none⟩ = some (.int .i64 0) ∧ w'.cell? ⟨eq, 6, none⟩ = some (.int .i64 6) ∧ w'.cell? ⟨eq, 7, none⟩ = some (.int .i64 0)) (first | (refine ⟨?_, ?_, ?_, ?_, ?_, ?_, ?_, ?_, ?_, ?_, ?_, ?_, ?_, ?_, ?_, ?_, ?_⟩ <;> first | with_reducible assumption) | (simp [go_sem, *]; done))
    (first
    | (go_at_call 13; (with_reducible refine (FL.out _).mono ?_); rintro e v1 ⟨rfl, bc1⟩; have HBc1 := Lib.hid (HBd.out.trans (bc1.mono HBd.out.size)); clear xA0 xA1 xA2 xA3 xA4 xA5 xA6 xA7 xD0 xE0 xE1 xE2 xE3 xE4 xE5 xE6 xE7; have hA_ := HA5.out.next HBc1.out; have xA0 : v1.cell? ⟨aq, 0, none⟩ = some (.int .i64 0) := hA_.c 0 rfl; have xA1 : v1.cell? ⟨aq, 1, none⟩ = some (.int .i64 0) := hA_.c 1 rfl; have xA2 : v1.cell? ⟨aq, 2, none⟩ = some (.int .i64 2) := hA_.c 2 rfl; have xA3 : v1.cell? ⟨aq, 3, none⟩ = some (.int .i64 0) := hA_.c 3 rfl; have xA4 : v1.cell? ⟨aq, 4, none⟩ = some (.int .i64 4) := hA_.c 4 rfl; have xA5 : v1.cell? ⟨aq, 5, none⟩ = some (.int .i64 0) := hA_.c 5 rfl; have xA6 : v1.cell? ⟨aq, 6, none⟩ = some (.int .i64 6) := hA_.c 6 rfl; have xA7 : v1.cell? ⟨aq, 7, none⟩ = some (.int .i64 0) := hA_.c 7 rfl; clear hA_; have hD_ := HD5.out.next HBc1.out; have xD0 : v1.cell? ⟨aq + 1, 0, none⟩ = some (.int .i64 6) := hD_.c 0 rfl; clear hD_; have hE_ := HE5.out.next HBc1.out; have xE0 : v1.cell? ⟨eq, 0, none⟩ = some (.int .i64 0) := hE_.c 0 rfl; have xE1 : v1.cell? ⟨eq, 1, none⟩ = some (.int .i64 0) := hE_.c 1 rfl; have xE2 : v1.cell? ⟨eq, 2, none⟩ = some (.int .i64 2) := hE_.c 2 rfl; have xE3 : v1.cell? ⟨eq, 3, none⟩ = some (.int .i64 0) := hE_.c 3 rfl; have xE4 : v1.cell? ⟨eq, 4, none⟩ = some (.int .i64 4) := hE_.c 4 rfl; have xE5 : v1.cell? ⟨eq, 5, none⟩ = some (.int .i64 0) := hE_.c 5 rfl; have xE6 : v1.cell? ⟨eq, 6, none⟩ = some (.int .i64 6) := hE_.c 6 rfl; have xE7 : v1.cell? ⟨eq, 7, none⟩ = some (.int .i64 0) := hE_.c 7 rfl; clear hE_; clear bc1)
    | (go_at_call 22; (with_reducible refine (L2.out _).mono ?_); rintro e v2 ⟨rfl, bc2⟩; have HBc2 := Lib.hid (HBc1.out.trans (bc2.mono HBc1.out.size)); clear xA0 xA1 xA2 xA3 xA4 xA5 xA6 xA7 xD0 xE0 xE1 xE2 xE3 xE4 xE5 xE6 xE7; have hA_ := HA5.out.next HBc2.out; have xA0 : v2.cell? ⟨aq, 0, none⟩ = some (.int .i64 0) := hA_.c 0 rfl; have xA1 : v2.cell? ⟨aq, 1, none⟩ = some (.int .i64 0) := hA_.c 1 rfl; have xA2 : v2.cell? ⟨aq, 2, none⟩ = some (.int .i64 2) := hA_.c 2 rfl; have xA3 : v2.cell? ⟨aq, 3, none⟩ = some (.int .i64 0) := hA_.c 3 rfl; have xA4 : v2.cell? ⟨aq, 4, none⟩ = some (.int .i64 4) := hA_.c 4 rfl; have xA5 : v2.cell? ⟨aq, 5, none⟩ = some (.int .i64 0) := hA_.c 5 rfl; have xA6 : v2.cell? ⟨aq, 6, none⟩ = some (.int .i64 6) := hA_.c 6 rfl; have xA7 : v2.cell? ⟨aq, 7, none⟩ = some (.int .i64 0) := hA_.c 7 rfl; clear hA_; have hD_ := HD5.out.next HBc2.out; have xD0 : v2.cell? ⟨aq + 1, 0, none⟩ = some (.int .i64 6) := hD_.c 0 rfl; clear hD_; have hE_ := HE5.out.next HBc2.out; have xE0 : v2.cell? ⟨eq, 0, none⟩ = some (.int .i64 0) := hE_.c 0 rfl; have xE1 : v2.cell? ⟨eq, 1, none⟩ = some (.int .i64 0) := hE_.c 1 rfl; have xE2 : v2.cell? ⟨eq, 2, none⟩ = some (.int .i64 2) := hE_.c 2 rfl; have xE3 : v2.cell? ⟨eq, 3, none⟩ = some (.int .i64 0) := hE_.c 3 rfl; have xE4 : v2.cell? ⟨eq, 4, none⟩ = some (.int .i64 4) := hE_.c 4 rfl; have xE5 : v2.cell? ⟨eq, 5, none⟩ = some (.int .i64 0) := hE_.c 5 rfl; have xE6 : v2.cell? ⟨eq, 6, none⟩ = some (.int .i64 6) := hE_.c 6 rfl; have xE7 : v2.cell? ⟨eq, 7, none⟩ = some (.int .i64 0) := hE_.c 7 rfl; clear hE_; clear bc2)
    )
  clear xA0 xA1 xA2 xA3 xA4 xA5 xA6 xA7 xD0 xE0 xE1 xE2 xE3 xE4 xE5 xE6 xE7
  have HB6 := Lib.hid (HB5.out.trans (HBc2.out.mono HB5.out.size))
  have HA6 := Lib.hid (HA5.out.next HBc2.out)
  have HD6 := Lib.hid (HD5.out.next HBc2.out)
  have HE6 := Lib.hid (HE5.out.next HBc2.out)
  generalize v2 = w6 at *
  go_wp2_with fail
  go_ret
  exact ⟨rfl, HB6.out⟩
end Go.Proofs.Ytainocdbapnaaaa
