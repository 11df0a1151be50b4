/-
  Package curve: Elevate. (Typed by a program: wip/gen_crv5.py.)
-/
import Derived.Test.YtainocdbapnaaaaCrvPut
import Derived.Test.YtainocdbapnaaaaRefCrvC
import Derived.Deep.DeepCutAuto
namespace Go.Proofs.Ytainocdbapnaaaa
open Go.RowKit Go.Shelf

theorem how_third : How 33 #[] 0 (fun _ => True) third :=
  ⟨fun _ _ => by kernel_rfl, fun a b w ha hb _ => third11 a b w ha hb, fun _ _ _ _ _ _ => trivial, fun _ _ ha hb => third40 ha hb⟩
set_option maxHeartbeats 8000000 in
set_option maxRecDepth 100000 in
theorem celev11 (px py qx qy sx sy : Int) (w : World) (hpx : In40 px) (hpy : In40 py) (hqx : In40 qx) (hqy : In40 qy) (hsx : In40 sx) (hsy : In40 sy) :
    Calls Try.prog 17 #[.agg #[.int .i64 px, .int .i64 py], .agg #[.int .i64 qx, .int .i64 qy], .agg #[.int .i64 sx, .int .i64 sy]] w fun e w' => e = .returned (Crv.val ⟨px, py, third px qx, third py qy, third sx qx, third sy qy, sx, sy⟩) ∧ Below w.heap.size w w' := by
  have S1 := Lib.hid (fun w => put11 how_third px py qx qy w hpx hpy hqx hqy (Nat.zero_le _) trivial)
  have S2 := Lib.hid (fun w => put11 how_third sx sy qx qy w hsx hsy hqx hqy (Nat.zero_le _) trivial)
  unfold Crv.val Crv.arr
  dsimp only
  generalize third px qx = T1 at *
  generalize third py qy = T2 at *
  generalize third sx qx = T3 at *
  generalize third sy qy = T4 at *
  clear hpx hpy hqx hqy hsx hsy
  obtain ⟨k1, k2, k3, k4, k5⟩ := boxes_four w #[.int .i64 px, .int .i64 py] #[.int .i64 qx, .int .i64 qy] #[.int .i64 sx, .int .i64 sy] #[.int .i64 0, .int .i64 0, .int .i64 0, .int .i64 0, .int .i64 0, .int .i64 0, .int .i64 0, .int .i64 0] 23 23 23 25
  have HP0 := Lib.hid k1; have HQ0 := Lib.hid k2; have HS0 := Lib.hid k3; have HZ0 := Lib.hid k4; have HB0 := Lib.hid k5
  clear k1 k2 k3 k4 k5
  go_enter Try.func17, Try.ntmps17
  go_upto_region 1 with fail
  generalize ((((w.alloc (.cells #[.int .i64 px, .int .i64 py] 23)).alloc (.cells #[.int .i64 qx, .int .i64 qy] 23)).alloc (.cells #[.int .i64 sx, .int .i64 sy] 23)).alloc (.cells #[.int .i64 0, .int .i64 0, .int .i64 0, .int .i64 0, .int .i64 0, .int .i64 0, .int .i64 0, .int .i64 0] 25)) = w1 at *
  have xP0 : w1.cell? ⟨w.heap.size, 0, none⟩ = some (.int .i64 px) := HP0.out.c 0 rfl
  have xP1 : w1.cell? ⟨w.heap.size, 1, none⟩ = some (.int .i64 py) := HP0.out.c 1 rfl
  have xQ0 : w1.cell? ⟨w.heap.size + 1, 0, none⟩ = some (.int .i64 qx) := HQ0.out.c 0 rfl
  have xQ1 : w1.cell? ⟨w.heap.size + 1, 1, none⟩ = some (.int .i64 qy) := HQ0.out.c 1 rfl
  have xS0 : w1.cell? ⟨w.heap.size + 1 + 1, 0, none⟩ = some (.int .i64 sx) := HS0.out.c 0 rfl
  have xS1 : w1.cell? ⟨w.heap.size + 1 + 1, 1, none⟩ = some (.int .i64 sy) := HS0.out.c 1 rfl
  have HBz := Lib.hid (Below.refl w1.heap.size w1)
  have HBd := Lib.hid HBz.out.drew
  go_region_held3 (fun w' => w'.cell? ⟨w.heap.size, 0, none⟩ = some (.int .i64 px) ∧ w'.cell? ⟨w.heap.size, 1, none⟩ = some (.int .i64 py) ∧ w'.cell? ⟨w.heap.size + 1, 0, none⟩ = some (.int .i64 qx) ∧ w'.cell? ⟨w.heap.size + 1, 1, none⟩ = some (.int .i64 qy) ∧ w'.cell? ⟨w.heap.size + 1 + 1, 0, none⟩ = some (.int .i64 sx) ∧ w'.cell? ⟨w.heap.size + 1 + 1, 1, none⟩ = some (.int .i64 sy)) (first | (refine ⟨?_, ?_, ?_, ?_, ?_, ?_⟩ <;> first | with_reducible assumption) | (simp [go_sem, *]; done))
    (first
    | (go_at_call 32; (with_reducible refine (S1.out _).mono ?_); rintro e v1 ⟨rfl, bc1⟩; have HBc1 := Lib.hid (HBd.out.trans (bc1.mono HBd.out.size)); clear xP0 xP1 xQ0 xQ1 xS0 xS1; have hP_ := HP0.out.next HBc1.out; have xP0 : v1.cell? ⟨w.heap.size, 0, none⟩ = some (.int .i64 px) := hP_.c 0 rfl; have xP1 : v1.cell? ⟨w.heap.size, 1, none⟩ = some (.int .i64 py) := hP_.c 1 rfl; clear hP_; have hQ_ := HQ0.out.next HBc1.out; have xQ0 : v1.cell? ⟨w.heap.size + 1, 0, none⟩ = some (.int .i64 qx) := hQ_.c 0 rfl; have xQ1 : v1.cell? ⟨w.heap.size + 1, 1, none⟩ = some (.int .i64 qy) := hQ_.c 1 rfl; clear hQ_; have hS_ := HS0.out.next HBc1.out; have xS0 : v1.cell? ⟨w.heap.size + 1 + 1, 0, none⟩ = some (.int .i64 sx) := hS_.c 0 rfl; have xS1 : v1.cell? ⟨w.heap.size + 1 + 1, 1, none⟩ = some (.int .i64 sy) := hS_.c 1 rfl; clear hS_; clear bc1)
    | (go_at_call 32; (with_reducible refine (S2.out _).mono ?_); rintro e v2 ⟨rfl, bc2⟩; have HBc2 := Lib.hid (HBc1.out.trans (bc2.mono HBc1.out.size)); clear xP0 xP1 xQ0 xQ1 xS0 xS1; have hP_ := HP0.out.next HBc2.out; have xP0 : v2.cell? ⟨w.heap.size, 0, none⟩ = some (.int .i64 px) := hP_.c 0 rfl; have xP1 : v2.cell? ⟨w.heap.size, 1, none⟩ = some (.int .i64 py) := hP_.c 1 rfl; clear hP_; have hQ_ := HQ0.out.next HBc2.out; have xQ0 : v2.cell? ⟨w.heap.size + 1, 0, none⟩ = some (.int .i64 qx) := hQ_.c 0 rfl; have xQ1 : v2.cell? ⟨w.heap.size + 1, 1, none⟩ = some (.int .i64 qy) := hQ_.c 1 rfl; clear hQ_; have hS_ := HS0.out.next HBc2.out; have xS0 : v2.cell? ⟨w.heap.size + 1 + 1, 0, none⟩ = some (.int .i64 sx) := hS_.c 0 rfl; have xS1 : v2.cell? ⟨w.heap.size + 1 + 1, 1, none⟩ = some (.int .i64 sy) := hS_.c 1 rfl; clear hS_; have hZ_ := HZ0.out.next HBc2.out; have uZ0 : v2.cell? ⟨w.heap.size + 1 + 1 + 1, 0, none⟩ = some (.int .i64 0) := hZ_.c 0 rfl; have rZ0 := hZ_.z 0; have uZ1 : v2.cell? ⟨w.heap.size + 1 + 1 + 1, 1, none⟩ = some (.int .i64 0) := hZ_.c 1 rfl; have rZ1 := hZ_.z 1; have uZ2 : v2.cell? ⟨w.heap.size + 1 + 1 + 1, 2, none⟩ = some (.int .i64 0) := hZ_.c 2 rfl; have rZ2 := hZ_.z 2; have uZ3 : v2.cell? ⟨w.heap.size + 1 + 1 + 1, 3, none⟩ = some (.int .i64 0) := hZ_.c 3 rfl; have rZ3 := hZ_.z 3; have uZ4 : v2.cell? ⟨w.heap.size + 1 + 1 + 1, 4, none⟩ = some (.int .i64 0) := hZ_.c 4 rfl; have rZ4 := hZ_.z 4; have uZ5 : v2.cell? ⟨w.heap.size + 1 + 1 + 1, 5, none⟩ = some (.int .i64 0) := hZ_.c 5 rfl; have rZ5 := hZ_.z 5; have uZ6 : v2.cell? ⟨w.heap.size + 1 + 1 + 1, 6, none⟩ = some (.int .i64 0) := hZ_.c 6 rfl; have rZ6 := hZ_.z 6; have uZ7 : v2.cell? ⟨w.heap.size + 1 + 1 + 1, 7, none⟩ = some (.int .i64 0) := hZ_.c 7 rfl; have rZ7 := hZ_.z 7; clear hZ_; clear bc2)
    )
  clear xP0 xP1 xQ0 xQ1 xS0 xS1
  clear uZ0 rZ0 uZ1 rZ1 uZ2 rZ2 uZ3 rZ3 uZ4 rZ4 uZ5 rZ5 uZ6 rZ6 uZ7 rZ7
  have HB2 := Lib.hid (HB0.out.trans (HBc2.out.mono HB0.out.size))
  have HZ2 := Lib.hid (HZ0.out.next HBc2.out)
  go_wp2_with fail
  exact crv_ret Try.results17 (CBox.set8 HZ2.out _ _ _ _ _ _ _ _) (below_8 HB2.out (by omega) _ _ _ _ _ _ _ _) rfl
end Go.Proofs.Ytainocdbapnaaaa
