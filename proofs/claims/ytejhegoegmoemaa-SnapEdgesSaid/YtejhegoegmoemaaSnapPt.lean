/-
  Points snapped: the code's Point and the document's. (Typed by a program: wip/gen_snap1.py.)
-/
import Derived.Test.YtejhegoegmoemaaSnapFn
import Derived.Test.YtejhegoegmoemaaSnapRefN
import Derived.Test.YtejhegoegmoemaaPtMust
import Derived.Test.YtejhegoegmoemaaCells
import Derived.Deep.DeepCutAuto
namespace Go.Proofs.Ytejhegoegmoemaa
open Go.RowKit Go.Shelf

/-- What may be snapped. -/
def In62s (n : Int) : Prop := -4611686018427387904 ≤ n ∧ n ≤ 4611686018427387904
theorem number_b (n : Int) (w : World) (h : In62s n) : Calls Try.prog 8 #[.int .i64 n] w fun e w' => e = .returned (.int .i64 (snapN n)) ∧ Below w.heap.size w w' := by
  unfold In62s at h
  refine (number_any n w (by omega) (by omega)).mono ?_
  rintro e w' ⟨rfl, rfl⟩
  exact ⟨rfl, Below.refl _ _⟩
theorem rnumber_b (n : Int) (w : World) (h : In62s n) : Calls Try.prog 9 #[.int .i64 n] w fun e w' => e = .returned (.int .i64 (snapN n)) ∧ Below w.heap.size w w' := by
  unfold In62s at h
  refine (rnumber_any n w (by omega) (by omega)).mono ?_
  rintro e w' ⟨rfl, rfl⟩
  exact ⟨rfl, Below.refl _ _⟩
set_option maxHeartbeats 1000000 in
set_option maxRecDepth 100000 in
theorem point_any (x y : Int) (w : World) (hx : In62s x) (hy : In62s y) :
    Calls Try.prog 10 #[.agg #[.int .i64 x, .int .i64 y]] w fun e w' => e = .returned (.agg #[.int .i64 (snapN x), .int .i64 (snapN y)]) ∧ Below w.heap.size w w' := by
  have N1 := Lib.hid (fun w => number_b x w hx)
  have N2 := Lib.hid (fun w => number_b y w hy)
  generalize snapN x = X at *
  generalize snapN y = Y at *
  clear hx hy
  obtain ⟨k1, k2, k3⟩ := boxes_two w #[.int .i64 x, .int .i64 y] #[.int .i64 0, .int .i64 0] 25 25
  have HP0 := Lib.hid k1; have HZ0 := Lib.hid k2; have HB0 := Lib.hid k3
  clear k1 k2 k3
  go_enter Try.func10, Try.ntmps10
  go_upto_region 1 with fail
  generalize (w.alloc (.cells #[.int .i64 x, .int .i64 y] 25)).alloc (.cells #[.int .i64 0, .int .i64 0] 25) = w1 at *
  have xP0 : w1.cell? ⟨w.heap.size, 0, none⟩ = some (.int .i64 x) := HP0.out.c 0 rfl
  have xP1 : w1.cell? ⟨w.heap.size, 1, none⟩ = some (.int .i64 y) := HP0.out.c 1 rfl
  have HBz := Lib.hid (Below.refl w1.heap.size w1)
  have HBd := Lib.hid HBz.out.drew
  go_region_held3 (fun w' => w'.cell? ⟨w.heap.size, 0, none⟩ = some (.int .i64 x) ∧ w'.cell? ⟨w.heap.size, 1, none⟩ = some (.int .i64 y)) (first | (refine ⟨?_, ?_⟩ <;> first | with_reducible assumption) | (simp [go_sem, *]; done))
    (first
    | (go_at_call 8; (with_reducible refine (N1.out _).mono ?_); rintro e v1 ⟨rfl, bc1⟩; have HBc1 := Lib.hid (HBd.out.trans (bc1.mono HBd.out.size)); clear xP0 xP1; have hP_ := HP0.out.next HBc1.out; have xP0 : v1.cell? ⟨w.heap.size, 0, none⟩ = some (.int .i64 x) := hP_.c 0 rfl; have xP1 : v1.cell? ⟨w.heap.size, 1, none⟩ = some (.int .i64 y) := hP_.c 1 rfl; clear hP_; clear bc1)
    | (go_at_call 8; (with_reducible refine (N2.out _).mono ?_); rintro e v2 ⟨rfl, bc2⟩; have HBc2 := Lib.hid (HBc1.out.trans (bc2.mono HBc1.out.size)); clear xP0 xP1; have hP_ := HP0.out.next HBc2.out; have xP0 : v2.cell? ⟨w.heap.size, 0, none⟩ = some (.int .i64 x) := hP_.c 0 rfl; have xP1 : v2.cell? ⟨w.heap.size, 1, none⟩ = some (.int .i64 y) := hP_.c 1 rfl; clear hP_; have hZ_ := HZ0.out.next HBc2.out; have uZ0 : v2.cell? ⟨w.heap.size + 1, 0, none⟩ = some (.int .i64 0) := hZ_.c 0 rfl; have rZ0 := hZ_.z 0; have uZ1 : v2.cell? ⟨w.heap.size + 1, 1, none⟩ = some (.int .i64 0) := hZ_.c 1 rfl; have rZ1 := hZ_.z 1; clear hZ_; clear bc2)
    )
  clear xP0 xP1
  clear uZ0 rZ0 uZ1 rZ1
  have HB1 := Lib.hid (HB0.out.trans (HBc2.out.mono HB0.out.size))
  have HZ1 := Lib.hid (HZ0.out.next HBc2.out)
  go_wp2_with fail
  exact pe_ret Try.results10 (PBox.set HZ1.out _ _) (below_pt8 HB1.out (by omega) _ _) rfl
set_option maxHeartbeats 1000000 in
set_option maxRecDepth 100000 in
theorem rpoint_any (x y : Int) (w : World) (hx : In62s x) (hy : In62s y) :
    Calls Try.prog 17 #[.agg #[.int .i64 x, .int .i64 y]] w fun e w' => e = .returned (.agg #[.int .i64 (snapN x), .int .i64 (snapN y)]) ∧ Below w.heap.size w w' := by
  have N1 := Lib.hid (fun w => rnumber_b x w hx)
  have N2 := Lib.hid (fun w => rnumber_b y w hy)
  generalize snapN x = X at *
  generalize snapN y = Y at *
  clear hx hy
  obtain ⟨k1, k2, k3⟩ := boxes_two w #[.int .i64 x, .int .i64 y] #[.int .i64 0, .int .i64 0] 25 25
  have HP0 := Lib.hid k1; have HZ0 := Lib.hid k2; have HB0 := Lib.hid k3
  clear k1 k2 k3
  go_enter Try.func17, Try.ntmps17
  go_upto_region 1 with fail
  generalize (w.alloc (.cells #[.int .i64 x, .int .i64 y] 25)).alloc (.cells #[.int .i64 0, .int .i64 0] 25) = w1 at *
  have xP0 : w1.cell? ⟨w.heap.size, 0, none⟩ = some (.int .i64 x) := HP0.out.c 0 rfl
  have xP1 : w1.cell? ⟨w.heap.size, 1, none⟩ = some (.int .i64 y) := HP0.out.c 1 rfl
  have HBz := Lib.hid (Below.refl w1.heap.size w1)
  have HBd := Lib.hid HBz.out.drew
  go_region_held3 (fun w' => w'.cell? ⟨w.heap.size, 0, none⟩ = some (.int .i64 x) ∧ w'.cell? ⟨w.heap.size, 1, none⟩ = some (.int .i64 y)) (first | (refine ⟨?_, ?_⟩ <;> first | with_reducible assumption) | (simp [go_sem, *]; done))
    (first
    | (go_at_call 9; (with_reducible refine (N1.out _).mono ?_); rintro e v1 ⟨rfl, bc1⟩; have HBc1 := Lib.hid (HBd.out.trans (bc1.mono HBd.out.size)); clear xP0 xP1; have hP_ := HP0.out.next HBc1.out; have xP0 : v1.cell? ⟨w.heap.size, 0, none⟩ = some (.int .i64 x) := hP_.c 0 rfl; have xP1 : v1.cell? ⟨w.heap.size, 1, none⟩ = some (.int .i64 y) := hP_.c 1 rfl; clear hP_; clear bc1)
    | (go_at_call 9; (with_reducible refine (N2.out _).mono ?_); rintro e v2 ⟨rfl, bc2⟩; have HBc2 := Lib.hid (HBc1.out.trans (bc2.mono HBc1.out.size)); clear xP0 xP1; have hP_ := HP0.out.next HBc2.out; have xP0 : v2.cell? ⟨w.heap.size, 0, none⟩ = some (.int .i64 x) := hP_.c 0 rfl; have xP1 : v2.cell? ⟨w.heap.size, 1, none⟩ = some (.int .i64 y) := hP_.c 1 rfl; clear hP_; have hZ_ := HZ0.out.next HBc2.out; have uZ0 : v2.cell? ⟨w.heap.size + 1, 0, none⟩ = some (.int .i64 0) := hZ_.c 0 rfl; have rZ0 := hZ_.z 0; have uZ1 : v2.cell? ⟨w.heap.size + 1, 1, none⟩ = some (.int .i64 0) := hZ_.c 1 rfl; have rZ1 := hZ_.z 1; clear hZ_; clear bc2)
    )
  clear xP0 xP1
  clear uZ0 rZ0 uZ1 rZ1
  have HB1 := Lib.hid (HB0.out.trans (HBc2.out.mono HB0.out.size))
  have HZ1 := Lib.hid (HZ0.out.next HBc2.out)
  go_wp2_with fail
  exact pe_ret Try.results17 (PBox.set HZ1.out _ _) (below_pt8 HB1.out (by omega) _ _) rfl
end Go.Proofs.Ytejhegoegmoemaa
