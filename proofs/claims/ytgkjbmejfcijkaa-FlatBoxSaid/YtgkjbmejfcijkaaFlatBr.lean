/-
  Package flat: whether a branch is a piece; a branch that is cut.
-/
import Derived.Test.YtgkjbmejfcijkaaFlatPop
import Derived.Test.YtgkjbmejfcijkaaCrvFlat
import Derived.Test.YtgkjbmejfcijkaaCrvCut
namespace Go.Proofs.Ytgkjbmejfcijkaa
open Go.RowKit Go.Shelf
set_option linter.unusedSimpArgs false

theorem cuts_20 : cutsI 0 = 20 := rfl
theorem cuts_ne (n : Nat) : (cutsI (n + 1) == 20) = false := by unfold cutsI; exact beq_eq_false_iff_ne.2 (by omega)
set_option maxHeartbeats 4000000 in
set_option maxRecDepth 100000 in
theorem piece_no (c : Crv) (n : Nat) (w : World) (hc : c.right) : Calls Try.prog 27 #[.agg (brX (c, n + 1))] w fun e w' => e = .returned (.bool (decide c.flat)) ∧ Below w.heap.size w w' := by
  have C := Lib.hid (fun w => cflat11 c w hc)
  have hk := cuts_ne n
  unfold brX brA
  dsimp only at *
  generalize cutsI (n + 1) = k at *
  generalize decide c.flat = D at *
  clear hc
  obtain ⟨px, py, qx, qy, rx, ry, sx, sy⟩ := c
  unfold Crv.val Crv.arr at C
  dsimp only at *
  have HK := Lib.hid (CBox.new w 53 #[.int .i64 px, .int .i64 py, .int .i64 qx, .int .i64 qy, .int .i64 rx, .int .i64 ry, .int .i64 sx, .int .i64 sy, .int .i64 k])
  have HB := Lib.hid ((Below.refl w.heap.size w).alloc (Nat.le_refl _) (.cells #[.int .i64 px, .int .i64 py, .int .i64 qx, .int .i64 qy, .int .i64 rx, .int .i64 ry, .int .i64 sx, .int .i64 sy, .int .i64 k] 53))
  go_enter Try.func27, Try.ntmps27
  go_upto_region 1 with fail
  generalize w.alloc (.cells #[.int .i64 px, .int .i64 py, .int .i64 qx, .int .i64 qy, .int .i64 rx, .int .i64 ry, .int .i64 sx, .int .i64 sy, .int .i64 k] 53) = w1 at *
  have z0 : w1.cell? ⟨w.heap.size, 0, none⟩ = some (.int .i64 px) := HK.out.c 0 rfl
  have z1 : w1.cell? ⟨w.heap.size, 1, none⟩ = some (.int .i64 py) := HK.out.c 1 rfl
  have z2 : w1.cell? ⟨w.heap.size, 2, none⟩ = some (.int .i64 qx) := HK.out.c 2 rfl
  have z3 : w1.cell? ⟨w.heap.size, 3, none⟩ = some (.int .i64 qy) := HK.out.c 3 rfl
  have z4 : w1.cell? ⟨w.heap.size, 4, none⟩ = some (.int .i64 rx) := HK.out.c 4 rfl
  have z5 : w1.cell? ⟨w.heap.size, 5, none⟩ = some (.int .i64 ry) := HK.out.c 5 rfl
  have z6 : w1.cell? ⟨w.heap.size, 6, none⟩ = some (.int .i64 sx) := HK.out.c 6 rfl
  have z7 : w1.cell? ⟨w.heap.size, 7, none⟩ = some (.int .i64 sy) := HK.out.c 7 rfl
  have z8 : w1.cell? ⟨w.heap.size, 8, none⟩ = some (.int .i64 k) := HK.out.c 8 rfl
  go_wp2_with fail
  refine (C.out _).mono ?_
  rintro e w2 ⟨rfl, b2⟩
  have HB2 := Lib.hid (HB.out.trans (b2.mono HB.out.size))
  clear z0 z1 z2 z3 z4 z5 z6 z7 z8 b2
  go_wp2_with fail
  go_ret
  exact ⟨rfl, HB2.out⟩
set_option maxHeartbeats 4000000 in
set_option maxRecDepth 100000 in
theorem piece_yes (c : Crv) (w : World) : Calls Try.prog 27 #[.agg (brX (c, 0))] w fun e w' => e = .returned (.bool true) ∧ Below w.heap.size w w' := by
  unfold brX brA
  rw [cuts_20]
  obtain ⟨px, py, qx, qy, rx, ry, sx, sy⟩ := c
  dsimp only at *
  have HK := Lib.hid (CBox.new w 53 #[.int .i64 px, .int .i64 py, .int .i64 qx, .int .i64 qy, .int .i64 rx, .int .i64 ry, .int .i64 sx, .int .i64 sy, .int .i64 20])
  have HB := Lib.hid ((Below.refl w.heap.size w).alloc (Nat.le_refl _) (.cells #[.int .i64 px, .int .i64 py, .int .i64 qx, .int .i64 qy, .int .i64 rx, .int .i64 ry, .int .i64 sx, .int .i64 sy, .int .i64 20] 53))
  go_enter Try.func27, Try.ntmps27
  go_upto_region 1 with fail
  generalize w.alloc (.cells #[.int .i64 px, .int .i64 py, .int .i64 qx, .int .i64 qy, .int .i64 rx, .int .i64 ry, .int .i64 sx, .int .i64 sy, .int .i64 20] 53) = w1 at *
  have z8 : w1.cell? ⟨w.heap.size, 8, none⟩ = some (.int .i64 20) := HK.out.c 8 rfl
  go_wp2_with fail
  go_ret
  exact ⟨rfl, HB.out⟩
end Go.Proofs.Ytgkjbmejfcijkaa
