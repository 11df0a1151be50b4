/-
  The example of layer 14 holds.
-/
import Derived.Test.YtejhegoegmoemaaSnapPt
namespace Go.Proofs.Ytejhegoegmoemaa
open Go.RowKit Go.Shelf

set_option maxRecDepth 100000 in
theorem wakes14 (w : World) : Calls Try.prog 7 #[] w fun e w' => e = .returned (.bool true) ∧ Below w.heap.size w w' := by
  have A := Lib.hid (fun w => number_any 511 w (by decide) (by decide))
  have B := Lib.hid (fun w => number_any 512 w (by decide) (by decide))
  have C := Lib.hid (fun w => number_any (-512) w (by decide) (by decide))
  have D := Lib.hid (fun w => number_any (-513) w (by decide) (by decide))
  rw [show snapN 511 = 0 from by decide] at A
  rw [show snapN 512 = 1024 from by decide] at B
  rw [show snapN (-512) = 0 from by decide] at C
  rw [show snapN (-513) = -1024 from by decide] at D
  go_enter Try.func7, Try.ntmps7
  go_wp2_with fail
  refine (A.out _).mono ?_
  rintro e w1 ⟨rfl, rfl⟩
  go_wp2_with fail
  refine (B.out _).mono ?_
  rintro e w1 ⟨rfl, rfl⟩
  go_wp2_with fail
  refine (C.out _).mono ?_
  rintro e w1 ⟨rfl, rfl⟩
  go_wp2_with fail
  refine (D.out _).mono ?_
  rintro e w1 ⟨rfl, rfl⟩
  go_wp2_with fail
  go_ret
  exact ⟨rfl, Below.refl _ _⟩
end Go.Proofs.Ytejhegoegmoemaa
