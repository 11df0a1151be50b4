/-
  The example of layer 8's laws holds.
-/
import Derived.Test.YthnjdncnmdmjaaaAffRef
import Derived.Test.YthnjdncnmdmjaaaAffApp
namespace Go.Proofs.Ythnjdncnmdmjaaa
open Go.RowKit Go.Shelf

theorem wakes8 (w : World) : Calls Try.prog 10 #[] w fun e w' => e = .returned (.bool true) ∧ Below w.heap.size w w' := by
  have e1 : applyS ⟨131072, 0, 0, 196608, 65536, 0⟩ 65536 65536 = ((196608, 196608), 0) := by decide
  have z : ∀ k : Int, -9223372036854775808 ≤ k → k ≤ 9223372036854775807 → I64 k := fun k h1 h2 => ⟨h1, h2⟩
  have A := Lib.hid (fun w => aapply8 ⟨131072, 0, 0, 196608, 65536, 0⟩ 65536 65536 w (by unfold MI64 I64; decide) (z _ (by decide) (by decide)) (z _ (by decide) (by decide)))
  rw [e1] at A
  unfold PE Mtx.val Mtx.cells at A
  dsimp only at A
  go_enter Try.func10, Try.ntmps10
  go_wp2_with fail
  refine (A.out _).mono ?_
  rintro e w1 ⟨rfl, b1⟩
  go_wp2_with fail
  go_ret
  exact ⟨rfl, b1.alloc b1.size _⟩
end Go.Proofs.Ythnjdncnmdmjaaa
