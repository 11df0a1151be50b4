/-
  Package affine: Same.
-/
import Derived.Test.YthnjdncnmdmjaaaAffMust
namespace Go.Proofs.Ythnjdncnmdmjaaa
open Go.RowKit Go.Shelf

theorem asame8 (w : World) : Calls Try.prog 13 #[] w fun e w' => e = .returned sameM.val ∧ Below w.heap.size w w' := by
  have hn := MBox.new w sameM
  have hb := (Below.refl w.heap.size w).alloc (Nat.le_refl _) (.cells sameM.cells 23)
  simp only [sameM, Mtx.cells] at hn hb
  have HN := Lib.hid hn
  have HB := Lib.hid hb
  clear hn hb
  go_enter Try.func13, Try.ntmps13
  go_wp2_with fail
  generalize w.alloc (.cells #[.int .i64 65536, .int .i64 0, .int .i64 0, .int .i64 65536, .int .i64 0, .int .i64 0] 23) = W at *
  exact me_ret (m := ⟨65536, 0, 0, 65536, 0, 0⟩) Try.results13 HN.out HB.out rfl
end Go.Proofs.Ythnjdncnmdmjaaa
