/-
  The laws' first question: the document's examples hold. And what rows of plain numbers the laws read.
-/
import Derived.Test.YteidcfibmgjedaaRootTold
import Derived.Test.YteidcfibmgjedaaRootHyp
import Derived.Laws.OwnMore
namespace Go.Proofs.Yteidcfibmgjedaa
open Go.RowKit Go.Shelf

theorem steps17 : (stepsL 17 0 32).take 9 = [4] := by decide +kernel
theorem rt17 : rt 17 = 4 := by decide +kernel
theorem rt25 : rt ((-3 : Int).natAbs * (-3 : Int).natAbs + (4 : Int).natAbs * (4 : Int).natAbs) = 5 := by decide +kernel

theorem u64_wf {a : Int} (h : (Lit.int .u64 a).wf = true) : 0 ≤ a ∧ a < 18446744073709551616 := by
  simp [Lit.wf, IntKind.min, IntKind.max, IntKind.signed, IntKind.bits] at h
  exact ⟨by omega, by omega⟩

theorem wakes_any (w : World) : Calls Try.prog 8 #[] w fun e w' => e = .returned (.bool true) ∧ Below w.heap.size w w' := by
  have A := Lib.hid (fun w => told_any 17 9 w (by decide) (by decide))
  have B := Lib.hid (fun w => Floor_any 17 w (by decide))
  have C := Lib.hid (fun w => Hypot_any (-3) 4 w (by unfold I64; omega) (by unfold I64; omega))
  rw [steps17] at A
  rw [rt17] at B
  rw [rt25] at C
  go_enter Try.func8, Try.ntmps8
  go_wp2_with fail
  refine (A.out _).mono ?_
  rintro e w1 ⟨v, rfl, hv, b1⟩
  obtain ⟨g, cap, rfl⟩ := ownsRow_succ hv
  have hg := (hv.lt g rfl).2
  have hc : w1.cell? ⟨g, 0, none⟩ = some (.int .u64 4) := by
    have := hv.cellAt 0 (by simp)
    simpa [cellsU] using this
  clear hv
  go_wp2_with fail
  refine (B.out _).mono ?_
  rintro e w2 ⟨rfl, b2⟩
  go_wp2_with fail
  refine (C.out _).mono ?_
  rintro e w3 ⟨rfl, b3⟩
  have hc3 : w3.cell? ⟨g, 0, none⟩ = some (.int .u64 4) := (b3.cell (p := ⟨g, 0, none⟩) (Nat.lt_of_lt_of_le hg b2.size)).trans ((b2.cell (p := ⟨g, 0, none⟩) hg).trans hc)
  go_wp2
  go_ret
  have s1 := b1.size
  have s2 := b2.size
  exact ⟨rfl, (b1.trans (b2.mono s1)).trans (b3.mono (by omega))⟩
end Go.Proofs.Yteidcfibmgjedaa
