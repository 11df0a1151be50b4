/-
  A cell stays what it is where memory grows, or where a later block is written.
-/
import Derived.Test.YtejhegoegmoemaaPtMem
namespace Go.Proofs.Ytejhegoegmoemaa
open Go.RowKit Go.Shelf

theorem cell_alloc {W : World} {o : Obj} {n i : Nat} {v : Value} (h : W.cell? ⟨n, i, none⟩ = some v) : (W.alloc o).cell? ⟨n, i, none⟩ = some v :=
  (World.cell?_alloc_some W _ o (by rw [h]; rfl)).trans h
theorem cell_alloc_drew {W : World} {o : Obj} {n i : Nat} {v : Value} (h : W.cell? ⟨n, i, none⟩ = some v) : (W.alloc o).drew.cell? ⟨n, i, none⟩ = some v := cell_alloc h
theorem cell_far {W : World} {n q i o : Nat} {v u : Value} (h : W.cell? ⟨n, i, none⟩ = some v) (hn : n < q) : (W.setCell ⟨q, o, none⟩ u).cell? ⟨n, i, none⟩ = some v :=
  (World.cell?_setCell_far W ⟨q, o, none⟩ ⟨n, i, none⟩ u (by exact Nat.ne_of_gt hn)).trans h
end Go.Proofs.Ytejhegoegmoemaa
