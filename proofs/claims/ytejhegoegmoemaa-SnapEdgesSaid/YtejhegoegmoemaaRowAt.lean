/-
  One edge in a row that is read, cell by cell.
-/
import Derived.Test.YtejhegoegmoemaaEdgMem
namespace Go.Proofs.Ytejhegoegmoemaa
open Go.RowKit Go.Shelf

/-- These cells lie in block n from o on. -/
def RowAt (n o : Nat) (cs : Array Value) (w : World) : Prop := n < w.heap.size ∧ ∀ i v, cs[i]? = some v → w.cell? ⟨n, o + i, none⟩ = some v
theorem RowAt.c {n o : Nat} {cs : Array Value} {w : World} (h : RowAt n o cs w) (i : Nat) {v : Value} (hi : cs[i]? = some v) : w.cell? ⟨n, o + i, none⟩ = some v := h.2 i v hi
theorem RowAt.lt {n o : Nat} {cs : Array Value} {w : World} (h : RowAt n o cs w) : n < w.heap.size := h.1
theorem RowAt.next {n o : Nat} {cs : Array Value} {w w' : World} (h : RowAt n o cs w) (b : Below w.heap.size w w') : RowAt n o cs w' :=
  ⟨Nat.lt_of_lt_of_le h.1 b.size, fun i v hi => (b.cell (p := ⟨n, o + i, none⟩) (by exact h.1)).trans (h.2 i v hi)⟩
theorem RowAt.other {n o q : Nat} {cs : Array Value} {w : World} (h : RowAt n o cs w) (hn : n ≠ q) (i : Nat) (u : Value) : RowAt n o cs (w.setCell ⟨q, i, none⟩ u) :=
  ⟨by have := h.1; simpa [World.setCell] using this, fun j v hj => (World.cell?_of_block (a := ⟨n, o + j, none⟩) (Below.heap_setCell _ _ _ _ (by exact hn))).trans (h.2 j v hj)⟩
theorem RdE.rowAt {a : Option Addr} {l : List Edg} {w : World} (h : RdE a l w) {i : Nat} {g : Edg} (hi : l[i]? = some g) :
    ∃ b off, a = some ⟨b, off, none⟩ ∧ RowAt b (off + i * 4) #[.int .i64 g.px, .int .i64 g.py, .int .i64 g.qx, .int .i64 g.qy] w := by
  obtain ⟨b, off, h1, h2, h3⟩ := Lay8.rd.pos h (List.getElem?_eq_some_iff.1 hi).1
  refine ⟨b, off, h1, h2, fun j u hj => ?_⟩
  rw [Nat.add_assoc]
  exact h3 _ _ (edgL.flat_at l i g j u hi (by simpa [edgL, Edg.lst] using hj))
end Go.Proofs.Ytejhegoegmoemaa
