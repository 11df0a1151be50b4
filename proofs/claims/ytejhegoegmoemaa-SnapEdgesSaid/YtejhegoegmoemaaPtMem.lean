/-
  Points as they lie in memory.
-/
import Derived.Test.YtejhegoegmoemaaBase
import Derived.Test.YtejhegoegmoemaaIn32
import Derived.RangeFuncBox
namespace Go.Proofs.Ytejhegoegmoemaa
open Go.RowKit Go.Shelf

def PBox (n : Nat) (x y : Int) (w : World) : Prop := w.heap[n]? = some (.cells #[.int .i64 x, .int .i64 y] 25)
theorem PBox.new (w : World) (x y : Int) : PBox w.heap.size x y (w.alloc (.cells #[.int .i64 x, .int .i64 y] 25)) := World.alloc_heap_new w _
theorem PBox.c0 {n : Nat} {x y : Int} {w : World} (h : PBox n x y w) : w.cell? ⟨n, 0, none⟩ = some (.int .i64 x) := by unfold PBox at h; simp [World.cell?, h]
theorem PBox.c1 {n : Nat} {x y : Int} {w : World} (h : PBox n x y w) : w.cell? ⟨n, 1, none⟩ = some (.int .i64 y) := by unfold PBox at h; simp [World.cell?, h]
theorem PBox.z {n : Nat} {x y : Int} {w : World} (h : PBox n x y w) (o : Nat) : w.frozen? ⟨n, o, none⟩ = false := by unfold PBox at h; simp [World.frozen?, h]
theorem PBox.lt {n : Nat} {x y : Int} {w : World} (h : PBox n x y w) : n < w.heap.size := (Array.getElem?_eq_some_iff.1 h).1
theorem PBox.next {n : Nat} {x y : Int} {w w' : World} (h : PBox n x y w) (t : Below w.heap.size w w') : PBox n x y w' := by
  have := h.lt
  unfold PBox at *; rw [t.block n this]; exact h
theorem In32.i {x : Int} (h : In32 x) : I64 x := by obtain ⟨h1, h2⟩ := h; exact ⟨by omega, by omega⟩
theorem PBox.set {n : Nat} {x y : Int} {w : World} (h : PBox n x y w) (x' y' : Int) : PBox n x' y' ((w.setCell ⟨n, 0, none⟩ (.int .i64 x')).setCell ⟨n, 1, none⟩ (.int .i64 y')) := by
  unfold PBox at *
  simp only [World.setCell, Array.getElem?_modify, h]
  simp
theorem PBox.other {n q : Nat} {x y : Int} {W : World} (h : PBox n x y W) (hn : n ≠ q) (o : Nat) (v : Value) : PBox n x y (W.setCell ⟨q, o, none⟩ v) := by
  unfold PBox at *; rw [Below.heap_setCell _ _ _ _ (by exact hn)]; exact h
theorem below_pt8 {w w' : World} {n : Nat} (h : Below w.heap.size w w') (hn : w.heap.size ≤ n) (x y : Value) : Below w.heap.size w ((w'.setCell ⟨n, 0, none⟩ x).setCell ⟨n, 1, none⟩ y) :=
  Below.setCell (Below.setCell h (by exact hn) _) (by exact hn) _
end Go.Proofs.Ytejhegoegmoemaa
