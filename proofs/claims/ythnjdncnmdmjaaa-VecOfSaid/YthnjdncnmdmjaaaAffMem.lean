/-
  Matrices and points as they lie in memory.
-/
import Derived.Test.YthnjdncnmdmjaaaBase
import Derived.Test.YthnjdncnmdmjaaaAffMath
import Derived.RangeFuncBox
namespace Go.Proofs.Ythnjdncnmdmjaaa
open Go.RowKit Go.Shelf

def Mtx.cells (m : Mtx) : Array Value := #[.int .i64 m.a, .int .i64 m.b, .int .i64 m.c, .int .i64 m.d, .int .i64 m.e, .int .i64 m.f]
def Mtx.val (m : Mtx) : Value := .agg m.cells
/-- A box with a matrix, a box with a point. -/
def MBox (n : Nat) (m : Mtx) (w : World) : Prop := w.heap[n]? = some (.cells m.cells 23)
theorem MBox.new (w : World) (m : Mtx) : MBox w.heap.size m (w.alloc (.cells m.cells 23)) := World.alloc_heap_new w _
theorem MBox.c0 {n : Nat} {m : Mtx} {w : World} (h : MBox n m w) : w.cell? ⟨n, 0, none⟩ = some (.int .i64 m.a) := by unfold MBox Mtx.cells at h; simp [World.cell?, h]
theorem MBox.c1 {n : Nat} {m : Mtx} {w : World} (h : MBox n m w) : w.cell? ⟨n, 1, none⟩ = some (.int .i64 m.b) := by unfold MBox Mtx.cells at h; simp [World.cell?, h]
theorem MBox.c2 {n : Nat} {m : Mtx} {w : World} (h : MBox n m w) : w.cell? ⟨n, 2, none⟩ = some (.int .i64 m.c) := by unfold MBox Mtx.cells at h; simp [World.cell?, h]
theorem MBox.c3 {n : Nat} {m : Mtx} {w : World} (h : MBox n m w) : w.cell? ⟨n, 3, none⟩ = some (.int .i64 m.d) := by unfold MBox Mtx.cells at h; simp [World.cell?, h]
theorem MBox.c4 {n : Nat} {m : Mtx} {w : World} (h : MBox n m w) : w.cell? ⟨n, 4, none⟩ = some (.int .i64 m.e) := by unfold MBox Mtx.cells at h; simp [World.cell?, h]
theorem MBox.c5 {n : Nat} {m : Mtx} {w : World} (h : MBox n m w) : w.cell? ⟨n, 5, none⟩ = some (.int .i64 m.f) := by unfold MBox Mtx.cells at h; simp [World.cell?, h]
theorem MBox.z {n : Nat} {m : Mtx} {w : World} (h : MBox n m w) (o : Nat) : w.frozen? ⟨n, o, none⟩ = false := by unfold MBox at h; simp [World.frozen?, h]
theorem MBox.lt {n : Nat} {m : Mtx} {w : World} (h : MBox n m w) : n < w.heap.size := (Array.getElem?_eq_some_iff.1 h).1
theorem MBox.next {n : Nat} {m : Mtx} {w w' : World} (h : MBox n m w) (t : Below w.heap.size w w') : MBox n m w' := by
  have := h.lt
  unfold MBox at *; rw [t.block n this]; exact h
def PBox (n : Nat) (x y : Int) (w : World) : Prop := w.heap[n]? = some (.cells #[.int .i64 x, .int .i64 y] 25)
theorem PBox.new (w : World) (x y : Int) : PBox w.heap.size x y (w.alloc (.cells #[.int .i64 x, .int .i64 y] 25)) := World.alloc_heap_new w _
theorem PBox.c0 {n : Nat} {x y : Int} {w : World} (h : PBox n x y w) : w.cell? ⟨n, 0, none⟩ = some (.int .i64 x) := by unfold PBox at h; simp [World.cell?, h]
theorem PBox.c1 {n : Nat} {x y : Int} {w : World} (h : PBox n x y w) : w.cell? ⟨n, 1, none⟩ = some (.int .i64 y) := by unfold PBox at h; simp [World.cell?, h]
theorem PBox.z {n : Nat} {x y : Int} {w : World} (h : PBox n x y w) (o : Nat) : w.frozen? ⟨n, o, none⟩ = false := by unfold PBox at h; simp [World.frozen?, h]
theorem PBox.lt {n : Nat} {x y : Int} {w : World} (h : PBox n x y w) : n < w.heap.size := (Array.getElem?_eq_some_iff.1 h).1
theorem PBox.next {n : Nat} {x y : Int} {w w' : World} (h : PBox n x y w) (t : Below w.heap.size w w') : PBox n x y w' := by
  have := h.lt
  unfold PBox at *; rw [t.block n this]; exact h
theorem MBox.other {n q : Nat} {m : Mtx} {W : World} (h : MBox n m W) (hn : n ≠ q) (o : Nat) (v : Value) : MBox n m (W.setCell ⟨q, o, none⟩ v) := by
  unfold MBox at *; rw [Below.heap_setCell _ _ _ _ (by exact hn)]; exact h
end Go.Proofs.Ythnjdncnmdmjaaa
