/-
  Boxes of any cells.
-/
import Derived.Test.YtejhegoegmoemaaBase
import Derived.RangeFuncBox
namespace Go.Proofs.Ytejhegoegmoemaa
open Go.RowKit Go.Shelf

/-- A box with these cells. -/
def CBox (n : Nat) (t : TypeId) (cs : Array Value) (w : World) : Prop := w.heap[n]? = some (.cells cs t)
theorem CBox.new (w : World) (t : TypeId) (cs : Array Value) : CBox w.heap.size t cs (w.alloc (.cells cs t)) := World.alloc_heap_new w _
theorem CBox.c {n : Nat} {t : TypeId} {cs : Array Value} {w : World} (h : CBox n t cs w) (i : Nat) {v : Value} (hi : cs[i]? = some v) : w.cell? ⟨n, i, none⟩ = some v := by
  unfold CBox at h; simp [World.cell?, h, hi]
theorem CBox.z {n : Nat} {t : TypeId} {cs : Array Value} {w : World} (h : CBox n t cs w) (o : Nat) : w.frozen? ⟨n, o, none⟩ = false := by unfold CBox at h; simp [World.frozen?, h]
theorem CBox.lt {n : Nat} {t : TypeId} {cs : Array Value} {w : World} (h : CBox n t cs w) : n < w.heap.size := (Array.getElem?_eq_some_iff.1 h).1
theorem CBox.next {n : Nat} {t : TypeId} {cs : Array Value} {w w' : World} (h : CBox n t cs w) (b : Below w.heap.size w w') : CBox n t cs w' := by
  have := h.lt
  unfold CBox at *; rw [b.block n this]; exact h
theorem CBox.below {n B : Nat} {t : TypeId} {cs : Array Value} {w w' : World} (h : CBox n t cs w) (b : Below B w w') (hn : n < B) : CBox n t cs w' := by
  unfold CBox at *; rw [b.block n hn]; exact h
theorem CBox.set {n : Nat} {t : TypeId} {cs : Array Value} {w : World} (h : CBox n t cs w) (o : Nat) (v : Value) (ho : o < cs.size) : CBox n t (cs.set o v ho) (w.setCell ⟨n, o, none⟩ v) := by
  unfold CBox at *
  simp only [World.setCell, Array.getElem?_modify, h]
  simp [Array.setIfInBounds, ho]
theorem CBox.other {n q : Nat} {t : TypeId} {cs : Array Value} {W : World} (h : CBox n t cs W) (hn : n ≠ q) (o : Nat) (v : Value) : CBox n t cs (W.setCell ⟨q, o, none⟩ v) := by
  unfold CBox at *; rw [Below.heap_setCell _ _ _ _ (by exact hn)]; exact h

theorem CBox.drew {n : Nat} {t : TypeId} {cs : Array Value} {w : World} (h : CBox n t cs w) : CBox n t cs w.drew := h

theorem boxes_two (w : World) (a b : Array Value) (s t : TypeId) : CBox w.heap.size s a ((w.alloc (.cells a s)).alloc (.cells b t)) ∧ CBox (w.heap.size + 1) t b ((w.alloc (.cells a s)).alloc (.cells b t)) ∧ Below w.heap.size w ((w.alloc (.cells a s)).alloc (.cells b t)) := by
  have b1 := (Below.refl w.heap.size w).alloc (Nat.le_refl _) (.cells a s)
  have p1 := CBox.new w s a
  generalize hA : w.alloc (.cells a s) = A at *
  have sA : A.heap.size = w.heap.size + 1 := by rw [← hA]; simp
  have b2 := (Below.refl A.heap.size A).alloc (Nat.le_refl _) (.cells b t)
  have p2 := CBox.new A t b
  rw [sA] at p2
  exact ⟨p1.next b2, p2, b1.trans (b2.mono b1.size)⟩
theorem boxes_three (w : World) (a b c : Array Value) (s t u : TypeId) : CBox w.heap.size s a (((w.alloc (.cells a s)).alloc (.cells b t)).alloc (.cells c u)) ∧ CBox (w.heap.size + 1) t b (((w.alloc (.cells a s)).alloc (.cells b t)).alloc (.cells c u)) ∧
    CBox (w.heap.size + 1 + 1) u c (((w.alloc (.cells a s)).alloc (.cells b t)).alloc (.cells c u)) ∧ Below w.heap.size w (((w.alloc (.cells a s)).alloc (.cells b t)).alloc (.cells c u)) := by
  obtain ⟨p1, p2, b1⟩ := boxes_two w a b s t
  generalize hA : (w.alloc (.cells a s)).alloc (.cells b t) = A at *
  have sA : A.heap.size = w.heap.size + 1 + 1 := by rw [← hA]; simp
  have b2 := (Below.refl A.heap.size A).alloc (Nat.le_refl _) (.cells c u)
  have p3 := CBox.new A u c
  rw [sA] at p3
  exact ⟨p1.next b2, p2.next b2, p3, b1.trans (b2.mono b1.size)⟩
end Go.Proofs.Ytejhegoegmoemaa
