/-
  What Apply and Then answer, by plain mathematics; boxes of matrices and points.
-/
import Derived.Test.YthnjdncnmdmjaaaAffMem
namespace Go.Proofs.Ythnjdncnmdmjaaa
open Go.RowKit Go.Shelf

theorem right_dec (m : Mtx) : decide m.right = (decide (In32 m.a) && (decide (In32 m.b) && (decide (In32 m.c) && (decide (In32 m.d) && (decide (In32 m.e) && decide (In32 m.f)))))) := by
  rw [Bool.eq_iff_iff]
  simp only [Bool.and_eq_true, decide_eq_true_eq]
  exact Iff.rfl
theorem In32.i {x : Int} (h : In32 x) : I64 x := by obtain ⟨h1, h2⟩ := h; exact ⟨by omega, by omega⟩
theorem PBox.set {n : Nat} {x y : Int} {w : World} (h : PBox n x y w) (x' y' : Int) : PBox n x' y' ((w.setCell ⟨n, 0, none⟩ (.int .i64 x')).setCell ⟨n, 1, none⟩ (.int .i64 y')) := by
  unfold PBox at *
  simp only [World.setCell, Array.getElem?_modify, h]
  simp
theorem PBox.other {n q : Nat} {x y : Int} {W : World} (h : PBox n x y W) (hn : n ≠ q) (o : Nat) (v : Value) : PBox n x y (W.setCell ⟨q, o, none⟩ v) := by
  unfold PBox at *; rw [Below.heap_setCell _ _ _ _ (by exact hn)]; exact h
theorem below_pt8 {w w' : World} {n : Nat} (h : Below w.heap.size w w') (hn : w.heap.size ≤ n) (x y : Value) : Below w.heap.size w ((w'.setCell ⟨n, 0, none⟩ x).setCell ⟨n, 1, none⟩ y) :=
  Below.setCell (Below.setCell h (by exact hn) _) (by exact hn) _
/-- What Apply answers: the point, and 0, 1 or 2. -/
def applyS (m : Mtx) (x y : Int) : (Int × Int) × Int :=
  if m.right ∧ In32 x ∧ In32 y then (if In32 (appM m x y).1 ∧ In32 (appM m x y).2 then (appM m x y, 0) else ((0, 0), 2)) else ((0, 0), 1)
def PE (r : (Int × Int) × Int) : Value := .tuple #[.agg #[.int .i64 r.1.1, .int .i64 r.1.2], .int .i64 r.2]
theorem pe_close8 {f : Func} {n k j : Nat} (hres : f.results = #[ResultVar.cell k 25, ResultVar.tmp j]) {w wr : World} {x y z : Int} {ts : Array Value} (hp : PBox n x y wr) (hb : Below w.heap.size w wr) (hts : ts[k]? = some (.pointer (some ⟨n, 0, none⟩))) (hte : ts[j]? = some (.int .i64 z)) :
    bodyPost Try.prog f (fun e w' => e = .returned (PE ((x, y), z)) ∧ Below w.heap.size w w') .ret { tmps := ts, defers := [] } wr := by
  have c0 := hp.c0
  have c1 := hp.c1
  exact bodyPost_ret (v := PE ((x, y), z)) (by simp [results, hres, go_sem, c0, c1, hts, hte, PE]) rfl ⟨rfl, hb⟩
theorem boxes3 (w : World) (m : Mtx) (x y : Int) : MBox w.heap.size m (((w.alloc (.cells m.cells 23)).alloc (.cells #[.int .i64 x, .int .i64 y] 25)).alloc (.cells #[.int .i64 0, .int .i64 0] 25)) ∧
    PBox (w.heap.size + 1) x y (((w.alloc (.cells m.cells 23)).alloc (.cells #[.int .i64 x, .int .i64 y] 25)).alloc (.cells #[.int .i64 0, .int .i64 0] 25)) ∧
    PBox (w.heap.size + 1 + 1) 0 0 (((w.alloc (.cells m.cells 23)).alloc (.cells #[.int .i64 x, .int .i64 y] 25)).alloc (.cells #[.int .i64 0, .int .i64 0] 25)) ∧
    Below w.heap.size w (((w.alloc (.cells m.cells 23)).alloc (.cells #[.int .i64 x, .int .i64 y] 25)).alloc (.cells #[.int .i64 0, .int .i64 0] 25)) := by
  have b1 := (Below.refl w.heap.size w).alloc (Nat.le_refl _) (.cells m.cells 23)
  have m1 := MBox.new w m
  generalize hA : w.alloc (.cells m.cells 23) = A at *
  have sA : A.heap.size = w.heap.size + 1 := by rw [← hA]; simp
  have b2 := (Below.refl A.heap.size A).alloc (Nat.le_refl _) (.cells #[.int .i64 x, .int .i64 y] 25)
  have p2 := PBox.new A x y
  generalize hB : A.alloc (.cells #[.int .i64 x, .int .i64 y] 25) = B at *
  have sB : B.heap.size = w.heap.size + 1 + 1 := by rw [← hB]; simp [sA]
  have b3 := (Below.refl B.heap.size B).alloc (Nat.le_refl _) (.cells #[.int .i64 0, .int .i64 0] 25)
  have p3 := PBox.new B 0 0
  rw [sA] at p2
  rw [sB] at p3
  exact ⟨(m1.next b2).next b3, p2.next b3, p3, (b1.trans (b2.mono b1.size)).trans (b3.mono (Nat.le_trans b1.size b2.size))⟩
theorem MBox.set {n : Nat} {m : Mtx} {w : World} (h : MBox n m w) (x0 x1 x2 x3 x4 x5 : Int) : MBox n ⟨x0, x1, x2, x3, x4, x5⟩ (((((((w).setCell ⟨n, 0, none⟩ (.int .i64 x0)).setCell ⟨n, 1, none⟩ (.int .i64 x1)).setCell ⟨n, 2, none⟩ (.int .i64 x2)).setCell ⟨n, 3, none⟩ (.int .i64 x3)).setCell ⟨n, 4, none⟩ (.int .i64 x4)).setCell ⟨n, 5, none⟩ (.int .i64 x5)) := by
  unfold MBox Mtx.cells at *
  simp only [World.setCell, Array.getElem?_modify, h]
  simp
theorem below_six8 {w w' : World} {n B : Nat} (h : Below B w w') (hn : B ≤ n) (x0 x1 x2 x3 x4 x5 : Value) : Below B w (((((((w').setCell ⟨n, 0, none⟩ (x0)).setCell ⟨n, 1, none⟩ (x1)).setCell ⟨n, 2, none⟩ (x2)).setCell ⟨n, 3, none⟩ (x3)).setCell ⟨n, 4, none⟩ (x4)).setCell ⟨n, 5, none⟩ (x5)) :=
  Below.setCell (Below.setCell (Below.setCell (Below.setCell (Below.setCell (Below.setCell h (by exact hn) _) (by exact hn) _) (by exact hn) _) (by exact hn) _) (by exact hn) _) (by exact hn) _
theorem below_six {w w' : World} {n : Nat} (h : Below w.heap.size w w') (hn : w.heap.size ≤ n) (x0 x1 x2 x3 x4 x5 : Value) : Below w.heap.size w (((((((w').setCell ⟨n, 0, none⟩ (x0)).setCell ⟨n, 1, none⟩ (x1)).setCell ⟨n, 2, none⟩ (x2)).setCell ⟨n, 3, none⟩ (x3)).setCell ⟨n, 4, none⟩ (x4)).setCell ⟨n, 5, none⟩ (x5)) :=
  Below.setCell (Below.setCell (Below.setCell (Below.setCell (Below.setCell (Below.setCell h (by exact hn) _) (by exact hn) _) (by exact hn) _) (by exact hn) _) (by exact hn) _) (by exact hn) _
def zeroM : Mtx := ⟨0, 0, 0, 0, 0, 0⟩
/-- What Then answers: the matrix, and 0, 1 or 2. -/
def thenS (m n : Mtx) : Mtx × Int :=
  if m.right ∧ n.right then (if (thenM m n).right then (thenM m n, 0) else (zeroM, 2)) else (zeroM, 1)
def ME (r : Mtx × Int) : Value := .tuple #[r.1.val, .int .i64 r.2]
theorem me_close8 {f : Func} {n k j : Nat} (hres : f.results = #[ResultVar.cell k 23, ResultVar.tmp j]) {w wr : World} {m : Mtx} {z : Int} {ts : Array Value} (hp : MBox n m wr) (hb : Below w.heap.size w wr) (hts : ts[k]? = some (.pointer (some ⟨n, 0, none⟩))) (hte : ts[j]? = some (.int .i64 z)) :
    bodyPost Try.prog f (fun e w' => e = .returned (ME (m, z)) ∧ Below w.heap.size w w') .ret { tmps := ts, defers := [] } wr := by
  have c0 := hp.c0
  have c1 := hp.c1
  have c2 := hp.c2
  have c3 := hp.c3
  have c4 := hp.c4
  have c5 := hp.c5
  exact bodyPost_ret (v := ME (m, z)) (by simp [results, hres, go_sem, c0, c1, c2, c3, c4, c5, hts, hte, ME, Mtx.val, Mtx.cells]) rfl ⟨rfl, hb⟩
theorem boxes3m (w : World) (m n : Mtx) : MBox w.heap.size m (((w.alloc (.cells m.cells 23)).alloc (.cells n.cells 23)).alloc (.cells zeroM.cells 23)) ∧
    MBox (w.heap.size + 1) n (((w.alloc (.cells m.cells 23)).alloc (.cells n.cells 23)).alloc (.cells zeroM.cells 23)) ∧
    MBox (w.heap.size + 1 + 1) zeroM (((w.alloc (.cells m.cells 23)).alloc (.cells n.cells 23)).alloc (.cells zeroM.cells 23)) ∧
    Below w.heap.size w (((w.alloc (.cells m.cells 23)).alloc (.cells n.cells 23)).alloc (.cells zeroM.cells 23)) := by
  have b1 := (Below.refl w.heap.size w).alloc (Nat.le_refl _) (.cells m.cells 23)
  have m1 := MBox.new w m
  generalize hA : w.alloc (.cells m.cells 23) = A at *
  have sA : A.heap.size = w.heap.size + 1 := by rw [← hA]; simp
  have b2 := (Below.refl A.heap.size A).alloc (Nat.le_refl _) (.cells n.cells 23)
  have p2 := MBox.new A n
  generalize hB : A.alloc (.cells n.cells 23) = B at *
  have sB : B.heap.size = w.heap.size + 1 + 1 := by rw [← hB]; simp [sA]
  have b3 := (Below.refl B.heap.size B).alloc (Nat.le_refl _) (.cells zeroM.cells 23)
  have p3 := MBox.new B zeroM
  rw [sA] at p2
  rw [sB] at p3
  exact ⟨(m1.next b2).next b3, p2.next b3, p3, (b1.trans (b2.mono b1.size)).trans (b3.mono (Nat.le_trans b1.size b2.size))⟩
end Go.Proofs.Ythnjdncnmdmjaaa
