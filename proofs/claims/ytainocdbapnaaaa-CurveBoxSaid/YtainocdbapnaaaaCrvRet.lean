/-
  A curve that is handed back.
-/
import Derived.Test.YtainocdbapnaaaaCrvMem
import Derived.Test.YtainocdbapnaaaaPtMust
namespace Go.Proofs.Ytainocdbapnaaaa
open Go.RowKit Go.Shelf

theorem boxes_four (w : World) (a b c d : Array Value) (s t u v : TypeId) : CBox w.heap.size s a ((((w.alloc (.cells a s)).alloc (.cells b t)).alloc (.cells c u)).alloc (.cells d v)) ∧ CBox (w.heap.size + 1) t b ((((w.alloc (.cells a s)).alloc (.cells b t)).alloc (.cells c u)).alloc (.cells d v)) ∧
    CBox (w.heap.size + 1 + 1) u c ((((w.alloc (.cells a s)).alloc (.cells b t)).alloc (.cells c u)).alloc (.cells d v)) ∧ CBox (w.heap.size + 1 + 1 + 1) v d ((((w.alloc (.cells a s)).alloc (.cells b t)).alloc (.cells c u)).alloc (.cells d v)) ∧ Below w.heap.size w ((((w.alloc (.cells a s)).alloc (.cells b t)).alloc (.cells c u)).alloc (.cells d v)) := by
  obtain ⟨p1, p2, p3, b1⟩ := boxes_three w a b c s t u
  generalize hA : ((w.alloc (.cells a s)).alloc (.cells b t)).alloc (.cells c u) = A at *
  have sA : A.heap.size = w.heap.size + 1 + 1 + 1 := by rw [← hA]; simp
  have b2 := (Below.refl A.heap.size A).alloc (Nat.le_refl _) (.cells d v)
  have p4 := CBox.new A v d
  rw [sA] at p4
  exact ⟨p1.next b2, p2.next b2, p3.next b2, p4, b1.trans (b2.mono b1.size)⟩
theorem CBox.set8 {n : Nat} {t : TypeId} {w : World} {a0 a1 a2 a3 a4 a5 a6 a7 : Value} (h : CBox n t #[a0, a1, a2, a3, a4, a5, a6, a7] w) (b0 b1 b2 b3 b4 b5 b6 b7 : Value) : CBox n t #[b0, b1, b2, b3, b4, b5, b6, b7] ((((((((w.setCell ⟨n, 0, none⟩ b0).setCell ⟨n, 1, none⟩ b1).setCell ⟨n, 2, none⟩ b2).setCell ⟨n, 3, none⟩ b3).setCell ⟨n, 4, none⟩ b4).setCell ⟨n, 5, none⟩ b5).setCell ⟨n, 6, none⟩ b6).setCell ⟨n, 7, none⟩ b7) := by
  unfold CBox at *
  simp only [World.setCell, Array.getElem?_modify, h]
  simp
theorem below_8 {w w' : World} {n B : Nat} (h : Below B w w') (hn : B ≤ n) (b0 b1 b2 b3 b4 b5 b6 b7 : Value) : Below B w ((((((((w'.setCell ⟨n, 0, none⟩ b0).setCell ⟨n, 1, none⟩ b1).setCell ⟨n, 2, none⟩ b2).setCell ⟨n, 3, none⟩ b3).setCell ⟨n, 4, none⟩ b4).setCell ⟨n, 5, none⟩ b5).setCell ⟨n, 6, none⟩ b6).setCell ⟨n, 7, none⟩ b7) :=
  Below.setCell (Below.setCell (Below.setCell (Below.setCell (Below.setCell (Below.setCell (Below.setCell (Below.setCell h (by exact hn) _) (by exact hn) _) (by exact hn) _) (by exact hn) _) (by exact hn) _) (by exact hn) _) (by exact hn) _) (by exact hn) _
theorem crv_ret {f : Func} {k : Nat} (hres : f.results = #[ResultVar.cell k 25]) {n : Nat} {w wr : World} {a0 a1 a2 a3 a4 a5 a6 a7 : Value} {ts : Array Value} (hp : CBox n 25 #[a0, a1, a2, a3, a4, a5, a6, a7] wr) (hb : Below w.heap.size w wr) (hts : ts[k]? = some (.pointer (some ⟨n, 0, none⟩))) :
    bodyPost Try.prog f (fun e w' => e = .returned (.agg #[a0, a1, a2, a3, a4, a5, a6, a7]) ∧ Below w.heap.size w w') .ret { tmps := ts, defers := [] } wr := by
  have c0 : wr.cell? ⟨n, 0, none⟩ = some a0 := hp.c 0 rfl
  have c1 : wr.cell? ⟨n, 1, none⟩ = some a1 := hp.c 1 rfl
  have c2 : wr.cell? ⟨n, 2, none⟩ = some a2 := hp.c 2 rfl
  have c3 : wr.cell? ⟨n, 3, none⟩ = some a3 := hp.c 3 rfl
  have c4 : wr.cell? ⟨n, 4, none⟩ = some a4 := hp.c 4 rfl
  have c5 : wr.cell? ⟨n, 5, none⟩ = some a5 := hp.c 5 rfl
  have c6 : wr.cell? ⟨n, 6, none⟩ = some a6 := hp.c 6 rfl
  have c7 : wr.cell? ⟨n, 7, none⟩ = some a7 := hp.c 7 rfl
  exact bodyPost_ret (v := .agg #[a0, a1, a2, a3, a4, a5, a6, a7]) (by simp [results, hres, go_sem, c0, c1, c2, c3, c4, c5, c6, c7, hts]) rfl ⟨rfl, hb⟩
end Go.Proofs.Ytainocdbapnaaaa
