/-
  The contract of package norm's kept.
-/
import Derived.Test.YtgiibcnakiggaaaGreatDoorNormIn
import Derived.Test.YtgiibcnakiggaaaGreatDoorNormRightM
namespace Go.Proofs.YtgiibcnakiggaaaGreatDoor
open Go.RowKit Go.Shelf

theorem kept_done {f : Func} (hres : f.results = #[ResultVar.cell 2 42]) (w : World) (a : Array Value) (g : Seg) {ts : Array Value} (hts : ts[2]? = some (.pointer (some ⟨w.heap.size + 1, 0, none⟩))) :
    bodyPost Tryz.prog f (fun e w' => e = .returned g.val ∧ Below w.heap.size w w') .ret { tmps := ts, defers := [] } ((w.alloc (.cells a 42)).alloc (.cells g.cells.toArray 42)) := by
  have b1 := (Below.refl w.heap.size w).alloc (Nat.le_refl _) (.cells a 42)
  generalize hA : w.alloc (.cells a 42) = A at *
  have sA : A.heap.size = w.heap.size + 1 := by rw [← hA]; simp
  have p1 : BoxS A.heap.size g (A.alloc (.cells g.cells.toArray 42)) := World.alloc_heap_new A _
  rw [sA] at p1
  exact seg_close hres (SegAt.of_block p1) (b1.alloc b1.size _) hts
set_option maxHeartbeats 8000000 in
set_option maxRecDepth 100000 in
theorem kept_any (g : Seg) (w : World) : Calls Tryz.prog 38 #[g.val] w fun e w' => e = .returned (keptS g).val ∧ Below w.heap.size w w' := by
  obtain ⟨k, tx, ty, ax, ay, cx, cy, rx, ry, tu, lg, sw⟩ := g
  unfold keptS
  dsimp only
  unfold Seg.val
  by_cases h3 : k = 3
  · subst h3
    rw [if_pos rfl]
    go_enter Tryz.func38, Tryz.ntmps38
    go_wp2_with fail
    exact kept_done Tryz.results38 w _ ⟨3, tx, ty, ax, ay, cx, cy, 0, 0, 0, false, false⟩ rfl
  · have e3 : (k == 3) = false := by rw [beq_eq_false_iff_ne]; exact h3
    rw [if_neg h3]
    by_cases h4 : k = 4
    · subst h4
      rw [if_pos rfl]
      go_enter Tryz.func38, Tryz.ntmps38
      go_wp2_with fail
      exact kept_done Tryz.results38 w _ ⟨4, tx, ty, ax, ay, 0, 0, 0, 0, 0, false, false⟩ rfl
    · have e4 : (k == 4) = false := by rw [beq_eq_false_iff_ne]; exact h4
      rw [if_neg h4]
      by_cases h5 : k = 5
      · subst h5
        rw [if_pos rfl]
        go_enter Tryz.func38, Tryz.ntmps38
        go_wp2_with fail
        exact kept_done Tryz.results38 w _ ⟨5, tx, ty, 0, 0, 0, 0, rx, ry, tu, lg, sw⟩ rfl
      · have e5 : (k == 5) = false := by rw [beq_eq_false_iff_ne]; exact h5
        rw [if_neg h5]
        go_enter Tryz.func38, Tryz.ntmps38
        go_wp2_with fail
        exact kept_done Tryz.results38 w _ ⟨k, tx, ty, 0, 0, 0, 0, 0, 0, 0, false, false⟩ rfl
end Go.Proofs.YtgiibcnakiggaaaGreatDoor
