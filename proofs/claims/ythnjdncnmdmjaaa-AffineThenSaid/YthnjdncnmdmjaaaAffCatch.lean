/-
  Package affine: what begin's deferred functions catch.
-/
import Derived.Test.YthnjdncnmdmjaaaAffMust
namespace Go.Proofs.Ythnjdncnmdmjaaa
open Go.RowKit Go.Shelf

/-- A box with an error's number. -/
def EBox (n : Nat) (z : Int) (w : World) : Prop := w.heap[n]? = some (.cells #[.int .i64 z] 27)
theorem EBox.new (w : World) (z : Int) : EBox w.heap.size z (w.alloc (.cells #[.int .i64 z] 27)) := World.alloc_heap_new w _
theorem EBox.c0 {n : Nat} {z : Int} {w : World} (h : EBox n z w) : w.cell? ⟨n, 0, none⟩ = some (.int .i64 z) := by unfold EBox at h; simp [World.cell?, h]
theorem EBox.z {n : Nat} {z : Int} {w : World} (h : EBox n z w) (o : Nat) : w.frozen? ⟨n, o, none⟩ = false := by unfold EBox at h; simp [World.frozen?, h]
theorem EBox.lt {n : Nat} {z : Int} {w : World} (h : EBox n z w) : n < w.heap.size := (Array.getElem?_eq_some_iff.1 h).1
theorem EBox.next {n : Nat} {z : Int} {w w' : World} (h : EBox n z w) (t : Below w.heap.size w w') : EBox n z w' := by
  have := h.lt
  unfold EBox at *; rw [t.block n this]; exact h
theorem EBox.other {n q : Nat} {z : Int} {w : World} (h : EBox n z w) (hn : n ≠ q) (o : Nat) (v : Value) : EBox n z (w.setCell ⟨q, o, none⟩ v) := by
  unfold EBox at *; rw [Below.heap_setCell _ _ _ _ (by exact hn)]; exact h
theorem EBox.set {n : Nat} {z : Int} {w : World} (h : EBox n z w) (z' : Int) : EBox n z' (w.setCell ⟨n, 0, none⟩ (.int .i64 z')) := by
  unfold EBox at *
  simp only [World.setCell, Array.getElem?_modify, h]
  simp
theorem assert_none (w : World) : Sem.run Try.prog (Instr.typeAssert Value.nilIface 20 27 true) w = .ok (.tuple #[.int .i64 0, .bool false]) w := by kernel_rfl
theorem assert_some (z : Int) (w : World) : Sem.run Try.prog (Instr.typeAssert (.iface 27 (.int .i64 z)) 20 27 true) w = .ok (.tuple #[.int .i64 z, .bool true]) w := by kernel_rfl
theorem catch_none_P (q : Addr) (w : World) : CallsD Try.prog 56 #[.pointer (some q)] .returning w fun e u' w' => e = .returned (.tuple #[]) ∧ u' = .returning ∧ w' = w := by
  refine callsD_of_wpS Try.func56 rfl fun c₀ cs hu => ?_
  apply wpS_seq
  apply wpS_region
  simp [wpOpsS, go_sem, recoverD, hu, Try.ntmps56, Exit.thenS, assert_none]
  apply wpS_seq
  apply wpS_region
  simp [wpOpsS, go_sem, Exit.thenS]
  refine wpS_cond (t := false) (by simp [Act.eval, Array.replicate]) ?_
  simp only [Bool.false_eq_true, if_false]
  refine wpS_of_wp (wp_skip ?_)
  cases c₀
  simp_all [bodyPostS, results, Try.results56]
theorem catch_some_P (q : Addr) (z0 z : Int) (older : List PanicEntry) (w : World) (hc : w.cell? q = some (.int .i64 z0)) (hz : w.frozen? q = false) :
    CallsD Try.prog 56 #[.pointer (some q)] (.panicking ({ v := .iface 27 (.int .i64 z), recovered := false } :: older)) w fun e u' w' =>
      e = .returned (.tuple #[]) ∧ u' = .panicking ({ v := .iface 27 (.int .i64 z), recovered := true } :: older) ∧ w' = w.setCell q (.int .i64 z) := by
  refine callsD_of_wpS Try.func56 rfl fun c₀ cs hu => ?_
  apply wpS_seq
  apply wpS_region
  simp [wpOpsS, go_sem, recoverD, hu, Try.ntmps56, Exit.thenS, assert_some]
  apply wpS_seq
  apply wpS_region
  simp [wpOpsS, go_sem, Exit.thenS]
  refine wpS_cond (t := true) (by simp [Act.eval, Array.replicate]) ?_
  simp only [if_true]
  apply wpS_region
  simp [wpOpsS, go_sem, hc, hz, bodyPostS, results, Try.results56]
theorem catch_none_M (q : Addr) (w : World) : CallsD Try.prog 58 #[.pointer (some q)] .returning w fun e u' w' => e = .returned (.tuple #[]) ∧ u' = .returning ∧ w' = w := by
  refine callsD_of_wpS Try.func58 rfl fun c₀ cs hu => ?_
  apply wpS_seq
  apply wpS_region
  simp [wpOpsS, go_sem, recoverD, hu, Try.ntmps58, Exit.thenS, assert_none]
  apply wpS_seq
  apply wpS_region
  simp [wpOpsS, go_sem, Exit.thenS]
  refine wpS_cond (t := false) (by simp [Act.eval, Array.replicate]) ?_
  simp only [Bool.false_eq_true, if_false]
  refine wpS_of_wp (wp_skip ?_)
  cases c₀
  simp_all [bodyPostS, results, Try.results58]
theorem catch_some_M (q : Addr) (z0 z : Int) (older : List PanicEntry) (w : World) (hc : w.cell? q = some (.int .i64 z0)) (hz : w.frozen? q = false) :
    CallsD Try.prog 58 #[.pointer (some q)] (.panicking ({ v := .iface 27 (.int .i64 z), recovered := false } :: older)) w fun e u' w' =>
      e = .returned (.tuple #[]) ∧ u' = .panicking ({ v := .iface 27 (.int .i64 z), recovered := true } :: older) ∧ w' = w.setCell q (.int .i64 z) := by
  refine callsD_of_wpS Try.func58 rfl fun c₀ cs hu => ?_
  apply wpS_seq
  apply wpS_region
  simp [wpOpsS, go_sem, recoverD, hu, Try.ntmps58, Exit.thenS, assert_some]
  apply wpS_seq
  apply wpS_region
  simp [wpOpsS, go_sem, Exit.thenS]
  refine wpS_cond (t := true) (by simp [Act.eval, Array.replicate]) ?_
  simp only [if_true]
  apply wpS_region
  simp [wpOpsS, go_sem, hc, hz, bodyPostS, results, Try.results58]
end Go.Proofs.Ythnjdncnmdmjaaa
