/-
  A law's answer in a box, as it is handed back: without deferred calls, and behind a loop.
-/
import Derived.Test.YtejhegoegmoemaaIterBox
namespace Go.Proofs.Ytejhegoegmoemaa
open Go.RowKit Go.Shelf
attribute [local go_sem] Oper.semAt_some

theorem boxM_ret {F : Fence} {n : Nat} {f : Func} {k : Nat} (hres : f.results = #[ResultVar.cell k 4]) {q : Nat} {w wr : World} {v : Value} {ts : Array Value} (hp : CBox q 4 #[v] wr) (hb : Below w.heap.size w wr) (hts : ts[k]? = some (.pointer (some ⟨q, 0, none⟩))) (hv : v = .bool true) :
    bodyPostM F n Try.prog f (fun e w' => e = .returned (.bool true) ∧ Below w.heap.size w w') .ret { tmps := ts, defers := [] } wr := by
  have c0 : wr.cell? ⟨q, 0, none⟩ = some v := hp.c 0 rfl
  subst hv
  exact ⟨.bool true, by simp [results, hres, go_sem, c0, hts], rfl, hb⟩
theorem boxM_done {F : Fence} {n : Nat} {f : Func} {k : Nat} (hres : f.results = #[ResultVar.cell k 4]) {q D : Nat} {w wr : World} {v : Value} {ts : Array Value} (hp : CBox q 4 #[v] wr) (hb : Below w.heap.size w wr) (hts : ts[k]? = some (.pointer (some ⟨q, 0, none⟩))) (hv : v = .bool true) (hK : wr.heap[D]? = some (.deferred (some []))) (hD : w.heap.size ≤ D) :
    bodyPostM F n Try.prog f (fun e w' => e = .returned (.bool true) ∧ Below w.heap.size w w') .ret { tmps := ts, defers := [{ target := .collected D, args := #[] }] } wr := by
  have hne : q ≠ D := by
    rintro rfl
    unfold CBox at hp
    rw [hp] at hK
    cases hK
  have hp2 : CBox q 4 #[v] (wr.putObj D (.deferred none)) := (World.putObj_heap_other hne).trans hp
  have hb2 : Below w.heap.size w (wr.putObj D (.deferred none)) := hb.grown (grownBy_putObj' wr D _) hb.size fun k e => by cases e; exact hD
  have c0 : (wr.putObj D (.deferred none)).cell? ⟨q, 0, none⟩ = some v := hp2.c 0 rfl
  subst hv
  refine ⟨by simp, .inl ⟨_, _, rfl, run_takeDeferred hK, ?_⟩⟩
  exact ⟨.bool true, by simp [results, hres, go_sem, c0, hts], rfl, hb2⟩
end Go.Proofs.Ytejhegoegmoemaa
