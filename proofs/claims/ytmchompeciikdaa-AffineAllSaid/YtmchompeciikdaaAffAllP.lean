/-
  What All answers, as it lies in memory.
-/
import Derived.Test.YtmchompeciikdaaAffAllM
namespace Go.Proofs.Ytmchompeciikdaa
open Go.RowKit Go.Shelf

/-- What All answers, as it lies in memory. -/
def AllP (m : Mtx) (l : List Pt) (w : World) (e : Ending) (w' : World) : Prop :=
  ∃ v, e = .returned (.tuple #[v, .int .i64 (allA m l).2]) ∧ Pts w.heap.size v (allA m l).1 w' ∧ Below w.heap.size w w'
theorem allp_mk {m : Mtx} {l : List Pt} {w w' : World} {v : Value} {L : List Pt} {z : Int} (h : allA m l = (L, z)) (hv : Pts w.heap.size v L w') (hb : Below w.heap.size w w') : AllP m l w (.returned (.tuple #[v, .int .i64 z])) w' := by
  unfold AllP; rw [h]; exact ⟨v, rfl, hv, hb⟩
end Go.Proofs.Ytmchompeciikdaa
