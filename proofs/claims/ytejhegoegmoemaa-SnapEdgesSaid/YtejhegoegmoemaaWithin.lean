/-
  The contract of wide.Within.
-/
import Derived.Test.YtejhegoegmoemaaRowK
namespace Go.Proofs.Ytejhegoegmoemaa
open Go.RowKit Go.Shelf

/-- Is it within the bound? -/
def wiB (bound n : Int) : Bool := decide (n < bound ∧ -bound < n)
theorem all_snoc (p : Int → Bool) (zs : List Int) (k : Nat) (hk : k < zs.length) : (zs.take (k + 1)).all p = ((zs.take k).all p && p (zs.getD k 0)) := by
  rw [List.take_succ_eq_append_getElem hk, List.all_append]
  simp [List.getD, List.getElem?_eq_getElem hk]

theorem all_false (p : Int → Bool) (zs : List Int) (k : Nat) (hk : k < zs.length) (h : p (zs.getD k 0) = false) : zs.all p = false := by
  rw [List.all_eq_false]
  refine ⟨zs[k], List.getElem_mem hk, ?_⟩
  simpa [List.getD, List.getElem?_eq_getElem hk] using h

theorem getD_mem7 (zs : List Int) (k : Nat) (hk : k < zs.length) : zs.getD k 0 ∈ zs := by
  simp [List.getD, List.getElem?_eq_getElem hk]

end Go.Proofs.Ytejhegoegmoemaa
