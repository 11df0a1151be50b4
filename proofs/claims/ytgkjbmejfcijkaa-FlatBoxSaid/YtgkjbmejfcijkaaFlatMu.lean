/-
  Package flat's stack: how much is left to do, told from its cells; whether a branch is a piece, by one contract.
-/
import Derived.Test.YtgkjbmejfcijkaaFlatBrCut
namespace Go.Proofs.Ytgkjbmejfcijkaa
open Go.RowKit Go.Shelf

def getI (cs : Array Value) (q : Nat) : Int :=
  match cs[q]? with
  | some (.int _ z) => z
  | _ => 0
theorem getI_of {cs : Array Value} {q : Nat} {k : IntKind} {z : Int} (h : cs[q]? = some (.int k z)) : getI cs q = z := by unfold getI; rw [h]
def muC (cs : Array Value) : Nat := ((List.range (getI cs 189).toNat).map fun i => 2 ^ ((20 - getI cs (i * 9 + 8)).toNat + 1) - 1).sum
theorem stackMu_sum : ∀ s : List (Crv × Nat), stackMu s = (s.map fun x => 2 ^ (x.2 + 1) - 1).sum
  | [] => rfl
  | (c, n) :: t => by rw [stackMu, stackMu_sum t, List.map_cons, List.sum_cons]
theorem StkC.mu {cs : Array Value} {s : List (Crv × Nat)} (h : StkC cs s) (hl : s.length ≤ 21) : muC cs = stackMu s := by
  have h1 : (getI cs 189).toNat = s.length := by rw [getI_of h.num]; simp
  unfold muC
  rw [h1, stackMu_sum, ← List.sum_reverse (s.map _), ← List.map_reverse]
  congr 1
  refine List.ext_getElem (by simp) fun i hi1 hi2 => ?_
  simp only [List.length_map, List.length_range] at hi1
  have hx : s.reverse[i]? = some (s.reverse[i]'(by simpa using hi1)) := List.getElem?_eq_getElem _
  have h8 := h.row i _ hx (by omega) 8 (by decide)
  rw [List.getElem_map, List.getElem_map, List.getElem_range]
  generalize s.reverse[i]'(by simpa using hi1) = x at *
  rw [getI_of (k := .i64) (z := cutsI x.2) h8]
  congr 3
  unfold cutsI
  omega
def muW (n : Nat) (w : World) : Nat :=
  match w.heap[n]? with
  | some (.cells cs _ _) => muC cs
  | _ => 0
theorem Stk.mu {n : Nat} {s : List (Crv × Nat)} {w : World} (h : Stk n s w) (hl : s.length ≤ 21) : muW n w = stackMu s := by
  obtain ⟨cs, h1, h2⟩ := h
  unfold muW
  rw [h1]
  exact h2.mu hl
theorem piece_any (c : Crv) (n : Nat) (w : World) (hc : c.right) : Calls Try.prog 27 #[.agg (brX (c, n))] w fun e w' => e = .returned (.bool (decide (c.flat ∨ n = 0))) ∧ Below w.heap.size w w' := by
  cases n with
  | zero =>
    rw [show decide (c.flat ∨ 0 = 0) = true from decide_eq_true (.inr rfl)]
    exact piece_yes c w
  | succ n =>
    rw [show decide (c.flat ∨ n + 1 = 0) = decide c.flat from by simp]
    exact piece_no c n w hc
/-- What the loop over the stack keeps. -/
def PceInv (c : Crv) (n ca cb D : Nat) (W0 : World) (J : List Crv → World → Prop) (wr : World) : Prop :=
  ∃ (s : List (Crv × Nat)) (pre : List Crv), Stk n s wr ∧ stackOk s ∧ J pre wr ∧ pre ++ stackL s = pieces12 20 c ∧ Mid ca cb W0 wr ∧ D ≤ wr.heap.size
end Go.Proofs.Ytgkjbmejfcijkaa
