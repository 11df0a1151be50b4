/-
  What stays where other memory turns: rows of the call's own, boxes.
-/
import Derived.Test.YtejhegoegmoemaaCells
import Derived.Test.YtejhegoegmoemaaFeed
import Derived.Deep.AppendLies
import Derived.OwnWalk
namespace Go.Proofs.Ytejhegoegmoemaa
open Go.RowKit Go.Shelf

theorem own_typeK {W : World} {R : Nat} {e : TypeId} {sz : Nat} {v : Value} {k : Nat} {xs : List Value} (h : W.ownsRow R e sz v k xs) : ∀ q, v.ownBlock = some q → q < W.heap.size ∧ R ≤ q ∧ ∃ cur, W.heap[q]? = some (.cells cur e (0, 0)) := by
  intro q hq
  rcases h.2 with ⟨rfl, _⟩ | ⟨g, cap, cur, rfl, hb, hg, _⟩
  · simp [Value.ownBlock] at hq
  · obtain rfl : g = q := by simpa [Value.ownBlock] using hq
    exact ⟨(Array.getElem?_eq_some_iff.1 hg).1, hb, cur, hg⟩
theorem own_stayK {W W' : World} {R : Nat} {e : TypeId} {sz : Nat} {v : Value} {k : Nat} {xs : List Value} (h : W.ownsRow R e sz v k xs) (hb : ∀ q, v.ownBlock = some q → W'.heap[q]? = W.heap[q]?) : W'.ownsRow R e sz v k xs := by
  refine ⟨h.1, ?_⟩
  rcases h.2 with h | ⟨g, cap, cur, rfl, hR, hg, h1, h2, h3, h4⟩
  · exact .inl h
  · exact .inr ⟨g, cap, cur, rfl, hR, (hb g rfl).trans hg, h1, h2, h3, h4⟩
theorem own_nextK {W W' : World} {R : Nat} {e : TypeId} {sz : Nat} {v : Value} {k : Nat} {xs : List Value} (h : W.ownsRow R e sz v k xs) (t : Below W.heap.size W W') : W'.ownsRow R e sz v k xs :=
  own_stayK h fun q hq => t.block q (own_typeK h q hq).1
theorem own_freeK {W W' : World} {R : Nat} {e : TypeId} {sz : Nat} {v : Value} {k : Nat} {xs : List Value} {row : Option Nat} (h : W.ownsRow R e sz v k xs) (hg : W.grownBy W' row)
    (hr : ∀ r, row = some r → ∃ o : Obj, W.heap[r]? = some o ∧ o.isCells = false) : W'.ownsRow R e sz v k xs :=
  own_stayK h fun q hq => by
    obtain ⟨hlt, _, cur, hc⟩ := own_typeK h q hq
    refine hg.block q hlt fun e => ?_
    obtain ⟨o, ho, hn⟩ := hr q e.symm
    rw [hc] at ho
    cases ho
    cases hn
theorem own_butK {W W' : World} {R b : Nat} {e t : TypeId} {sz : Nat} {v : Value} {k : Nat} {xs : List Value} {cs : Array Value} {z : Nat × Nat} (h : W.ownsRow R e sz v k xs) (hb : W.heap[b]? = some (.cells cs t z)) (ht : t ≠ e) (B : But W.heap.size b W W') : W'.ownsRow R e sz v k xs :=
  own_stayK h fun q hq => by
    obtain ⟨hlt, _, cur, hc⟩ := own_typeK h q hq
    refine B.block q hlt fun e => ?_
    subst e
    rw [hb] at hc
    injection hc with hc
    injection hc with _ hc _
    exact ht hc
theorem CBox.free {W W' : World} {n : Nat} {t : TypeId} {cs : Array Value} {row : Option Nat} (h : CBox n t cs W) (hg : W.grownBy W' row)
    (hr : ∀ r, row = some r → ∃ o : Obj, W.heap[r]? = some o ∧ o.isCells = false) : CBox n t cs W' := by
  have hl := h.lt
  unfold CBox at *
  refine (hg.block n hl fun e => ?_).trans h
  obtain ⟨o, ho, hn⟩ := hr n e.symm
  rw [h] at ho
  cases ho
  cases hn
theorem CBox.but {W W' : World} {n b : Nat} {t : TypeId} {cs : Array Value} (h : CBox n t cs W) (hn : n ≠ b) (B : But W.heap.size b W W') : CBox n t cs W' := by
  have hl := h.lt
  unfold CBox at *
  exact (B.block n hl hn).trans h
theorem CBox.type_ne {W : World} {n b : Nat} {t u : TypeId} {cs ds : Array Value} {z : Nat × Nat} (h : CBox n t cs W) (hb : W.heap[b]? = some (.cells ds u z)) (ht : u ≠ t) : n ≠ b := by
  rintro rfl
  unfold CBox at h
  rw [hb] at h
  injection h with h
  injection h with _ h _
  exact ht h
theorem CBox.not_own {W : World} {R n : Nat} {t e : TypeId} {cs : Array Value} {sz : Nat} {v : Value} {k : Nat} {xs : List Value} (h : CBox n t cs W) (hr : W.ownsRow R e sz v k xs) (ht : t ≠ e) : some n ≠ v.ownBlock := by
  intro hq
  obtain ⟨_, _, cur, hc⟩ := own_typeK hr n hq.symm
  unfold CBox at h
  rw [h] at hc
  injection hc with hc
  injection hc with _ hc _
  exact ht hc
theorem CBox.grown {W W' : World} {n : Nat} {t : TypeId} {cs : Array Value} {row : Option Nat} (h : CBox n t cs W) (hg : W.grownBy W' row) (hn : some n ≠ row) : CBox n t cs W' := by
  have hl := h.lt
  unfold CBox at *
  exact (hg.block n hl hn).trans h
end Go.Proofs.Ytejhegoegmoemaa
