/-
  A row of the call's own in a variable that a loop's body captures: one more is appended in a round (any kind of things).
-/
import Derived.Test.YtejhegoegmoemaaFeedO
import Derived.Test.YtejhegoegmoemaaRowG
import Derived.Test.YtejhegoegmoemaaCellsRow
namespace Go.Proofs.Ytejhegoegmoemaa
open Go.RowKit Go.Shelf

theorem Lay8.own.not_box {α : Type} {L : Lay8 α} {W : World} {R n : Nat} {t : TypeId} {cs : Array Value} {v : Value} {l : List α} (hr : L.own R v l W) (h : CBox n t cs W) (ht : t ≠ L.e) : some n ≠ v.ownBlock := by
  intro hq
  obtain ⟨_, _, cur, hc⟩ := hr.type n hq.symm
  unfold CBox at h
  rw [h] at hc
  injection hc with hc
  injection hc with _ hc _
  exact ht hc
/-- What a round has left that appends to the row in box n. -/
structure RowStep {α : Type} (L : Lay8 α) (T : TypeId → Prop) (a b D n R : Nat) (t : TypeId) (v' : Value) (l : List α) (X Y : World) : Prop where
  others : KeepsOthers X Y
  keeps : KeepsT T a b D X Y
  box : CBox n t #[v'] Y
  row : L.own R v' l Y
  size : X.heap.size ≤ Y.heap.size
  boxes : ∀ n' t' cs', CBox n' t' cs' X → n' ≠ n → t' ≠ L.e → CBox n' t' cs' Y
  below : ∀ B w, Below B w X → B ≤ n → B ≤ R → B ≤ X.heap.size → Below B w Y
theorem rowbox_step {α : Type} {L : Lay8 α} {T : TypeId → Prop} {a b D n R : Nat} {t : TypeId} {v v' : Value} {l m : List α} {X w1 : World} (hv : CBox n t #[v] X) (hrow : L.own R v l X) (hown : L.own R v' m w1) (hg : X.grownBy w1 v.ownBlock) (ht : t ≠ L.e) (hT : ¬ T L.e)
    (hn : n < D) (hR : D ≤ R) (hb : b ≤ D) (hna : n < a ∨ b ≤ n) (hD : D ≤ X.heap.size) : RowStep L T a b D n R t v' m X (w1.setCell ⟨n, 0, none⟩ v') := by
  have hne := hrow.not_box hv ht
  have hv1 := hv.grown hg hne
  have hne' := hown.not_box hv1 ht
  have hblk : ∀ k, k < X.heap.size → k ≠ n → some k ≠ v.ownBlock → (w1.setCell ⟨n, 0, none⟩ v').heap[k]? = X.heap[k]? := fun k hk h1 h2 =>
    (Below.heap_setCell _ _ _ _ (by exact h1)).trans (hg.block k hk h2)
  have hsz : X.heap.size ≤ (w1.setCell ⟨n, 0, none⟩ v').heap.size := by have := hg.size; simp [World.setCell]; omega
  have hq : ∀ k, v.ownBlock = some k → R ≤ k ∧ ∃ cur, X.heap[k]? = some (.cells cur L.e (0, 0)) := fun k e => (hrow.type k e).2
  refine ⟨⟨hsz, fun k o ho hc => ?_⟩, ⟨⟨hsz, fun k h1 h2 => ?_⟩, fun k t' cs z hk ht' hc => ?_⟩, ?_, ?_, hsz, fun n' t' cs' h h1 h2 => ?_, fun B w h h1 h2 h3 => ?_⟩
  · refine (hblk k (Array.getElem?_eq_some_iff.1 ho).1 (fun e => ?_) (fun e => ?_)).trans ho
    · subst e
      unfold CBox at hv
      rw [hv] at ho
      cases ho
      cases hc
    · obtain ⟨_, cur, hcur⟩ := hq k e.symm
      rw [hcur] at ho
      cases ho
      cases hc
  · exact hblk k (by omega) (by omega) (fun e => by have := (hq k e.symm).1; omega)
  · refine (hblk k (Array.getElem?_eq_some_iff.1 hc).1 (by omega) (fun e => ?_)).trans hc
    obtain ⟨_, cur, hcur⟩ := hq k e.symm
    rw [hcur] at hc
    injection hc with hc
    injection hc with _ hc _
    exact hT (hc ▸ ht')
  · exact hv1.set 0 v' (show (0 : Nat) < 1 by decide)
  · exact hown.stay fun q hqq => Below.heap_setCell _ _ _ _ (fun e => hne' (by have e' : q = n := e; rw [← e']; exact hqq.symm))
  · have hnn : some n' ≠ v.ownBlock := hrow.not_box h h2
    exact (h.grown hg hnn).other h1 0 v'
  · exact Below.setCell (h.grown hg h3 fun k e => Nat.le_trans h2 (hq k e).1) (by exact h1) _
end Go.Proofs.Ytejhegoegmoemaa
