/-
  What lies below a block stays, but for one variable (any program).
-/
import Derived.Test.YtejhegoegmoemaaIterBox
import Derived.Test.YtejhegoegmoemaaRowBox
namespace Go.Proofs.Ytejhegoegmoemaa
open Go.RowKit Go.Shelf

/-- All blocks below D are as in W0, but for those of ex. -/
def Fixed (D : Nat) (ex : List Nat) (W0 X : World) : Prop := D ≤ X.heap.size ∧ ∀ k, k < D → k ∉ ex → X.heap[k]? = W0.heap[k]?
theorem Fixed.refl {D : Nat} {ex : List Nat} {W0 : World} (h : D ≤ W0.heap.size) : Fixed D ex W0 W0 := ⟨h, fun _ _ _ => rfl⟩
theorem abideO_fixed {β : Type} {T : TypeId → Prop} {D : Nat} {ex : List Nat} {W0 : World} : AbideO (β := β) T D (fun _ X => Fixed D ex W0 X) :=
  ⟨⟨fun _ _ _ h b => ⟨Nat.le_trans h.1 b.size, fun k hk he => (b.block k (Nat.lt_of_lt_of_le hk h.1)).trans (h.2 k hk he)⟩,
    fun _ _ _ q _ _ _ h hq _ _ B => ⟨Nat.le_trans h.1 B.size, fun k hk he => (B.block k (Nat.lt_of_lt_of_le hk h.1) (by omega)).trans (h.2 k hk he)⟩⟩,
   fun _ _ _ _ h hg hr => ⟨Nat.le_trans h.1 hg.size, fun k hk he => (hg.block k (Nat.lt_of_lt_of_le hk h.1) (fun e => by have := (hr k e.symm).1; omega)).trans (h.2 k hk he)⟩⟩
theorem Fixed.next {D : Nat} {ex : List Nat} {W0 X Y : World} (h : Fixed D ex W0 X) (b : Below X.heap.size X Y) : Fixed D ex W0 Y := ⟨Nat.le_trans h.1 b.size, fun k hk he => (b.block k (Nat.lt_of_lt_of_le hk h.1)).trans (h.2 k hk he)⟩
theorem Fixed.set {D n o : Nat} {ex : List Nat} {W0 X : World} (h : Fixed D ex W0 X) (hn : n ∈ ex) (v : Value) : Fixed D ex W0 (X.setCell ⟨n, o, none⟩ v) :=
  ⟨by have := h.1; simpa [World.setCell] using this, fun k hk he => (Below.heap_setCell _ _ _ _ (by exact fun e => he (e ▸ hn))).trans (h.2 k hk he)⟩
theorem Fixed.box {D n : Nat} {ex : List Nat} {W0 X : World} {t : TypeId} {cs : Array Value} (h : Fixed D ex W0 X) (hb : CBox n t cs W0) (hn : n < D) (he : n ∉ ex) : CBox n t cs X := (h.2 n hn he).trans hb
theorem Fixed.own {α : Type} {L : Lay8 α} {D R : Nat} {ex : List Nat} {W0 X : World} {v : Value} {l : List α} (h : Fixed D ex W0 X) (hr : L.own R v l W0) (hD : W0.heap.size ≤ D) (he : ∀ q, v.ownBlock = some q → q ∉ ex) : L.own R v l X :=
  hr.stay fun q hq => h.2 q (Nat.lt_of_lt_of_le (hr.type q hq).1 hD) (he q hq)
theorem Fixed.cells {D a b : Nat} {ex : List Nat} {t : TypeId} {W0 X : World} (h : Fixed D ex W0 X) (hc : CellsAt a b t W0) (hb : b ≤ D) (he : ∀ k ∈ ex, k < a ∨ b ≤ k) : CellsAt a b t X := fun k h1 h2 => by
  obtain ⟨cs, z, hk⟩ := hc k h1 h2
  exact ⟨cs, z, (h.2 k (by omega) (fun hx => by have := he k hx; omega)).trans hk⟩
/-- A round that writes variables of ex alone, and new ones. -/
structure Small12 (D : Nat) (ex : List Nat) (X Y : World) : Prop where
  size : X.heap.size ≤ Y.heap.size
  cell : ∀ k, k < X.heap.size → k ∉ ex → Y.heap[k]? = X.heap[k]?
theorem Small12.refl (D : Nat) (ex : List Nat) (X : World) : Small12 D ex X X := ⟨Nat.le_refl _, fun _ _ _ => rfl⟩
theorem Small12.below {D : Nat} {ex : List Nat} {X Y Z : World} (h : Small12 D ex X Y) (b : Below Y.heap.size Y Z) : Small12 D ex X Z := ⟨Nat.le_trans h.size b.size, fun k hk he => (b.block k (Nat.lt_of_lt_of_le hk h.size)).trans (h.cell k hk he)⟩
theorem Small12.set {D n o : Nat} {ex : List Nat} {X Y : World} (h : Small12 D ex X Y) (hn : n ∈ ex) (v : Value) : Small12 D ex X (Y.setCell ⟨n, o, none⟩ v) :=
  ⟨by have := h.size; simpa [World.setCell] using this, fun k hk he => (Below.heap_setCell _ _ _ _ (by exact fun e => he (e ▸ hn))).trans (h.cell k hk he)⟩
/-- What such a round keeps: the variables of ex are cells, and lie below D and outside of a to b. -/
theorem Small12.keeps {T : TypeId → Prop} {D a b : Nat} {ex : List Nat} {X Y : World} (h : Small12 D ex X Y) (hX : D ≤ X.heap.size) (hb : b ≤ D) (he : ∀ k ∈ ex, k < D ∧ (k < a ∨ b ≤ k)) : KeepsFrom D X Y ∧ KeepsT T a b D X Y :=
  ⟨⟨h.size, fun k o hk ho _ => (h.cell k (Array.getElem?_eq_some_iff.1 ho).1 (fun hx => by have := (he k hx).1; omega)).trans ho⟩,
   ⟨h.size, fun k h1 h2 => h.cell k (by omega) (fun hx => by have := (he k hx).2; omega)⟩, fun k _ _ _ hk _ hc => (h.cell k (Array.getElem?_eq_some_iff.1 hc).1 (fun hx => by have := (he k hx).1; omega)).trans hc⟩
end Go.Proofs.Ytejhegoegmoemaa
