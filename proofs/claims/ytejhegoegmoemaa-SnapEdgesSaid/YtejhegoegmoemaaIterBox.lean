/-
  What a range over an iterator of one's own keeps: boxes, rows in boxes, blocks of a type.
-/
import Derived.Test.YtejhegoegmoemaaFeedO
import Derived.Test.YtejhegoegmoemaaRowG
import Derived.Test.YtejhegoegmoemaaCellsRow
import Derived.RangeFuncLeaves
namespace Go.Proofs.Ytejhegoegmoemaa
open Go.RowKit Go.Shelf

theorem FeedsO.wideAny {β : Type} {P : Program} {T : TypeId → Prop} {a b m n : Nat} {enc : β → Array Value} {RES : List β} {gf : Nat} {lb : Array Value} {w0 : World} (h : FeedsO P T a b enc RES Fence.wide m gf lb w0) : FeedsO P T a b enc RES Fence.wide n gf lb w0 := by
  intro l J Jx W hm hj hjx hy h0
  refine (callsIn_wide (n := n)).2 ((callsIn_wide (n := m)).1 (h l J Jx W hm hj hjx (fun pre x W1 h1 h2 h3 => ?_) h0))
  obtain ⟨fn, tmps, assign, body, hr, hR⟩ := hy pre x W1 h1 h2 h3
  exact ⟨fn, tmps, assign, body, hr, RoundIn.wideAny hR⟩
/-- A block whose variable a round keeps. -/
theorem mid_of_priv {T : TypeId → Prop} {a b ca cb D : Nat} {A B : World} (h : KeepsT T ca cb D A B) (hD : D ≤ a) (hc : ∀ k, a ≤ k → k < b → ∃ cs t z, T t ∧ A.heap[k]? = some (.cells cs t z)) : Mid a b A B :=
  ⟨h.mid.size, fun k h1 h2 => by
    obtain ⟨cs, t, z, ht, hk⟩ := hc k h1 h2
    exact (h.priv k t cs z (Nat.le_trans hD h1) ht hk).trans hk.symm⟩
theorem ownFrom_box {β : Type} (D n : Nat) (t : TypeId) (cs : Array Value) : OwnFrom D (fun (_ : β) W => CBox n t cs W) :=
  fun _ _ _ _ h hg hr => h.free hg fun r e => (hr r e).2
theorem abideO_box {β : Type} {T : TypeId → Prop} {D n : Nat} {t : TypeId} {cs : Array Value} (hn : n < D) : AbideO (β := β) T D (fun _ W => CBox n t cs W) :=
  ⟨⟨fun _ _ _ h b => h.next b, fun _ _ _ b _ _ _ h hb _ _ B => h.but (by omega) B⟩, ownFrom_box D n t cs⟩
theorem abideO_boxP {β : Type} {T : TypeId → Prop} {D n : Nat} {t : TypeId} (hn : n < D) (f : List β → Array Value) : AbideO T D (fun pre W => CBox n t (f pre) W) :=
  ⟨⟨fun _ _ _ h b => h.next b, fun _ _ _ b _ _ _ h hb _ _ B => h.but (by omega) B⟩, fun _ _ _ _ h hg hr => h.free hg fun r e => (hr r e).2⟩
theorem AbideO.and {β : Type} {T : TypeId → Prop} {D : Nat} {J K : List β → World → Prop} (h : AbideO T D J) (k : AbideO T D K) : AbideO T D (fun pre W => J pre W ∧ K pre W) :=
  ⟨⟨fun pre W W' hj hb => ⟨h.abide.new pre W W' hj.1 hb, k.abide.new pre W W' hj.2 hb⟩, fun pre W W' b t cs z hj h1 h2 h3 h4 => ⟨h.abide.priv pre W W' b t cs z hj.1 h1 h2 h3 h4, k.abide.priv pre W W' b t cs z hj.2 h1 h2 h3 h4⟩⟩, h.own.and k.own⟩
theorem abideO_size {β : Type} {T : TypeId → Prop} {D n : Nat} : AbideO (β := β) T D (fun _ W => n ≤ W.heap.size) :=
  ⟨⟨fun _ _ _ h b => Nat.le_trans h b.size, fun _ _ _ _ _ _ _ h _ _ _ B => Nat.le_trans h B.size⟩, fun _ _ _ _ h hg _ => Nat.le_trans h hg.size⟩
theorem AbideO.sub {β : Type} {T T' : TypeId → Prop} {D : Nat} {J : List β → World → Prop} (h : AbideO T D J) (hT : ∀ t, T' t → T t) : AbideO T' D J :=
  ⟨⟨h.abide.new, fun pre W W' b t cs z hj h1 h2 h3 h4 => h.abide.priv pre W W' b t cs z hj h1 (hT t h2) h3 h4⟩, h.own⟩
theorem KeepsT.sub {T T' : TypeId → Prop} {a b D : Nat} {A B : World} (h : KeepsT T a b D A B) (hT : ∀ t, T' t → T t) : KeepsT T' a b D A B := ⟨h.mid, fun c t cs z hd ht hc => h.priv c t cs z hd (hT t ht) hc⟩
theorem abideO_rowbox {α β : Type} {L : Lay8 α} {T : TypeId → Prop} (hT : ¬ T L.e) {D n R : Nat} {t : TypeId} (hn : n < D) (f : List β → List α) : AbideO T D (fun pre X => ∃ v, CBox n t #[v] X ∧ L.own R v (f pre) X) :=
  ⟨⟨fun _ _ _ ⟨v, h1, h2⟩ b => ⟨v, h1.next b, h2.next b⟩, fun _ _ _ b t' _ _ ⟨v, h1, h2⟩ hb ht hc B => ⟨v, h1.but (by omega) B, h2.but hc (fun e => hT (e ▸ ht)) B⟩⟩,
   fun _ _ _ _ ⟨v, h1, h2⟩ hg hr => ⟨v, h1.free hg (fun r e => (hr r e).2), h2.free hg (fun r e => (hr r e).2)⟩⟩
theorem abideO_below {β : Type} {T : TypeId → Prop} {D B : Nat} {w : World} (hB : B ≤ D) : AbideO (β := β) T D (fun _ X => Below B w X ∧ D ≤ X.heap.size) :=
  ⟨⟨fun _ _ _ h b => ⟨h.1.trans (b.mono (Nat.le_trans hB h.2)), Nat.le_trans h.2 b.size⟩, fun _ _ _ _ _ _ _ h hb _ _ k => ⟨h.1.trans (k.below (Nat.le_trans hB h.2) (Nat.le_trans hB hb)), Nat.le_trans h.2 k.size⟩⟩,
   fun _ _ _ _ h hg hr => ⟨h.1.grown hg (Nat.le_trans hB h.2) fun k e => Nat.le_trans hB (hr k e).1, Nat.le_trans h.2 hg.size⟩⟩
theorem abideO_pre {β : Type} {T : TypeId → Prop} {D : Nat} (p : List β → Prop) : AbideO T D (fun pre _ => p pre) := ⟨⟨fun _ _ _ h _ => h, fun _ _ _ _ _ _ _ h _ _ _ _ => h⟩, fun _ _ _ _ h _ _ => h⟩
/-- The blocks from a to b hold variables of a type. -/
def CellsAt (a b : Nat) (t : TypeId) (W : World) : Prop := ∀ k, a ≤ k → k < b → ∃ cs z, W.heap[k]? = some (.cells cs t z)
theorem abideO_cells {β : Type} {T : TypeId → Prop} {D a b : Nat} {t : TypeId} (hb : b ≤ D) : AbideO (β := β) T D (fun _ W => CellsAt a b t W) :=
  ⟨⟨fun _ _ _ h hb k h1 h2 => by obtain ⟨cs, z, hk⟩ := h k h1 h2; exact ⟨cs, z, (hb.block k (Array.getElem?_eq_some_iff.1 hk).1).trans hk⟩,
    fun _ _ _ q _ _ _ h hq _ _ B k h1 h2 => by obtain ⟨cs, z, hk⟩ := h k h1 h2; exact ⟨cs, z, (B.block k (Array.getElem?_eq_some_iff.1 hk).1 (by omega)).trans hk⟩⟩,
   fun _ _ _ _ h hg hr k h1 h2 => by
    obtain ⟨cs, z, hk⟩ := h k h1 h2
    exact ⟨cs, z, (hg.block k (Array.getElem?_eq_some_iff.1 hk).1 (fun e => by have := (hr k e.symm).1; omega)).trans hk⟩⟩
theorem CellsAt.next {a b : Nat} {t : TypeId} {W W' : World} (h : CellsAt a b t W) (hb : Below W.heap.size W W') : CellsAt a b t W' := fun k h1 h2 => by
  obtain ⟨cs, z, hk⟩ := h k h1 h2
  exact ⟨cs, z, (hb.block k (Array.getElem?_eq_some_iff.1 hk).1).trans hk⟩
theorem keepsFrom_set {D n o : Nat} {X Y : World} {v : Value} (h : KeepsFrom D X Y) (hn : n < D) : KeepsFrom D X (Y.setCell ⟨n, o, none⟩ v) :=
  ⟨by have := h.1; simpa [World.setCell] using this, fun k ob hk ho hc => (Below.heap_setCell _ _ _ _ (by exact fun e => by have e' : k = n := e; omega)).trans (h.2 k ob hk ho hc)⟩
theorem keepsT_set {T : TypeId → Prop} {a b D n o : Nat} {X Y : World} {v : Value} (h : KeepsT T a b D X Y) (hn : n < D) (hab : n < a ∨ b ≤ n) : KeepsT T a b D X (Y.setCell ⟨n, o, none⟩ v) :=
  ⟨⟨by have := h.1.1; simpa [World.setCell] using this, fun k h1 h2 => (Below.heap_setCell _ _ _ _ (by exact fun e => by have e' : k = n := e; omega)).trans (h.1.2 k h1 h2)⟩, fun k t cs z hd ht hc => (Below.heap_setCell _ _ _ _ (by exact fun e => by have e' : k = n := e; omega)).trans (h.2 k t cs z hd ht hc)⟩
/-- Behind a loop: its block for deferred calls is shut. -/
theorem done_row {α : Type} {L : Lay8 α} {R D : Nat} {v : Value} {l : List α} {w X : World} {o : Obj} (h : L.own R v l X) (hK : X.heap[D]? = some (.deferred (some []))) (hb : Below w.heap.size w X) (hD : w.heap.size ≤ D) (hR : w.heap.size ≤ R := by omega) : L.own w.heap.size v l (X.putObj D o) ∧ Below w.heap.size w (X.putObj D o) := by
  refine ⟨(h.stay fun q hq => World.putObj_heap_other fun e => ?_).low hR, hb.grown (grownBy_putObj' X D o) hb.size fun k e => by cases e; exact hD⟩
  obtain ⟨cur, hc⟩ := (h.type q hq).2.2
  rw [e] at hc
  rw [hK] at hc
  cases hc
end Go.Proofs.Ytejhegoegmoemaa
