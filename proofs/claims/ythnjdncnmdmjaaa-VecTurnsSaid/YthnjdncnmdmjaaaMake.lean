/-
  Rows of digits that a call makes for itself: noughts, one more digit, one digit set.
-/
import Derived.Test.YthnjdncnmdmjaaaAdd
namespace Go.Proofs.Ythnjdncnmdmjaaa
open Go.RowKit Go.Shelf

/-- A new row of noughts. -/
theorem make_zeros {ops : Array Oper} {rest : List Oper} {o : Oper} {a : Act} {Q : Exit → Act → World → Prop} (w : World) (hg : o.guard = none) (l c : Operand) (hop : o.op = Op.makeSlice 64 l c)
    (n : Nat) (L : Int) (hl : a.eval l = .int .i64 L) (hc : a.eval c = .int .i64 L) (hL : L = (n : Int)) (hn : n ≤ 1000000000)
    (hK : ∀ w', w'.ownsRow w.heap.size 3 1 (.slice (some ⟨w.heap.size, 0, none⟩) n n) n (cellsN (List.replicate n 0)) → Below w.heap.size w w' → wpList Try.prog ops Q rest (a.put o.dst (.slice (some ⟨w.heap.size, 0, none⟩) n n)) w') :
    wpList Try.prog ops Q (o :: rest) a w := by
  obtain ⟨i0, hi, hz0, hz1, hz2⟩ := info_parts info_int
  refine wpList_make_full w hg l c 64 hop w.heap.size 3 i0 (.int .i64 0) 1 Try.underlying64 hi hz0 hz1 .i64 .i64 L L n hl hc hL hL (by rw [hz2]; omega) (by unfold maxLen; omega) (Nat.le_refl _) ?_
  intro w' hown hgr
  refine hK w' ?_ ((Below.refl _ _).grown hgr (Nat.le_refl _) (fun k hk => by cases hk))
  have e : (madeCells (Value.cells (.int .i64 0)) (n * 1)).toList = cellsN (List.replicate n 0) := by
    rw [show Value.cells (.int .i64 0) = #[.int .i64 0] from rfl, toList_madeCells_one]
    simp [cellsN]
  rw [← e]; exact hown

/-- One number appended to a row of the call's own: of all that was there no block has turned but the row's own. -/
theorem append_digit' {ops : Array Oper} {rest : List Oper} {o : Oper} {a : Act} {Q : Exit → Act → World → Prop} (w : World) (hgd : o.guard = none) (s x : Operand)
    (ho : o.op = .call { callee := .builtin .append, args := #[s, x], argTypes := #[64, 64] }) {B k : Nat} {v : Value} {os : List Value} (d : Int) (hown : w.ownsRow B 3 1 v k os) (hs : a.eval s = v)
    (hx : a.eval x = .slice (some ⟨w.heap.size, 0, none⟩) 1 1) (hk : k ≤ 1000000000) (hB : B ≤ w.heap.size)
    (h : ∀ v' w', w'.ownsRow B 3 1 v' (k + 1) (os ++ [.int .i64 d]) → Below B w w' → (∀ q, q < w.heap.size → some q ≠ v.ownBlock → w'.heap[q]? = w.heap[q]?) → wpList Try.prog ops Q rest (a.put o.dst v') w') :
    wpList Try.prog ops Q (o :: rest) a (w.alloc (.cells #[.int .i64 d] 3)) := by
  obtain ⟨i0, hi, hz0, hz1, hz2⟩ := info_parts info_int
  refine wpList_append_own _ hgd s x 64 ho B 3 i0 (.int .i64 0) 1 8 Try.underlying64 hi hz0 hz1 hz2 rfl (by decide) v k os hs (hown.alloc _) ⟨w.heap.size, 0, none⟩ 1 1 [.int .i64 d] hx rfl ?_ ?_ ?_ ?_ ?_ ?_
  · intro j u hj
    match j, hj with
    | 0, hj => simp at hj; subst hj; simp [Addr.add]
  · intro u hu; simp at hu; subst hu; rfl
  · unfold maxLen; omega
  · omega
  · simp; omega
  · intro v' w' hown' hg _
    refine h v' w' hown' ?_ (fun q hq hne => (hg.block q (by simp; omega) hne).trans (Below.heap_alloc _ _ _ hq))
    refine ((Below.refl B w).alloc hB _).grown hg (by simp; omega) ?_
    intro q hq
    exact (hown.lt q hq).1

/-- A store into a row of the call's own. -/
theorem own_set {w : World} {B g n : Nat} {zs : List Nat} (h : w.ownsRow B 3 1 (.slice (some ⟨g, 0, none⟩) n n) n (cellsN zs)) (hl : zs.length = n) (i d : Nat) (hi : i < n) :
    (w.setCell ⟨g, i, none⟩ (.int .i64 (d : Int))).ownsRow B 3 1 (.slice (some ⟨g, 0, none⟩) n n) n (cellsN (zs.set i d)) ∧ w.cell? ⟨g, i, none⟩ = some (.int .i64 (zs.getD i 0 : Nat)) ∧ w.frozen? ⟨g, i, none⟩ = false := by
  have hn := h
  rcases h.2 with ⟨h0, _⟩ | ⟨g', cap, cur, h0, hB, hh, hc, hm, hs, ht⟩
  · simp at h0
  · obtain ⟨rfl, rfl⟩ : g = g' ∧ n = cap := by simpa using h0
    have hcur : cur.toList = cellsN zs := by
      rw [Nat.mul_one] at ht hs
      rw [← ht, List.take_of_length_le (by simp; omega)]
    refine ⟨⟨by simp [cellsN, hl], .inr ⟨g, n, cur.setIfInBounds i (.int .i64 (d : Int)), rfl, hB, heap_put i _ hh, hc, hm, by simpa using hs, ?_⟩⟩, ?_, by simp [World.frozen?, hh]⟩
    · rw [List.take_of_length_le (by simp; omega), Array.toList_setIfInBounds, hcur]
      simp [cellsN, List.map_set]
    · have hcl : (cellsN zs)[i]? = some (.int .i64 (zs.getD i 0 : Nat)) := by simp [cellsN, List.getElem?_eq_getElem (show i < zs.length by omega), List.getD]
      rw [← hcur] at hcl
      simp only [World.cell?, hh]
      simpa using hcl

theorem small_zeros (n : Nat) : Small (List.replicate n 0) := fun z hz => by rw [(List.mem_replicate.1 hz).2]; decide
end Go.Proofs.Ythnjdncnmdmjaaa
