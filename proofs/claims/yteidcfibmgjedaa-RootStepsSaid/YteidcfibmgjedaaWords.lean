/-
  Rows of words of 64 bits: one more word appended to a row of the call's own; the live cells of a row.
-/
import Derived.Test.YteidcfibmgjedaaRootTold
import Derived.OwnWalk
import Derived.Laws.AppendOwn
namespace Go.Proofs.Yteidcfibmgjedaa
open Go.RowKit Go.Shelf

/-- One word appended to a row of the call's own. -/
theorem append_word {ops : Array Oper} {rest : List Oper} {o : Oper} {a : Act} {Q : Exit → Act → World → Prop} (w : World) (hgd : o.guard = none) (s x : Operand)
    (ho : o.op = .call { callee := .builtin .append, args := #[s, x], argTypes := #[36, 36] }) {B k : Nat} {v : Value} {os : List Value} (d : Int) (hown : w.ownsRow B 22 1 v k os) (hs : a.eval s = v)
    (hx : a.eval x = .slice (some ⟨w.heap.size, 0, none⟩) 1 1) (hk : k ≤ 1000000000) (hB : B ≤ w.heap.size)
    (h : ∀ v' w', w'.ownsRow B 22 1 v' (k + 1) (os ++ [.int .u64 d]) → Below B w w' → wpList Try.prog ops Q rest (a.put o.dst v') w') :
    wpList Try.prog ops Q (o :: rest) a (w.alloc (.cells #[.int .u64 d] 22)) := by
  obtain ⟨i0, hi, hz0, hz1, hz2⟩ := info_parts info_u64
  refine wpList_append_own _ hgd s x 36 ho B 22 i0 (.int .u64 0) 1 8 Try.underlying36 hi hz0 hz1 hz2 rfl (by decide) v k os hs (hown.alloc _) ⟨w.heap.size, 0, none⟩ 1 1 [.int .u64 d] hx rfl ?_ ?_ ?_ ?_ ?_ ?_
  · intro j u hj
    match j, hj with
    | 0, hj => simp at hj; subst hj; simp [Addr.add]
  · intro u hu; simp at hu; subst hu; rfl
  · unfold maxLen; omega
  · omega
  · simp; omega
  · intro v' w' hown' hg _
    refine h v' w' hown' ?_
    refine ((Below.refl B w).alloc hB _).grown hg (by simp; omega) ?_
    intro q hq
    exact (hown.lt q hq).1

theorem cellsU_snoc (zs : List Nat) (d : Nat) : cellsU (zs ++ [d]) = cellsU zs ++ [.int .u64 (d : Int)] := by simp [cellsU]

/-- The live cells of a row of words. -/
def RowU (a : Option Addr) (zs : List Nat) (w : World) : Prop :=
  zs = [] ∨ ∃ b off : Nat, a = some ⟨b, off, none⟩ ∧ b < w.heap.size ∧ ∀ i, i < zs.length → w.cell? ⟨b, off + i, none⟩ = some (.int .u64 (zs.getD i 0 : Nat))
theorem RowU.below {a : Option Addr} {zs : List Nat} {w w' : World} (h : RowU a zs w) {B : Nat} (hb : Below B w w') (hB : w.heap.size ≤ B) : RowU a zs w' := by
  rcases h with h | ⟨b, off, ha, hlt, hc⟩
  · exact Or.inl h
  · refine Or.inr ⟨b, off, ha, Nat.lt_of_lt_of_le hlt hb.size, fun i hi => ?_⟩
    rw [hb.cell (p := ⟨b, off + i, none⟩) (Nat.lt_of_lt_of_le hlt hB)]
    exact hc i hi
theorem RowU.pos {a : Option Addr} {zs : List Nat} {w : World} (h : RowU a zs w) {k : Nat} (hk : k < zs.length) :
    ∃ b off : Nat, a = some ⟨b, off, none⟩ ∧ b < w.heap.size ∧ ∀ i, i < zs.length → w.cell? ⟨b, off + i, none⟩ = some (.int .u64 (zs.getD i 0 : Nat)) := by
  rcases h with h | h
  · subst h; simp at hk
  · exact h

theorem rowU_of_own {w : World} {B : Nat} {v : Value} {zs : List Nat} (h : w.ownsRow B 22 1 v zs.length (cellsU zs)) :
    ∃ a cap, v = .slice a zs.length cap ∧ RowU a zs w ∧ zs.length ≤ cap ∧ cap ≤ maxLen := by
  rcases h.2 with ⟨rfl, h0⟩ | ⟨g, cap, cur, rfl, hB, hh, hn, hm, hs, ht⟩
  · have : zs = [] := List.length_eq_zero_iff.1 h0
    subst this
    exact ⟨none, 0, rfl, Or.inl rfl, Nat.le_refl _, by simp⟩
  · refine ⟨_, cap, rfl, Or.inr ⟨g, 0, rfl, (Array.getElem?_eq_some_iff.1 hh).1, fun i hi => ?_⟩, hn, hm⟩
    have hc : (cellsU zs)[i]? = some (.int .u64 (zs.getD i 0 : Nat)) := by simp [cellsU, List.getElem?_eq_getElem hi, List.getD]
    have := h.cells (g := g) rfl i _ hc
    by_cases h0 : i = 0
    · subst h0; simpa [Addr.add] using this
    · simpa [Addr.add, h0] using this
end Go.Proofs.Yteidcfibmgjedaa
