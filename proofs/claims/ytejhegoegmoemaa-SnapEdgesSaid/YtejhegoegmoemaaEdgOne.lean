/-
  One edge more, at a step of a round's region that does not draw.
-/
import Derived.Test.YtejhegoegmoemaaEdgMem
import Derived.Test.YtejhegoegmoemaaRowBox
import Derived.OwnWalkIn
namespace Go.Proofs.Ytejhegoegmoemaa
open Go.RowKit Go.Shelf

theorem edg_one_in {F : Fence} {N : Nat} {ops : Array Oper} {rest : List Oper} {o : Oper} {a : Act} {Q : Exit → Act → World → Prop} (w : World) (hgd : o.guard = none) (s x : Operand)
    (ho : o.op = .call { callee := .builtin .append, args := #[s, x], argTypes := #[28, 28] }) {B n : Nat} {v : Value} {l : List Edg} (hn : w.heap.size = n) (g : Edg) (hown : edgL.own B v l w) (hs : a.eval s = v)
    (hx : a.eval x = .slice (some ⟨n, 0, none⟩) 1 1) (hk : l.length ≤ 100000000) (hB : B ≤ w.heap.size)
    (h : ∀ v' w', edgL.own B v' (l ++ [g]) w' → w.grownBy w' v.ownBlock → wpListIn F N Try.prog ops Q rest (a.put o.dst v') w') :
    wpListIn F N Try.prog ops Q (o :: rest) a (w.alloc (.cells g.arr 35)) := by
  obtain ⟨i0, hi, hz0, hz1, hz2⟩ := info_parts info_edg
  exact Lay8.one_in edgL w Try.underlying28 hi hz0 hz1 hz2 rfl (by decide) hgd s x ho hn g hown hs hx hk hB h
end Go.Proofs.Ytejhegoegmoemaa
