/-
  What the law's told keeps while commands come (path.All): its own variables; they abide what the iterator does by itself.
-/
import Derived.Test.YtgiibcnakiggaaaDoorPathFeed
import Derived.Test.YtgiibcnakiggaaaDoorPathMem
namespace Go.Proofs.YtgiibcnakiggaaaDoor
open Go.RowKit Go.Shelf

theorem own_free {W W' : World} {R : Nat} {e : TypeId} {sz : Nat} {v : Value} {k : Nat} {xs : List Value} {row : Option Nat} (h : W.ownsRow R e sz v k xs) (hg : W.grownBy W' row)
    (hr : ∀ r, row = some r → ∃ o : Obj, W.heap[r]? = some o ∧ o.isCells = false) : W'.ownsRow R e sz v k xs :=
  own_stay h fun q hq => by
    obtain ⟨hlt, _, cur, hc⟩ := own_type h q hq
    refine hg.block q hlt fun e => ?_
    obtain ⟨o, ho, hn⟩ := hr q e.symm
    rw [hc] at ho
    cases ho
    cases hn
theorem Cmds.free {R : Nat} {v : Value} {l : List Cmd} {W W' : World} {row : Option Nat} (h : Cmds R v l W) (hg : W.grownBy W' row)
    (hr : ∀ r, row = some r → ∃ o : Obj, W.heap[r]? = some o ∧ o.isCells = false) : Cmds R v l W' := by
  obtain ⟨avs, h1, h2, h3⟩ := h
  exact ⟨avs, h1, own_free h2 hg hr, fun i x av hx ha => ⟨own_free (h3 i x av hx ha).1 hg hr, (h3 i x av hx ha).2⟩⟩
theorem boxed_free {W W' : World} {B : Nat} {t : TypeId} {v : Value} {row : Option Nat} (h : Go.Boxed W B t v) (hg : W.grownBy W' row)
    (hr : ∀ r, row = some r → ∃ o : Obj, W.heap[r]? = some o ∧ o.isCells = false) : Go.Boxed W' B t v :=
  (hg.block B h.lt fun e => by
    obtain ⟨o, ho, hn⟩ := hr B e.symm
    have h' : W.heap[B]? = some (.cells #[v] t (0, 0)) := h
    rw [h'] at ho
    cases ho
    cases hn).trans h
/-- What told keeps: how many it wants in box B, what has come in box B + 1, those commands in memory of its own. -/
def TJ (B : Nat) (m : Nat) (W0 : World) (l : List Cmd) (W : World) : Prop :=
  ((∃ v, Go.Boxed W (B + 1) 23 v ∧ Cmds W0.heap.size v l W) ∧ Go.Boxed W B 3 (.int .i64 (m : Int))) ∧ Below B W0 W
theorem TJ.abide (s : ByteArray) (B m : Nat) (W0 : World) (hB : B + 1 < W0.heap.size) (f : List Cmd → List Cmd) (q : List Cmd → Prop) : Abide s W0.heap.size (fun pre W => TJ B m W0 (f pre) W ∧ q pre) where
  new := by
    rintro pre W W' ⟨⟨⟨⟨v, hv, hc⟩, hm⟩, hb⟩, hq⟩ t
    exact ⟨⟨⟨⟨v, (t.block _ hv.lt).trans hv, hc.next t⟩, (t.block _ hm.lt).trans hm⟩, hb.trans (t.mono (Nat.le_of_lt hm.lt))⟩, hq⟩
  rdr := by
    rintro pre W W' b k ⟨⟨⟨⟨v, hv, hc⟩, hm⟩, hb⟩, hq⟩ hD hr t
    exact ⟨⟨⟨⟨v, (t.block _ hv.lt (by omega)).trans hv, hc.rdr hr t⟩, (t.block _ hm.lt (by omega)).trans hm⟩, hb.trans (t.below (by omega) (Nat.le_of_lt hm.lt))⟩, hq⟩
theorem TJ.own (B m : Nat) (W0 : World) (hB : B + 1 < W0.heap.size) (f : List Cmd → List Cmd) (q : List Cmd → Prop) : OwnFrom W0.heap.size (fun pre W => TJ B m W0 (f pre) W ∧ q pre) := by
  rintro pre W W' row ⟨⟨⟨⟨v, hv, hc⟩, hm⟩, hb⟩, hq⟩ hg hr
  have hr' : ∀ r, row = some r → ∃ o : Obj, W.heap[r]? = some o ∧ o.isCells = false := fun r e => (hr r e).2
  refine ⟨⟨⟨⟨v, boxed_free hv hg hr', hc.free hg hr'⟩, boxed_free hm hg hr'⟩, hb.grown hg ?_ fun k e => ?_⟩, hq⟩
  · have := hm.lt; omega
  · have := (hr k e).1; omega
/-- What a round's assignment leaves: the command in a box beyond, its numbers as they came. -/
def TA (W0 : World) (x : Cmd) (av : Value) (T : Nat → Act) (a' : Act) (W : World) : Prop :=
  ∃ Bx, W0.heap.size ≤ Bx ∧ W.heap[Bx]? = some (.cells #[.int .u8 (x.letter : Int), av] 34 (0, 0)) ∧ W.ownsRow W0.heap.size 2 1 av x.args.length (ints x.args) ∧ a' = T Bx
theorem TA.own (W0 : World) (x : Cmd) (av : Value) (T : Nat → Act) (a' : Act) : OwnFrom W0.heap.size (fun (_ : Unit) W => TA W0 x av T a' W) := by
  rintro _ W W' row ⟨Bx, h1, h2, h3, rfl⟩ hg hr
  have hr' : ∀ r, row = some r → ∃ o : Obj, W.heap[r]? = some o ∧ o.isCells = false := fun r e => (hr r e).2
  refine ⟨Bx, h1, (hg.block Bx (Array.getElem?_eq_some_iff.1 h2).1 fun e => ?_).trans h2, own_free h3 hg hr', rfl⟩
  obtain ⟨o, ho, hn⟩ := hr' Bx e.symm
  rw [h2] at ho
  cases ho
  cases hn
end Go.Proofs.YtgiibcnakiggaaaDoor
