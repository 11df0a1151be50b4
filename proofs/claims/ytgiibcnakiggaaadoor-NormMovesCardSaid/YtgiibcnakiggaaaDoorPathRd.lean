/-
  Commands that are read: the live cells of a slice of them, whosever it is.
-/
import Derived.Test.YtgiibcnakiggaaaDoorPathMem
import Derived.Test.YtgiibcnakiggaaaDoorRowK
namespace Go.Proofs.YtgiibcnakiggaaaDoor
open Go.ChangeShapes Go.WideShapes Go.ChangeAt Go.RowKit Go.Shelf

def ltr (l : List Cmd) (i : Nat) : Nat := (l.getD i ⟨0, []⟩).letter
def ars (l : List Cmd) (i : Nat) : List Int := (l.getD i ⟨0, []⟩).args
theorem ltr_at {l : List Cmd} {i : Nat} {x : Cmd} (h : l[i]? = some x) : ltr l i = x.letter ∧ ars l i = x.args := by
  unfold ltr ars; simp [List.getD, h]
theorem at_some (l : List Cmd) {i : Nat} (h : i < l.length) : l[i]? = some ⟨ltr l i, ars l i⟩ := by
  rw [List.getElem?_eq_getElem h]
  have := ltr_at (List.getElem?_eq_getElem h)
  rw [this.1, this.2]
/-- The i-th command lies at a place. -/
structure CmdAt (b o : Nat) (l : List Cmd) (i : Nat) (aa : Option Addr) (ac : Nat) (w : World) : Prop where
  c0 : w.cell? ⟨b, o, none⟩ = some (.int .u8 (ltr l i : Int))
  c1 : w.cell? ⟨b, o + 1, none⟩ = some (.slice aa (ars l i).length ac)
  row : IntsK .i64 aa (ars l i) w
  lt : ltr l i < 256
  len : (ars l i).length ≤ maxLen
/-- The live cells of a slice of commands. -/
def RdC (a : Option Addr) (l : List Cmd) (w : World) : Prop :=
  l = [] ∨ ∃ b off : Nat, a = some ⟨b, off, none⟩ ∧ b < w.heap.size ∧ ∀ i, i < l.length → ∃ aa ac, CmdAt b (off + i * 2) l i aa ac w
theorem CmdAt.below {b o : Nat} {l : List Cmd} {i : Nat} {aa : Option Addr} {ac : Nat} {w w' : World} (h : CmdAt b o l i aa ac w) (t : Below w.heap.size w w') (hb : b < w.heap.size) : CmdAt b o l i aa ac w' :=
  ⟨(t.cell (p := ⟨b, o, none⟩) hb).trans h.c0, (t.cell (p := ⟨b, o + 1, none⟩) hb).trans h.c1, h.row.below t (Nat.le_refl _), h.lt, h.len⟩
theorem RdC.next {a : Option Addr} {l : List Cmd} {w w' : World} (h : RdC a l w) (t : Below w.heap.size w w') : RdC a l w' := by
  rcases h with h | ⟨b, off, ha, hlt, hc⟩
  · exact .inl h
  · exact .inr ⟨b, off, ha, Nat.lt_of_lt_of_le hlt t.size, fun i hi => by obtain ⟨aa, ac, h⟩ := hc i hi; exact ⟨aa, ac, h.below t hlt⟩⟩
theorem RdC.pos {a : Option Addr} {l : List Cmd} {w : World} (h : RdC a l w) (hl : 0 < l.length) : ∃ b off : Nat, a = some ⟨b, off, none⟩ ∧ b < w.heap.size ∧ ∀ i, i < l.length → ∃ aa ac, CmdAt b (off + i * 2) l i aa ac w := by
  rcases h with rfl | h
  · exact absurd hl (by decide)
  · exact h
/-- A beginning of a slice. -/
theorem RdC.take {a : Option Addr} {l : List Cmd} {w : World} (h : RdC a l w) (n : Nat) : RdC a (l.take n) w := by
  rcases h with rfl | ⟨b, off, ha, hlt, hc⟩
  · exact .inl (by simp)
  · refine .inr ⟨b, off, ha, hlt, fun i hi => ?_⟩
    rw [List.length_take] at hi
    obtain ⟨aa, ac, h⟩ := hc i (by omega)
    have e : ltr (l.take n) i = ltr l i ∧ ars (l.take n) i = ars l i := by
      have : (l.take n)[i]? = l[i]? := by rw [List.getElem?_take, if_pos (by omega)]
      unfold ltr ars; simp [List.getD, this]
    exact ⟨aa, ac, ⟨by rw [e.1]; exact h.c0, by rw [e.2]; exact h.c1, by rw [e.2]; exact h.row, by rw [e.1]; exact h.lt, by rw [e.2]; exact h.len⟩⟩
theorem flatC_at : ∀ (l : List Cmd) (vs : List Value), vs.length = l.length → ∀ i x a, l[i]? = some x → vs[i]? = some a → (flatC l vs)[i * 2]? = some (.int .u8 (x.letter : Int)) ∧ (flatC l vs)[i * 2 + 1]? = some a := by
  intro l
  induction l with
  | nil => intro vs _ i x a h; simp at h
  | cons y l ih =>
    intro vs hv i x a hx ha
    cases vs with
    | nil => simp at hv
    | cons v vs =>
      cases i with
      | zero =>
        obtain rfl : y = x := by simpa using hx
        obtain rfl : v = a := by simpa using ha
        exact ⟨rfl, rfl⟩
      | succ i =>
        have := ih vs (by simpa using hv) i x a (by simpa using hx) (by simpa using ha)
        rw [show (i + 1) * 2 = i * 2 + 1 + 1 from by omega]
        exact this
theorem own_cell {W : World} {R : Nat} {e : TypeId} {sz k : Nat} {b off : Nat} {len cap : Nat} {xs : List Value} (h : W.ownsRow R e sz (.slice (some ⟨b, off, none⟩) len cap) k xs) {i : Nat} {u : Value} (hi : xs[i]? = some u) : W.cell? ⟨b, off + i, none⟩ = some u := by
  rcases h.2 with ⟨h0, _⟩ | ⟨g, cap', cur, hv, hR, hg, h1, h2, h3, h4⟩
  · cases h0
  · cases hv
    rw [Nat.zero_add]
    unfold World.cell?
    rw [hg]
    show cur[i]? = some u
    rw [← h4] at hi
    have := (List.getElem?_eq_some_iff.1 hi).1
    rw [List.length_take] at this
    rw [List.getElem?_take, if_pos (by omega)] at hi
    simpa using hi
/-- A row of numbers of the call's own, read. -/
theorem ints_own {W : World} {R : Nat} {a : Option Addr} {len cap k : Nat} {zs : List Int} (h : W.ownsRow R 2 1 (.slice a len cap) k (ints zs)) : IntsK .i64 a zs W := by
  by_cases hz : zs = []
  · exact .inl hz
  · have hl := h.1
    obtain ⟨b, off, rfl, hb⟩ : ∃ b off, a = some ⟨b, off, none⟩ ∧ b < W.heap.size := by
      rcases h.2 with ⟨_, h2⟩ | ⟨g, cap', cur, hv, hR, hg, _⟩
      · rw [h2] at hl
        exact absurd (List.length_eq_zero_iff.1 (by simpa [ints] using hl)) hz
      · cases hv; exact ⟨g, 0, rfl, (Array.getElem?_eq_some_iff.1 hg).1⟩
    exact .inr ⟨b, off, rfl, hb, fun i hi => own_cell h (by simp [ints, List.getD, List.getElem?_eq_getElem hi])⟩
/-- What Parse leaves can be read. -/
theorem Cmds.reads {R : Nat} {v : Value} {l : List Cmd} {W : World} (h : Cmds R v l W) (hl : ∀ x ∈ l, x.args.length ≤ maxLen) : ∃ a cap, v = .slice a l.length cap ∧ RdC a l W := by
  obtain ⟨avs, h1, h2, h3⟩ := h
  obtain ⟨a, cap, rfl⟩ := own_shape h2
  refine ⟨a, cap, rfl, ?_⟩
  by_cases hz : l = []
  · exact .inl hz
  · have hpos : 0 < l.length := List.length_pos_iff.2 hz
    obtain ⟨b, off, rfl, hb⟩ : ∃ b off, a = some ⟨b, off, none⟩ ∧ b < W.heap.size := by
      rcases h2.2 with ⟨_, h0⟩ | ⟨g, cap', cur, hv, hR, hg, _⟩
      · omega
      · cases hv; exact ⟨g, 0, rfl, (Array.getElem?_eq_some_iff.1 hg).1⟩
    refine .inr ⟨b, off, rfl, hb, fun i hi => ?_⟩
    have hx := at_some l hi
    have ha : avs[i]? = some avs[i] := List.getElem?_eq_getElem (by omega)
    obtain ⟨e0, e1⟩ := flatC_at l avs h1 i _ _ hx ha
    obtain ⟨o, hc⟩ := h3 i _ _ hx ha
    obtain ⟨aa, ac, hs⟩ := own_shape o
    rw [hs] at e1 o
    refine ⟨aa, ac, own_cell h2 e0, own_cell h2 e1, ints_own o, hc, ?_⟩
    exact hl ⟨ltr l i, ars l i⟩ (List.mem_of_getElem? hx)
/-- No group has more arguments than seven. -/
theorem args_len (X : Tx) (c : Nat) : ∀ (n k i : Nat) (acc : List Int) xs j, argsL X c n k i acc = .inl (xs, j) → xs.length = acc.length + n := by
  intro n
  induction n with
  | zero => intro k i acc xs j h; obtain ⟨rfl, rfl⟩ : acc = xs ∧ i = j := by simpa [argsL] using h
            rfl
  | succ n ih =>
    intro k i acc xs j h
    rw [args_step] at h
    split at h
    · have := ih _ _ _ _ _ h
      rw [List.length_append] at this
      simp at this; omega
    · cases h
theorem path_len (X : Tx) : ∀ (f : Nat) (st : Option Nat) (i : Nat) (out : List Cmd), (∀ x ∈ out, x.args.length ≤ 99) → (∀ x ∈ (pathL X f st i out).1, x.args.length ≤ 99) := by
  intro f
  induction f with
  | zero => intro st i out h; cases st <;> exact h
  | succ f ih =>
    intro st i out h
    cases st with
    | none =>
      unfold pathL
      split
      · split
        · exact h
        · split
          · exact ih _ _ _ (by intro x hx; rcases List.mem_append.1 hx with hx | hx; exact h x hx; simp at hx; subst hx; exact Nat.zero_le _)
          · exact ih _ _ _ h
      · exact h
    | some c =>
      unfold pathL
      split
      · exact h
      · rename_i xs j he
        have hl := args_len X c _ _ _ _ _ _ he
        have h' : ∀ x ∈ out ++ [⟨c, xs⟩], x.args.length ≤ 99 := by
          intro x hx
          rcases List.mem_append.1 hx with hx | hx
          · exact h x hx
          · simp at hx; subst hx; show xs.length ≤ 99; have := cnt_le c; simp at hl; omega
        split
        · exact ih _ _ _ h'
        · split
          · exact ih _ _ _ h'
          · exact ih _ _ _ h'
theorem all_len (X : Tx) : ∀ x ∈ (pathAll X).1, x.args.length ≤ maxLen := fun x hx => Nat.le_trans (path_len X _ _ _ [] (fun x h => by cases h) x hx) (by unfold maxLen; omega)
end Go.Proofs.YtgiibcnakiggaaaDoor
