/-
  Rows of things of any kind that has a fixed number of cells: a row of the call's own, a row that is read; one more is appended; one row behind another one.
-/
import Derived.Test.YtejhegoegmoemaaFeed
import Derived.Deep.AppendLies
import Derived.Deep.Upon
import Derived.BigFrame
import Derived.OwnWalk
namespace Go.Proofs.Ytejhegoegmoemaa
open Go.RowKit Go.Shelf

/-- Things of sz cells each, in memory: their type, and how they are laid. -/
structure Lay8 (α : Type) where
  e : TypeId
  sz : Nat
  cl : α → List Value
  len : ∀ x, (cl x).length = sz
  pos : 0 < sz
  one : ∀ x, ∀ u ∈ cl x, u.oneCell' = true
def Lay8.flat {α : Type} (L : Lay8 α) : List α → List Value
  | [] => []
  | g :: t => L.cl g ++ L.flat t
section
variable {α : Type} (L : Lay8 α)
theorem Lay8.flat_append (a b : List α) : L.flat (a ++ b) = L.flat a ++ L.flat b := by
  induction a with
  | nil => rfl
  | cons g t ih => simp only [List.cons_append, Lay8.flat]; rw [ih, List.append_assoc]
theorem Lay8.flat_snoc (a : List α) (g : α) : L.flat (a ++ [g]) = L.flat a ++ L.cl g := by rw [L.flat_append]; simp [Lay8.flat]
theorem Lay8.flat_len (a : List α) : (L.flat a).length = a.length * L.sz := by
  induction a with
  | nil => simp [Lay8.flat]
  | cons g t ih => simp only [Lay8.flat, List.length_append, List.length_cons]; rw [ih, L.len, Nat.add_mul]; omega
theorem Lay8.flat_one (l : List α) : ∀ u ∈ L.flat l, u.oneCell' = true := by
  induction l with
  | nil => intro u h; cases h
  | cons g t ih =>
    intro u hu
    simp only [Lay8.flat, List.mem_append] at hu
    rcases hu with hu | hu
    · exact L.one _ _ hu
    · exact ih u hu
theorem Lay8.flat_at (l : List α) : ∀ (i : Nat) (g : α) (j : Nat) (u : Value), l[i]? = some g → (L.cl g)[j]? = some u → (L.flat l)[i * L.sz + j]? = some u := by
  induction l with
  | nil => intro i g j u h; simp at h
  | cons x t ih =>
    intro i g j u h hj
    have hx := L.len x
    have hlt : j < L.sz := by have := (List.getElem?_eq_some_iff.1 hj).1; rwa [L.len] at this
    cases i with
    | zero =>
      obtain rfl : x = g := by simpa using h
      simp only [Lay8.flat, Nat.zero_mul, Nat.zero_add]
      rw [List.getElem?_append_left (by rw [hx]; exact hlt)]
      exact hj
    | succ i =>
      have := ih i g j u (by simpa using h) hj
      simp only [Lay8.flat]
      rw [Nat.add_mul, List.getElem?_append_right (by rw [hx]; omega), hx, show i * L.sz + 1 * L.sz + j - L.sz = i * L.sz + j from by omega]
      exact this
/-- A row of the call's own. -/
def Lay8.own (R : Nat) (v : Value) (l : List α) (w : World) : Prop := w.ownsRow R L.e L.sz v l.length (L.flat l)
/-- A row that is read. -/
def Lay8.rd (a : Option Addr) (l : List α) (w : World) : Prop := l = [] ∨ ∃ b off, a = some ⟨b, off, none⟩ ∧ b < w.heap.size ∧ ∀ j u, (L.flat l)[j]? = some u → w.cell? ⟨b, off + j, none⟩ = some u
variable {L}
theorem Lay8.own_nil (R : Nat) (w : World) : L.own R (.slice none 0 0) [] w := World.ownsRow_nil _ _ _ _
theorem Lay8.own.type {W : World} {R : Nat} {v : Value} {l : List α} (h : L.own R v l W) : ∀ q, v.ownBlock = some q → q < W.heap.size ∧ R ≤ q ∧ ∃ cur, W.heap[q]? = some (.cells cur L.e (0, 0)) := by
  intro q hq
  rcases h.2 with ⟨rfl, _⟩ | ⟨g, cap, cur, rfl, hb, hg, _⟩
  · simp [Value.ownBlock] at hq
  · obtain rfl : g = q := by simpa [Value.ownBlock] using hq
    exact ⟨(Array.getElem?_eq_some_iff.1 hg).1, hb, cur, hg⟩
theorem Lay8.own.stay {W W' : World} {R : Nat} {v : Value} {l : List α} (h : L.own R v l W) (hb : ∀ q, v.ownBlock = some q → W'.heap[q]? = W.heap[q]?) : L.own R v l W' := by
  refine ⟨h.1, ?_⟩
  rcases h.2 with h | ⟨g, cap, cur, rfl, hR, hg, h1, h2, h3, h4⟩
  · exact .inl h
  · exact .inr ⟨g, cap, cur, rfl, hR, (hb g rfl).trans hg, h1, h2, h3, h4⟩
theorem Lay8.own.next {W W' : World} {R : Nat} {v : Value} {l : List α} (h : L.own R v l W) (t : Below W.heap.size W W') : L.own R v l W' :=
  h.stay fun q hq => t.block q (h.type q hq).1
theorem Lay8.own.low {R R' : Nat} {v : Value} {l : List α} {W : World} (h : L.own R v l W) (hR : R' ≤ R) : L.own R' v l W := by
  refine ⟨h.1, ?_⟩
  rcases h.2 with h | ⟨g, cap, cur, h1, h2, h3⟩
  · exact .inl h
  · exact .inr ⟨g, cap, cur, h1, by omega, h3⟩
theorem Lay8.own.grown {R : Nat} {v : Value} {l : List α} {W W' : World} (h : L.own R v l W) (hg : W.grownBy W' v.ownBlock) (hR : R ≤ W.heap.size) : Below R W W' :=
  (Below.refl R W).grown hg (by omega) fun q hq => (h.lt q hq).1
theorem Lay8.own.free {W W' : World} {R : Nat} {v : Value} {l : List α} {row : Option Nat} (h : L.own R v l W) (hg : W.grownBy W' row)
    (hr : ∀ r, row = some r → ∃ o : Obj, W.heap[r]? = some o ∧ o.isCells = false) : L.own R v l W' :=
  h.stay fun q hq => by
    obtain ⟨hlt, _, cur, hc⟩ := h.type q hq
    refine hg.block q hlt fun e => ?_
    obtain ⟨o, ho, hn⟩ := hr q e.symm
    rw [hc] at ho
    cases ho
    cases hn
theorem Lay8.own.but {W W' : World} {R b : Nat} {t : TypeId} {v : Value} {l : List α} {cs : Array Value} {z : Nat × Nat} (h : L.own R v l W) (hb : W.heap[b]? = some (.cells cs t z)) (ht : t ≠ L.e) (B : But W.heap.size b W W') : L.own R v l W' :=
  h.stay fun q hq => by
    obtain ⟨hlt, _, cur, hc⟩ := h.type q hq
    refine B.block q hlt fun e => ?_
    subst e
    rw [hb] at hc
    injection hc with hc
    injection hc with _ hc _
    exact ht hc
theorem Lay8.own.shape {R : Nat} {v : Value} {l : List α} {W : World} (h : L.own R v l W) : ∃ a cap, v = .slice a l.length cap ∧ l.length ≤ cap := by
  rcases h.2 with ⟨rfl, h2⟩ | ⟨g, c, cur, rfl, _, _, h1, _⟩
  · exact ⟨none, 0, by rw [h2], by omega⟩
  · exact ⟨_, _, rfl, h1⟩
theorem Lay8.own.shape1 {R : Nat} {v : Value} {l : List α} {g : α} {W : World} (h : L.own R v (l ++ [g]) W) : ∃ a cap, v = .slice a (l.length + 1) cap := by
  obtain ⟨a, cap, h1, _⟩ := h.shape
  exact ⟨a, cap, by rw [h1, List.length_append]; rfl⟩
theorem Lay8.own.cell {R b k cap : Nat} {l : List α} {W : World} (h : L.own R (.slice (some ⟨b, 0, none⟩) k cap) l W) {j : Nat} {u : Value} (hj : (L.flat l)[j]? = some u) : W.cell? ⟨b, j, none⟩ = some u := by
  rcases h.2 with ⟨h0, _⟩ | ⟨g, cap', cur, hv, hR, hg, h1, h2, h3, h4⟩
  · cases h0
  · cases hv
    unfold World.cell?
    rw [hg]
    show cur[j]? = some u
    rw [← h4] at hj
    have := (List.getElem?_eq_some_iff.1 hj).1
    rw [List.length_take] at this
    rw [List.getElem?_take, if_pos (by omega)] at hj
    simpa using hj
theorem Lay8.own.rd {R k cap : Nat} {a : Option Addr} {l : List α} {W : World} (h : L.own R (.slice a k cap) l W) : L.rd a l W := by
  have hc := fun b (e : a = some ⟨b, 0, none⟩) j u hj => (show L.own R (.slice (some ⟨b, 0, none⟩) k cap) l W from e ▸ h).cell (j := j) (u := u) hj
  rcases h.2 with ⟨_, h2⟩ | ⟨g, c, cur, h1, _, hg, _⟩
  · exact .inl (List.length_eq_zero_iff.1 h2)
  · injection h1 with h1
    exact .inr ⟨g, 0, h1, (Array.getElem?_eq_some_iff.1 hg).1, fun j u hj => by rw [Nat.zero_add]; exact hc g h1 j u hj⟩
theorem Lay8.rd.next {a : Option Addr} {l : List α} {w w' : World} (h : L.rd a l w) (t : Below w.heap.size w w') : L.rd a l w' := by
  rcases h with h | ⟨b, off, h1, h2, h3⟩
  · exact .inl h
  · exact .inr ⟨b, off, h1, Nat.lt_of_lt_of_le h2 t.size, fun j u hj => (t.cell (p := ⟨b, off + j, none⟩) (by exact h2)).trans (h3 j u hj)⟩
theorem Lay8.rd.pos {a : Option Addr} {l : List α} {w : World} (h : L.rd a l w) {i : Nat} (hi : i < l.length) : ∃ b off, a = some ⟨b, off, none⟩ ∧ b < w.heap.size ∧ ∀ j u, (L.flat l)[j]? = some u → w.cell? ⟨b, off + j, none⟩ = some u := by
  rcases h with rfl | h
  · simp at hi
  · exact h
variable (L)
variable {P : Program} {i0 : TypeInfo} {z : Value} {bytes : Nat} {st : TypeId}
/-- One thing more is appended, at a step of a region that draws. -/
theorem Lay8.step {ops : Array Oper} {o : Oper} {a : Act} {K : Act → World → Prop} {Q : Exit → Act → World → Prop} {E : Prop} {W : World} (hst : P.underlying st = some (.slice L.e)) (hi : P.info? L.e = some i0) (hz0 : i0.zero = some z) (hz1 : i0.size = L.sz) (hz2 : i0.bytes = bytes) (hzs : z.cells.size = L.sz) (hby : bytes ≤ 128)
    (hgd : o.guard = none) (s x : Operand) (ho : o.op = .call { callee := .builtin .append, args := #[s, x], argTypes := #[st, st] }) {B N : Nat} {v : Value} {l : List α} (g : α) (hown : L.own B v l W) (hs : a.eval s = v)
    (hN : W.heap[N]? = some (.cells (L.cl g).toArray L.e)) (hx : a.eval x = .slice (some ⟨N, 0, none⟩) 1 1) (hk : l.length ≤ 100000000) (hB : B ≤ W.heap.size) (H : Nat) (hH : W.heap.size = H)
    (h : ∀ b cap w', L.own B (.slice (some ⟨b, 0, none⟩) (l.length + 1) cap) (l ++ [g]) w' → W.grownBy w' v.ownBlock → (v.ownBlock = some b ∨ b = H) → b < w'.heap.size → K (a.put o.dst (.slice (some ⟨b, 0, none⟩) (l.length + 1) cap)) w') :
    if Region.wanted o (yielded ops a.tmps) = true then Oper.wp P o a W K Q else E := by
  refine step_append_lies W hgd s x st ho B L.e i0 _ L.sz bytes hst hi hz0 hz1 hz2 hzs L.pos v l.length (L.flat l) hs hown ⟨N, 0, none⟩ 1 1 (L.cl g) hx (by rw [L.len, Nat.one_mul]) (World.news_of_block hN) (L.one g) (by decide) (by unfold maxLen; omega) ?_ hB H hH ?_
  · have := Nat.mul_le_mul (show l.length + 1 ≤ 100000001 from by omega) hby
    omega
  · intro b cap w' hown' hg hv hlt
    refine h b cap w' ?_ hg hv hlt
    unfold Lay8.own; rw [L.flat_snoc, List.length_append]; exact hown'
/-- A row of the call's own, or one that is read, behind a row of the call's own: in a plain region. -/
theorem Lay8.append {ops : Array Oper} {rest : List Oper} {o : Oper} {a : Act} {Q : Exit → Act → World → Prop} (w : World) (hst : P.underlying st = some (.slice L.e)) (hi : P.info? L.e = some i0) (hz0 : i0.zero = some z) (hz1 : i0.size = L.sz) (hz2 : i0.bytes = bytes) (hzs : z.cells.size = L.sz) (hby : bytes ≤ 128)
    (hw : Region.wanted o (yielded ops a.tmps) = true) (s x : Operand) (ho : o.op = .call { callee := .builtin .append, args := #[s, x], argTypes := #[st, st] }) {B b off c : Nat} {v : Value} {l M : List α} (hown : L.own B v l w) (hs : a.eval s = v)
    (hM : ∀ j u, (L.flat M)[j]? = some u → w.cell? ⟨b, off + j, none⟩ = some u) (hx : a.eval x = .slice (some ⟨b, off, none⟩) M.length c) (hk : l.length + M.length ≤ 100000000) (hB : B ≤ w.heap.size)
    (h : ∀ v' w', L.own B v' (l ++ M) w' → w.grownBy w' v.ownBlock → wpList P ops Q rest (a.put o.dst v') w') :
    wpList P ops Q (o :: rest) a w := by
  refine Go.BigFrame.wpList_want hw fun K hK => ?_
  refine wp_append_own _ s x st ho B L.e i0 _ L.sz bytes hst hi hz0 hz1 hz2 hzs L.pos v l.length (L.flat l) hs hown ⟨b, off, none⟩ M.length c (L.flat M) hx (L.flat_len M) ?_ (L.flat_one M) (by unfold maxLen; omega) ?_ hB ?_
  · intro j u hj
    have hadd : (⟨b, off, none⟩ : Addr).add j = ⟨b, off + j, none⟩ := by simp [Addr.add]
    rw [hadd]; exact hM j u hj
  · have := Nat.mul_le_mul hk hby
    omega
  · intro v' w' hown' hg _
    refine hK _ _ (h v' w' ?_ hg)
    unfold Lay8.own; rw [L.flat_append, List.length_append]; exact hown'
theorem Lay8.append_none {ops : Array Oper} {rest : List Oper} {o : Oper} {a : Act} {Q : Exit → Act → World → Prop} (w : World) (hst : P.underlying st = some (.slice L.e)) (hi : P.info? L.e = some i0) (hw : Region.wanted o (yielded ops a.tmps) = true) (s x : Operand)
    (ho : o.op = .call { callee := .builtin .append, args := #[s, x], argTypes := #[st, st] }) {B : Nat} {v : Value} {l : List α} (hown : L.own B v l w) (hs : a.eval s = v) (hx : a.eval x = .slice none 0 0)
    (h : wpList P ops Q rest (a.put o.dst v) w) :
    wpList P ops Q (o :: rest) a w := by
  obtain ⟨aa, cap, rfl, hle⟩ := hown.shape
  refine Go.BigFrame.wpList_want hw fun K hK => ?_
  have hr : (Builtin.append_ #[st, st] o.type #[.slice aa l.length cap, .slice none 0 0]).run P w = .ok (.slice aa l.length cap) w :=
    run_append_nothing w _ _ o.type L.e i0 hst hi _ _ _ hle _ (Src.ofNil _ hst _)
  unfold Oper.wp execOp
  simp only [ho, resolve, invoke, builtin, Sem.run_bind, Sem.run_pure, Result.andThen_ok, List.map_toArray, List.map_cons, List.map_nil, hs, hx, hr]
  exact hK _ _ h
/-- One thing more, in a plain region of a fenced walk; and of a plain one. -/
theorem Lay8.one_in {F : Fence} {N : Nat} {ops : Array Oper} {rest : List Oper} {o : Oper} {a : Act} {Q : Exit → Act → World → Prop} (w : World) (hst : P.underlying st = some (.slice L.e)) (hi : P.info? L.e = some i0) (hz0 : i0.zero = some z) (hz1 : i0.size = L.sz) (hz2 : i0.bytes = bytes) (hzs : z.cells.size = L.sz) (hby : bytes ≤ 128)
    (hgd : o.guard = none) (s x : Operand) (ho : o.op = .call { callee := .builtin .append, args := #[s, x], argTypes := #[st, st] }) {B n : Nat} {v : Value} {l : List α} (hn : w.heap.size = n) (g : α) (hown : L.own B v l w) (hs : a.eval s = v)
    (hx : a.eval x = .slice (some ⟨n, 0, none⟩) 1 1) (hk : l.length ≤ 100000000) (hB : B ≤ w.heap.size)
    (h : ∀ v' w', L.own B v' (l ++ [g]) w' → w.grownBy w' v.ownBlock → wpListIn F N P ops Q rest (a.put o.dst v') w') :
    wpListIn F N P ops Q (o :: rest) a (w.alloc (.cells (L.cl g).toArray L.e)) := by
  subst hn
  have hal : Below w.heap.size w (w.alloc (.cells (L.cl g).toArray L.e)) := (Below.refl w.heap.size w).alloc (Nat.le_refl _) _
  refine wpListIn_append_own _ hgd s x st ho B L.e i0 _ L.sz bytes hst hi hz0 hz1 hz2 hzs L.pos v l.length (L.flat l) hs (hown.next hal) ⟨w.heap.size, 0, none⟩ 1 1 (L.cl g) hx (by rw [L.len, Nat.one_mul]) (World.news_of_block (World.alloc_heap_new w _)) (L.one g) (by unfold maxLen; omega) ?_ (by simp; omega) ?_
  · have := Nat.mul_le_mul (show l.length + 1 ≤ 100000001 from by omega) hby
    omega
  · intro v' w' hown' hg _
    refine h v' w' (by unfold Lay8.own; rw [L.flat_snoc, List.length_append]; exact hown') ?_
    exact ⟨hg.os, hg.tape, hg.output, Nat.le_trans (by simp) hg.size, fun k hk hne => (hg.block k (by simp; omega) hne).trans (Below.heap_alloc _ _ _ hk)⟩
theorem Lay8.one_pl {ops : Array Oper} {rest : List Oper} {o : Oper} {a : Act} {Q : Exit → Act → World → Prop} (w : World) (hst : P.underlying st = some (.slice L.e)) (hi : P.info? L.e = some i0) (hz0 : i0.zero = some z) (hz1 : i0.size = L.sz) (hz2 : i0.bytes = bytes) (hzs : z.cells.size = L.sz) (hby : bytes ≤ 128)
    (hgd : o.guard = none) (s x : Operand) (ho : o.op = .call { callee := .builtin .append, args := #[s, x], argTypes := #[st, st] }) {B n : Nat} {v : Value} {l : List α} (hn : w.heap.size = n) (g : α) (hown : L.own B v l w) (hs : a.eval s = v)
    (hx : a.eval x = .slice (some ⟨n, 0, none⟩) 1 1) (hk : l.length ≤ 100000000) (hB : B ≤ w.heap.size)
    (h : ∀ v' w', L.own B v' (l ++ [g]) w' → w.grownBy w' v.ownBlock → wpList P ops Q rest (a.put o.dst v') w') :
    wpList P ops Q (o :: rest) a (w.alloc (.cells (L.cl g).toArray L.e)) := by
  subst hn
  have hal : Below w.heap.size w (w.alloc (.cells (L.cl g).toArray L.e)) := (Below.refl w.heap.size w).alloc (Nat.le_refl _) _
  refine wpList_append_own _ hgd s x st ho B L.e i0 _ L.sz bytes hst hi hz0 hz1 hz2 hzs L.pos v l.length (L.flat l) hs (hown.next hal) ⟨w.heap.size, 0, none⟩ 1 1 (L.cl g) hx (by rw [L.len, Nat.one_mul]) (World.news_of_block (World.alloc_heap_new w _)) (L.one g) (by unfold maxLen; omega) ?_ (by simp; omega) ?_
  · have := Nat.mul_le_mul (show l.length + 1 ≤ 100000001 from by omega) hby
    omega
  · intro v' w' hown' hg _
    refine h v' w' (by unfold Lay8.own; rw [L.flat_snoc, List.length_append]; exact hown') ?_
    exact ⟨hg.os, hg.tape, hg.output, Nat.le_trans (by simp) hg.size, fun k hk hne => (hg.block k (by simp; omega) hne).trans (Below.heap_alloc _ _ _ hk)⟩
/-- A new box of one thing, as a row. -/
theorem Lay8.own_one (w : World) (g : α) {B : Nat} (hB : B ≤ w.heap.size) : L.own B (.slice (some ⟨w.heap.size, 0, none⟩) 1 1) [g] (w.alloc (.cells (L.cl g).toArray L.e)) :=
  ⟨by have := L.flat_len [g]; simpa using this, Or.inr ⟨w.heap.size, 1, (L.cl g).toArray, rfl, hB, World.alloc_heap_new w _, Nat.le_refl _, by decide, by have := L.len g; simpa using this, by have := L.len g; simp [Lay8.flat]; rw [← this]; exact List.take_length⟩⟩
end
end Go.Proofs.Ytejhegoegmoemaa
