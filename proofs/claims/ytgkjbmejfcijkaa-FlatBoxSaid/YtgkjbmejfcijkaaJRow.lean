/-
  Joined texts: CrvRow, RowG, EdgRow, FlatIter, FlatStack, RowBox, FlatPoints, Fixed, EdgOne, CrvApp.
-/
import Derived.Test.YtgkjbmejfcijkaaJCv
import Derived.Test.YtgkjbmejfcijkaaJIter
import Derived.Deep.AppendLies
import Derived.OwnWalk
import Derived.Deep.Upon
import Derived.BigFrame
import Derived.RangeFuncLeaves
import Derived.OwnWalkIn
namespace Go.Proofs.Ytgkjbmejfcijkaa
open Go.RowKit Go.Shelf

theorem own_typeK {W : World} {R : Nat} {e : TypeId} {sz : Nat} {v : Value} {k : Nat} {xs : List Value} (h : W.ownsRow R e sz v k xs) : ∀ q, v.ownBlock = some q → q < W.heap.size ∧ R ≤ q ∧ ∃ cur, W.heap[q]? = some (.cells cur e (0, 0)) := by
  intro q hq
  rcases h.2 with ⟨rfl, _⟩ | ⟨g, cap, cur, rfl, hb, hg, _⟩
  · simp [Value.ownBlock] at hq
  · obtain rfl : g = q := by simpa [Value.ownBlock] using hq
    exact ⟨(Array.getElem?_eq_some_iff.1 hg).1, hb, cur, hg⟩
theorem own_stayK {W W' : World} {R : Nat} {e : TypeId} {sz : Nat} {v : Value} {k : Nat} {xs : List Value} (h : W.ownsRow R e sz v k xs) (hb : ∀ q, v.ownBlock = some q → W'.heap[q]? = W.heap[q]?) : W'.ownsRow R e sz v k xs := by
  refine ⟨h.1, ?_⟩
  rcases h.2 with h | ⟨g, cap, cur, rfl, hR, hg, h1, h2, h3, h4⟩
  · exact .inl h
  · exact .inr ⟨g, cap, cur, rfl, hR, (hb g rfl).trans hg, h1, h2, h3, h4⟩
theorem own_nextK {W W' : World} {R : Nat} {e : TypeId} {sz : Nat} {v : Value} {k : Nat} {xs : List Value} (h : W.ownsRow R e sz v k xs) (t : Below W.heap.size W W') : W'.ownsRow R e sz v k xs :=
  own_stayK h fun q hq => t.block q (own_typeK h q hq).1
theorem own_freeK {W W' : World} {R : Nat} {e : TypeId} {sz : Nat} {v : Value} {k : Nat} {xs : List Value} {row : Option Nat} (h : W.ownsRow R e sz v k xs) (hg : W.grownBy W' row)
    (hr : ∀ r, row = some r → ∃ o : Obj, W.heap[r]? = some o ∧ o.isCells = false) : W'.ownsRow R e sz v k xs :=
  own_stayK h fun q hq => by
    obtain ⟨hlt, _, cur, hc⟩ := own_typeK h q hq
    refine hg.block q hlt fun e => ?_
    obtain ⟨o, ho, hn⟩ := hr q e.symm
    rw [hc] at ho
    cases ho
    cases hn
theorem own_butK {W W' : World} {R b : Nat} {e t : TypeId} {sz : Nat} {v : Value} {k : Nat} {xs : List Value} {cs : Array Value} {z : Nat × Nat} (h : W.ownsRow R e sz v k xs) (hb : W.heap[b]? = some (.cells cs t z)) (ht : t ≠ e) (B : But W.heap.size b W W') : W'.ownsRow R e sz v k xs :=
  own_stayK h fun q hq => by
    obtain ⟨hlt, _, cur, hc⟩ := own_typeK h q hq
    refine B.block q hlt fun e => ?_
    subst e
    rw [hb] at hc
    injection hc with hc
    injection hc with _ hc _
    exact ht hc
theorem CBox.free {W W' : World} {n : Nat} {t : TypeId} {cs : Array Value} {row : Option Nat} (h : CBox n t cs W) (hg : W.grownBy W' row)
    (hr : ∀ r, row = some r → ∃ o : Obj, W.heap[r]? = some o ∧ o.isCells = false) : CBox n t cs W' := by
  have hl := h.lt
  unfold CBox at *
  refine (hg.block n hl fun e => ?_).trans h
  obtain ⟨o, ho, hn⟩ := hr n e.symm
  rw [h] at ho
  cases ho
  cases hn
theorem CBox.but {W W' : World} {n b : Nat} {t : TypeId} {cs : Array Value} (h : CBox n t cs W) (hn : n ≠ b) (B : But W.heap.size b W W') : CBox n t cs W' := by
  have hl := h.lt
  unfold CBox at *
  exact (B.block n hl hn).trans h
theorem CBox.type_ne {W : World} {n b : Nat} {t u : TypeId} {cs ds : Array Value} {z : Nat × Nat} (h : CBox n t cs W) (hb : W.heap[b]? = some (.cells ds u z)) (ht : u ≠ t) : n ≠ b := by
  rintro rfl
  unfold CBox at h
  rw [hb] at h
  injection h with h
  injection h with _ h _
  exact ht h
theorem CBox.not_own {W : World} {R n : Nat} {t e : TypeId} {cs : Array Value} {sz : Nat} {v : Value} {k : Nat} {xs : List Value} (h : CBox n t cs W) (hr : W.ownsRow R e sz v k xs) (ht : t ≠ e) : some n ≠ v.ownBlock := by
  intro hq
  obtain ⟨_, _, cur, hc⟩ := own_typeK hr n hq.symm
  unfold CBox at h
  rw [h] at hc
  injection hc with hc
  injection hc with _ hc _
  exact ht hc
theorem CBox.grown {W W' : World} {n : Nat} {t : TypeId} {cs : Array Value} {row : Option Nat} (h : CBox n t cs W) (hg : W.grownBy W' row) (hn : some n ≠ row) : CBox n t cs W' := by
  have hl := h.lt
  unfold CBox at *
  exact (hg.block n hl hn).trans h

def Crv.lst (c : Crv) : List Value := [.int .i64 c.px, .int .i64 c.py, .int .i64 c.qx, .int .i64 c.qy, .int .i64 c.rx, .int .i64 c.ry, .int .i64 c.sx, .int .i64 c.sy]
def flatK : List Crv → List Value
  | [] => []
  | g :: t => g.lst ++ flatK t
theorem flatK_append (a b : List Crv) : flatK (a ++ b) = flatK a ++ flatK b := by
  induction a with
  | nil => rfl
  | cons g t ih => simp only [List.cons_append, flatK]; rw [ih, List.append_assoc]
theorem flatK_snoc (a : List Crv) (g : Crv) : flatK (a ++ [g]) = flatK a ++ g.lst := by rw [flatK_append]; simp [flatK]
theorem flatK_len (a : List Crv) : (flatK a).length = a.length * 8 := by
  induction a with
  | nil => rfl
  | cons g t ih => simp only [flatK, List.length_append, List.length_cons]; rw [ih]; simp [Crv.lst]; omega
theorem flatK_at (l : List Crv) : ∀ (i : Nat) (g : Crv) (j : Nat) (u : Value), l[i]? = some g → g.lst[j]? = some u → (flatK l)[i * 8 + j]? = some u := by
  induction l with
  | nil => intro i g j u h; simp at h
  | cons x t ih =>
    intro i g j u h hj
    have hx : x.lst.length = 8 := rfl
    have hlt : j < 8 := by have := (List.getElem?_eq_some_iff.1 hj).1; exact this
    cases i with
    | zero =>
      obtain rfl : x = g := by simpa using h
      simp only [flatK, Nat.zero_mul, Nat.zero_add]
      rw [List.getElem?_append_left (by rw [hx]; exact hlt)]
      exact hj
    | succ i =>
      have := ih i g j u (by simpa using h) hj
      simp only [flatK]
      rw [List.getElem?_append_right (by rw [hx]; omega), hx, show (i + 1) * 8 + j - 8 = i * 8 + j from by omega]
      exact this
/-- A row of curves of the call's own. -/
def Crvs (R : Nat) (v : Value) (l : List Crv) (w : World) : Prop := w.ownsRow R 25 8 v l.length (flatK l)
theorem Crvs.nil (R : Nat) (w : World) : Crvs R (.slice none 0 0) [] w := World.ownsRow_nil _ _ _ _
theorem info_crv : (Try.prog.info? 25).map (fun i => (i.zero, i.size, i.bytes)) = some (some (.agg #[.int .i64 0, .int .i64 0, .int .i64 0, .int .i64 0, .int .i64 0, .int .i64 0, .int .i64 0, .int .i64 0]), 8, 64) := by kernel_rfl
/-- One more curve is appended, at a step of a region that draws. -/
theorem step_crv {ops : Array Oper} {o : Oper} {a : Act} {K : Act → World → Prop} {Q : Exit → Act → World → Prop} {E : Prop} {W : World} (hgd : o.guard = none) (s x : Operand)
    (ho : o.op = .call { callee := .builtin .append, args := #[s, x], argTypes := #[28, 28] }) {B N : Nat} {v : Value} {l : List Crv} (g : Crv) (hown : Crvs B v l W) (hs : a.eval s = v)
    (hN : CBox N 25 g.arr W) (hx : a.eval x = .slice (some ⟨N, 0, none⟩) 1 1) (hk : l.length ≤ 100000000) (hB : B ≤ W.heap.size) (H : Nat) (hH : W.heap.size = H)
    (h : ∀ b cap w', Crvs B (.slice (some ⟨b, 0, none⟩) (l.length + 1) cap) (l ++ [g]) w' → W.grownBy w' v.ownBlock → (v.ownBlock = some b ∨ b = H) → b < w'.heap.size → K (a.put o.dst (.slice (some ⟨b, 0, none⟩) (l.length + 1) cap)) w') :
    if Region.wanted o (yielded ops a.tmps) = true then Oper.wp Try.prog o a W K Q else E := by
  obtain ⟨i0, hi, hz0, hz1, hz2⟩ := info_parts info_crv
  refine step_append_lies W hgd s x 28 ho B 25 i0 _ 8 64 Try.underlying28 hi hz0 hz1 hz2 rfl (by decide) v l.length (flatK l) hs hown ⟨N, 0, none⟩ 1 1 g.lst hx rfl (World.news_of_block (show W.heap[N]? = some (.cells g.lst.toArray 25) from hN)) ?_ (by decide) (by unfold maxLen; omega) (by omega) hB H hH ?_
  · intro u hu; simp [Crv.lst] at hu; rcases hu with rfl | rfl | rfl | rfl | rfl | rfl | rfl | rfl <;> rfl
  · intro b cap w' hown' hg hv hlt
    refine h b cap w' ?_ hg hv hlt
    unfold Crvs; rw [flatK_snoc, List.length_append]; exact hown'
end Go.Proofs.Ytgkjbmejfcijkaa
namespace Go.Proofs.Ytgkjbmejfcijkaa
open Go.RowKit Go.Shelf

/-- Things of sz cells each, in memory: their type, and how they are laid. -/
structure Lay8 (α : Type) where
  e : TypeId
  sz : Nat
  cl : α → List Value
  len : ∀ x, (cl x).length = sz
  pos : 0 < sz
  one : ∀ x, ∀ u ∈ cl x, u.oneCell' = true
def Lay8.flat {α : Type} (L : Lay8 α) : List α → List Value
  | [] => []
  | g :: t => L.cl g ++ L.flat t
section
variable {α : Type} (L : Lay8 α)
theorem Lay8.flat_append (a b : List α) : L.flat (a ++ b) = L.flat a ++ L.flat b := by
  induction a with
  | nil => rfl
  | cons g t ih => simp only [List.cons_append, Lay8.flat]; rw [ih, List.append_assoc]
theorem Lay8.flat_snoc (a : List α) (g : α) : L.flat (a ++ [g]) = L.flat a ++ L.cl g := by rw [L.flat_append]; simp [Lay8.flat]
theorem Lay8.flat_len (a : List α) : (L.flat a).length = a.length * L.sz := by
  induction a with
  | nil => simp [Lay8.flat]
  | cons g t ih => simp only [Lay8.flat, List.length_append, List.length_cons]; rw [ih, L.len, Nat.add_mul]; omega
theorem Lay8.flat_one (l : List α) : ∀ u ∈ L.flat l, u.oneCell' = true := by
  induction l with
  | nil => intro u h; cases h
  | cons g t ih =>
    intro u hu
    simp only [Lay8.flat, List.mem_append] at hu
    rcases hu with hu | hu
    · exact L.one _ _ hu
    · exact ih u hu
theorem Lay8.flat_at (l : List α) : ∀ (i : Nat) (g : α) (j : Nat) (u : Value), l[i]? = some g → (L.cl g)[j]? = some u → (L.flat l)[i * L.sz + j]? = some u := by
  induction l with
  | nil => intro i g j u h; simp at h
  | cons x t ih =>
    intro i g j u h hj
    have hx := L.len x
    have hlt : j < L.sz := by have := (List.getElem?_eq_some_iff.1 hj).1; rwa [L.len] at this
    cases i with
    | zero =>
      obtain rfl : x = g := by simpa using h
      simp only [Lay8.flat, Nat.zero_mul, Nat.zero_add]
      rw [List.getElem?_append_left (by rw [hx]; exact hlt)]
      exact hj
    | succ i =>
      have := ih i g j u (by simpa using h) hj
      simp only [Lay8.flat]
      rw [Nat.add_mul, List.getElem?_append_right (by rw [hx]; omega), hx, show i * L.sz + 1 * L.sz + j - L.sz = i * L.sz + j from by omega]
      exact this
/-- A row of the call's own. -/
def Lay8.own (R : Nat) (v : Value) (l : List α) (w : World) : Prop := w.ownsRow R L.e L.sz v l.length (L.flat l)
/-- A row that is read. -/
def Lay8.rd (a : Option Addr) (l : List α) (w : World) : Prop := l = [] ∨ ∃ b off, a = some ⟨b, off, none⟩ ∧ b < w.heap.size ∧ ∀ j u, (L.flat l)[j]? = some u → w.cell? ⟨b, off + j, none⟩ = some u
variable {L}
theorem Lay8.own_nil (R : Nat) (w : World) : L.own R (.slice none 0 0) [] w := World.ownsRow_nil _ _ _ _
theorem Lay8.own.type {W : World} {R : Nat} {v : Value} {l : List α} (h : L.own R v l W) : ∀ q, v.ownBlock = some q → q < W.heap.size ∧ R ≤ q ∧ ∃ cur, W.heap[q]? = some (.cells cur L.e (0, 0)) := by
  intro q hq
  rcases h.2 with ⟨rfl, _⟩ | ⟨g, cap, cur, rfl, hb, hg, _⟩
  · simp [Value.ownBlock] at hq
  · obtain rfl : g = q := by simpa [Value.ownBlock] using hq
    exact ⟨(Array.getElem?_eq_some_iff.1 hg).1, hb, cur, hg⟩
theorem Lay8.own.stay {W W' : World} {R : Nat} {v : Value} {l : List α} (h : L.own R v l W) (hb : ∀ q, v.ownBlock = some q → W'.heap[q]? = W.heap[q]?) : L.own R v l W' := by
  refine ⟨h.1, ?_⟩
  rcases h.2 with h | ⟨g, cap, cur, rfl, hR, hg, h1, h2, h3, h4⟩
  · exact .inl h
  · exact .inr ⟨g, cap, cur, rfl, hR, (hb g rfl).trans hg, h1, h2, h3, h4⟩
theorem Lay8.own.next {W W' : World} {R : Nat} {v : Value} {l : List α} (h : L.own R v l W) (t : Below W.heap.size W W') : L.own R v l W' :=
  h.stay fun q hq => t.block q (h.type q hq).1
theorem Lay8.own.low {R R' : Nat} {v : Value} {l : List α} {W : World} (h : L.own R v l W) (hR : R' ≤ R) : L.own R' v l W := by
  refine ⟨h.1, ?_⟩
  rcases h.2 with h | ⟨g, cap, cur, h1, h2, h3⟩
  · exact .inl h
  · exact .inr ⟨g, cap, cur, h1, by omega, h3⟩
theorem Lay8.own.grown {R : Nat} {v : Value} {l : List α} {W W' : World} (h : L.own R v l W) (hg : W.grownBy W' v.ownBlock) (hR : R ≤ W.heap.size) : Below R W W' :=
  (Below.refl R W).grown hg (by omega) fun q hq => (h.lt q hq).1
theorem Lay8.own.free {W W' : World} {R : Nat} {v : Value} {l : List α} {row : Option Nat} (h : L.own R v l W) (hg : W.grownBy W' row)
    (hr : ∀ r, row = some r → ∃ o : Obj, W.heap[r]? = some o ∧ o.isCells = false) : L.own R v l W' :=
  h.stay fun q hq => by
    obtain ⟨hlt, _, cur, hc⟩ := h.type q hq
    refine hg.block q hlt fun e => ?_
    obtain ⟨o, ho, hn⟩ := hr q e.symm
    rw [hc] at ho
    cases ho
    cases hn
theorem Lay8.own.but {W W' : World} {R b : Nat} {t : TypeId} {v : Value} {l : List α} {cs : Array Value} {z : Nat × Nat} (h : L.own R v l W) (hb : W.heap[b]? = some (.cells cs t z)) (ht : t ≠ L.e) (B : But W.heap.size b W W') : L.own R v l W' :=
  h.stay fun q hq => by
    obtain ⟨hlt, _, cur, hc⟩ := h.type q hq
    refine B.block q hlt fun e => ?_
    subst e
    rw [hb] at hc
    injection hc with hc
    injection hc with _ hc _
    exact ht hc
theorem Lay8.own.shape {R : Nat} {v : Value} {l : List α} {W : World} (h : L.own R v l W) : ∃ a cap, v = .slice a l.length cap ∧ l.length ≤ cap := by
  rcases h.2 with ⟨rfl, h2⟩ | ⟨g, c, cur, rfl, _, _, h1, _⟩
  · exact ⟨none, 0, by rw [h2], by omega⟩
  · exact ⟨_, _, rfl, h1⟩
theorem Lay8.own.shape1 {R : Nat} {v : Value} {l : List α} {g : α} {W : World} (h : L.own R v (l ++ [g]) W) : ∃ a cap, v = .slice a (l.length + 1) cap := by
  obtain ⟨a, cap, h1, _⟩ := h.shape
  exact ⟨a, cap, by rw [h1, List.length_append]; rfl⟩
theorem Lay8.own.cell {R b k cap : Nat} {l : List α} {W : World} (h : L.own R (.slice (some ⟨b, 0, none⟩) k cap) l W) {j : Nat} {u : Value} (hj : (L.flat l)[j]? = some u) : W.cell? ⟨b, j, none⟩ = some u := by
  rcases h.2 with ⟨h0, _⟩ | ⟨g, cap', cur, hv, hR, hg, h1, h2, h3, h4⟩
  · cases h0
  · cases hv
    unfold World.cell?
    rw [hg]
    show cur[j]? = some u
    rw [← h4] at hj
    have := (List.getElem?_eq_some_iff.1 hj).1
    rw [List.length_take] at this
    rw [List.getElem?_take, if_pos (by omega)] at hj
    simpa using hj
theorem Lay8.own.rd {R k cap : Nat} {a : Option Addr} {l : List α} {W : World} (h : L.own R (.slice a k cap) l W) : L.rd a l W := by
  have hc := fun b (e : a = some ⟨b, 0, none⟩) j u hj => (show L.own R (.slice (some ⟨b, 0, none⟩) k cap) l W from e ▸ h).cell (j := j) (u := u) hj
  rcases h.2 with ⟨_, h2⟩ | ⟨g, c, cur, h1, _, hg, _⟩
  · exact .inl (List.length_eq_zero_iff.1 h2)
  · injection h1 with h1
    exact .inr ⟨g, 0, h1, (Array.getElem?_eq_some_iff.1 hg).1, fun j u hj => by rw [Nat.zero_add]; exact hc g h1 j u hj⟩
theorem Lay8.rd.next {a : Option Addr} {l : List α} {w w' : World} (h : L.rd a l w) (t : Below w.heap.size w w') : L.rd a l w' := by
  rcases h with h | ⟨b, off, h1, h2, h3⟩
  · exact .inl h
  · exact .inr ⟨b, off, h1, Nat.lt_of_lt_of_le h2 t.size, fun j u hj => (t.cell (p := ⟨b, off + j, none⟩) (by exact h2)).trans (h3 j u hj)⟩
theorem Lay8.rd.pos {a : Option Addr} {l : List α} {w : World} (h : L.rd a l w) {i : Nat} (hi : i < l.length) : ∃ b off, a = some ⟨b, off, none⟩ ∧ b < w.heap.size ∧ ∀ j u, (L.flat l)[j]? = some u → w.cell? ⟨b, off + j, none⟩ = some u := by
  rcases h with rfl | h
  · simp at hi
  · exact h
variable (L)
variable {P : Program} {i0 : TypeInfo} {z : Value} {bytes : Nat} {st : TypeId}
/-- One thing more is appended, at a step of a region that draws. -/
theorem Lay8.step {ops : Array Oper} {o : Oper} {a : Act} {K : Act → World → Prop} {Q : Exit → Act → World → Prop} {E : Prop} {W : World} (hst : P.underlying st = some (.slice L.e)) (hi : P.info? L.e = some i0) (hz0 : i0.zero = some z) (hz1 : i0.size = L.sz) (hz2 : i0.bytes = bytes) (hzs : z.cells.size = L.sz) (hby : bytes ≤ 128)
    (hgd : o.guard = none) (s x : Operand) (ho : o.op = .call { callee := .builtin .append, args := #[s, x], argTypes := #[st, st] }) {B N : Nat} {v : Value} {l : List α} (g : α) (hown : L.own B v l W) (hs : a.eval s = v)
    (hN : W.heap[N]? = some (.cells (L.cl g).toArray L.e)) (hx : a.eval x = .slice (some ⟨N, 0, none⟩) 1 1) (hk : l.length ≤ 100000000) (hB : B ≤ W.heap.size) (H : Nat) (hH : W.heap.size = H)
    (h : ∀ b cap w', L.own B (.slice (some ⟨b, 0, none⟩) (l.length + 1) cap) (l ++ [g]) w' → W.grownBy w' v.ownBlock → (v.ownBlock = some b ∨ b = H) → b < w'.heap.size → K (a.put o.dst (.slice (some ⟨b, 0, none⟩) (l.length + 1) cap)) w') :
    if Region.wanted o (yielded ops a.tmps) = true then Oper.wp P o a W K Q else E := by
  refine step_append_lies W hgd s x st ho B L.e i0 _ L.sz bytes hst hi hz0 hz1 hz2 hzs L.pos v l.length (L.flat l) hs hown ⟨N, 0, none⟩ 1 1 (L.cl g) hx (by rw [L.len, Nat.one_mul]) (World.news_of_block hN) (L.one g) (by decide) (by unfold maxLen; omega) ?_ hB H hH ?_
  · have := Nat.mul_le_mul (show l.length + 1 ≤ 100000001 from by omega) hby
    omega
  · intro b cap w' hown' hg hv hlt
    refine h b cap w' ?_ hg hv hlt
    unfold Lay8.own; rw [L.flat_snoc, List.length_append]; exact hown'
/-- A row of the call's own, or one that is read, behind a row of the call's own: in a plain region. -/
theorem Lay8.append {ops : Array Oper} {rest : List Oper} {o : Oper} {a : Act} {Q : Exit → Act → World → Prop} (w : World) (hst : P.underlying st = some (.slice L.e)) (hi : P.info? L.e = some i0) (hz0 : i0.zero = some z) (hz1 : i0.size = L.sz) (hz2 : i0.bytes = bytes) (hzs : z.cells.size = L.sz) (hby : bytes ≤ 128)
    (hw : Region.wanted o (yielded ops a.tmps) = true) (s x : Operand) (ho : o.op = .call { callee := .builtin .append, args := #[s, x], argTypes := #[st, st] }) {B b off c : Nat} {v : Value} {l M : List α} (hown : L.own B v l w) (hs : a.eval s = v)
    (hM : ∀ j u, (L.flat M)[j]? = some u → w.cell? ⟨b, off + j, none⟩ = some u) (hx : a.eval x = .slice (some ⟨b, off, none⟩) M.length c) (hk : l.length + M.length ≤ 100000000) (hB : B ≤ w.heap.size)
    (h : ∀ v' w', L.own B v' (l ++ M) w' → w.grownBy w' v.ownBlock → wpList P ops Q rest (a.put o.dst v') w') :
    wpList P ops Q (o :: rest) a w := by
  refine Go.BigFrame.wpList_want hw fun K hK => ?_
  refine wp_append_own _ s x st ho B L.e i0 _ L.sz bytes hst hi hz0 hz1 hz2 hzs L.pos v l.length (L.flat l) hs hown ⟨b, off, none⟩ M.length c (L.flat M) hx (L.flat_len M) ?_ (L.flat_one M) (by unfold maxLen; omega) ?_ hB ?_
  · intro j u hj
    have hadd : (⟨b, off, none⟩ : Addr).add j = ⟨b, off + j, none⟩ := by simp [Addr.add]
    rw [hadd]; exact hM j u hj
  · have := Nat.mul_le_mul hk hby
    omega
  · intro v' w' hown' hg _
    refine hK _ _ (h v' w' ?_ hg)
    unfold Lay8.own; rw [L.flat_append, List.length_append]; exact hown'
theorem Lay8.append_none {ops : Array Oper} {rest : List Oper} {o : Oper} {a : Act} {Q : Exit → Act → World → Prop} (w : World) (hst : P.underlying st = some (.slice L.e)) (hi : P.info? L.e = some i0) (hw : Region.wanted o (yielded ops a.tmps) = true) (s x : Operand)
    (ho : o.op = .call { callee := .builtin .append, args := #[s, x], argTypes := #[st, st] }) {B : Nat} {v : Value} {l : List α} (hown : L.own B v l w) (hs : a.eval s = v) (hx : a.eval x = .slice none 0 0)
    (h : wpList P ops Q rest (a.put o.dst v) w) :
    wpList P ops Q (o :: rest) a w := by
  obtain ⟨aa, cap, rfl, hle⟩ := hown.shape
  refine Go.BigFrame.wpList_want hw fun K hK => ?_
  have hr : (Builtin.append_ #[st, st] o.type #[.slice aa l.length cap, .slice none 0 0]).run P w = .ok (.slice aa l.length cap) w :=
    run_append_nothing w _ _ o.type L.e i0 hst hi _ _ _ hle _ (Src.ofNil _ hst _)
  unfold Oper.wp execOp
  simp only [ho, resolve, invoke, builtin, Sem.run_bind, Sem.run_pure, Result.andThen_ok, List.map_toArray, List.map_cons, List.map_nil, hs, hx, hr]
  exact hK _ _ h
/-- One thing more, in a plain region of a fenced walk; and of a plain one. -/
theorem Lay8.one_in {F : Fence} {N : Nat} {ops : Array Oper} {rest : List Oper} {o : Oper} {a : Act} {Q : Exit → Act → World → Prop} (w : World) (hst : P.underlying st = some (.slice L.e)) (hi : P.info? L.e = some i0) (hz0 : i0.zero = some z) (hz1 : i0.size = L.sz) (hz2 : i0.bytes = bytes) (hzs : z.cells.size = L.sz) (hby : bytes ≤ 128)
    (hgd : o.guard = none) (s x : Operand) (ho : o.op = .call { callee := .builtin .append, args := #[s, x], argTypes := #[st, st] }) {B n : Nat} {v : Value} {l : List α} (hn : w.heap.size = n) (g : α) (hown : L.own B v l w) (hs : a.eval s = v)
    (hx : a.eval x = .slice (some ⟨n, 0, none⟩) 1 1) (hk : l.length ≤ 100000000) (hB : B ≤ w.heap.size)
    (h : ∀ v' w', L.own B v' (l ++ [g]) w' → w.grownBy w' v.ownBlock → wpListIn F N P ops Q rest (a.put o.dst v') w') :
    wpListIn F N P ops Q (o :: rest) a (w.alloc (.cells (L.cl g).toArray L.e)) := by
  subst hn
  have hal : Below w.heap.size w (w.alloc (.cells (L.cl g).toArray L.e)) := (Below.refl w.heap.size w).alloc (Nat.le_refl _) _
  refine wpListIn_append_own _ hgd s x st ho B L.e i0 _ L.sz bytes hst hi hz0 hz1 hz2 hzs L.pos v l.length (L.flat l) hs (hown.next hal) ⟨w.heap.size, 0, none⟩ 1 1 (L.cl g) hx (by rw [L.len, Nat.one_mul]) (World.news_of_block (World.alloc_heap_new w _)) (L.one g) (by unfold maxLen; omega) ?_ (by simp; omega) ?_
  · have := Nat.mul_le_mul (show l.length + 1 ≤ 100000001 from by omega) hby
    omega
  · intro v' w' hown' hg _
    refine h v' w' (by unfold Lay8.own; rw [L.flat_snoc, List.length_append]; exact hown') ?_
    exact ⟨hg.os, hg.tape, hg.output, Nat.le_trans (by simp) hg.size, fun k hk hne => (hg.block k (by simp; omega) hne).trans (Below.heap_alloc _ _ _ hk)⟩
theorem Lay8.one_pl {ops : Array Oper} {rest : List Oper} {o : Oper} {a : Act} {Q : Exit → Act → World → Prop} (w : World) (hst : P.underlying st = some (.slice L.e)) (hi : P.info? L.e = some i0) (hz0 : i0.zero = some z) (hz1 : i0.size = L.sz) (hz2 : i0.bytes = bytes) (hzs : z.cells.size = L.sz) (hby : bytes ≤ 128)
    (hgd : o.guard = none) (s x : Operand) (ho : o.op = .call { callee := .builtin .append, args := #[s, x], argTypes := #[st, st] }) {B n : Nat} {v : Value} {l : List α} (hn : w.heap.size = n) (g : α) (hown : L.own B v l w) (hs : a.eval s = v)
    (hx : a.eval x = .slice (some ⟨n, 0, none⟩) 1 1) (hk : l.length ≤ 100000000) (hB : B ≤ w.heap.size)
    (h : ∀ v' w', L.own B v' (l ++ [g]) w' → w.grownBy w' v.ownBlock → wpList P ops Q rest (a.put o.dst v') w') :
    wpList P ops Q (o :: rest) a (w.alloc (.cells (L.cl g).toArray L.e)) := by
  subst hn
  have hal : Below w.heap.size w (w.alloc (.cells (L.cl g).toArray L.e)) := (Below.refl w.heap.size w).alloc (Nat.le_refl _) _
  refine wpList_append_own _ hgd s x st ho B L.e i0 _ L.sz bytes hst hi hz0 hz1 hz2 hzs L.pos v l.length (L.flat l) hs (hown.next hal) ⟨w.heap.size, 0, none⟩ 1 1 (L.cl g) hx (by rw [L.len, Nat.one_mul]) (World.news_of_block (World.alloc_heap_new w _)) (L.one g) (by unfold maxLen; omega) ?_ (by simp; omega) ?_
  · have := Nat.mul_le_mul (show l.length + 1 ≤ 100000001 from by omega) hby
    omega
  · intro v' w' hown' hg _
    refine h v' w' (by unfold Lay8.own; rw [L.flat_snoc, List.length_append]; exact hown') ?_
    exact ⟨hg.os, hg.tape, hg.output, Nat.le_trans (by simp) hg.size, fun k hk hne => (hg.block k (by simp; omega) hne).trans (Below.heap_alloc _ _ _ hk)⟩
/-- A new box of one thing, as a row. -/
theorem Lay8.own_one (w : World) (g : α) {B : Nat} (hB : B ≤ w.heap.size) : L.own B (.slice (some ⟨w.heap.size, 0, none⟩) 1 1) [g] (w.alloc (.cells (L.cl g).toArray L.e)) :=
  ⟨by have := L.flat_len [g]; simpa using this, Or.inr ⟨w.heap.size, 1, (L.cl g).toArray, rfl, hB, World.alloc_heap_new w _, Nat.le_refl _, by decide, by have := L.len g; simpa using this, by have := L.len g; simp [Lay8.flat]; rw [← this]; exact List.take_length⟩⟩
end
end Go.Proofs.Ytgkjbmejfcijkaa
namespace Go.Proofs.Ytgkjbmejfcijkaa
open Go.RowKit Go.Shelf

/-- An edge, from one point to another one. -/
structure Edg where
  px : Int
  py : Int
  qx : Int
  qy : Int
deriving DecidableEq
def Edg.lst (g : Edg) : List Value := [.int .i64 g.px, .int .i64 g.py, .int .i64 g.qx, .int .i64 g.qy]
def Edg.arr (g : Edg) : Array Value := #[.int .i64 g.px, .int .i64 g.py, .int .i64 g.qx, .int .i64 g.qy]
def Edg.val (g : Edg) : Value := .agg g.arr
def edgL : Lay8 Edg := { e := 51, sz := 4, cl := Edg.lst, len := fun _ => rfl, pos := by decide, one := fun x u hu => by simp [Edg.lst] at hu; rcases hu with rfl | rfl | rfl | rfl <;> rfl }
/-- A row of edges of the call's own; one that is read. -/
def Edgs (R : Nat) (v : Value) (l : List Edg) (w : World) : Prop := edgL.own R v l w
def RdE (a : Option Addr) (l : List Edg) (w : World) : Prop := edgL.rd a l w
theorem info_edg : (Try.prog.info? 51).map (fun i => (i.zero, i.size, i.bytes)) = some (some (.agg #[.int .i64 0, .int .i64 0, .int .i64 0, .int .i64 0]), 4, 32) := by kernel_rfl
theorem RdE.at {a : Option Addr} {l : List Edg} {w : World} (h : RdE a l w) {i : Nat} {g : Edg} (hi : l[i]? = some g) :
    ∃ b off, a = some ⟨b, off, none⟩ ∧ b < w.heap.size ∧ w.cell? ⟨b, off + i * 4, none⟩ = some (.int .i64 g.px) ∧ w.cell? ⟨b, off + i * 4 + 1, none⟩ = some (.int .i64 g.py) ∧ w.cell? ⟨b, off + i * 4 + 2, none⟩ = some (.int .i64 g.qx) ∧ w.cell? ⟨b, off + i * 4 + 3, none⟩ = some (.int .i64 g.qy) := by
  obtain ⟨b, off, h1, h2, h3⟩ := Lay8.rd.pos h (List.getElem?_eq_some_iff.1 hi).1
  have k := fun j u (hj : (edgL.cl g)[j]? = some u) => h3 _ _ (edgL.flat_at l i g j u hi hj)
  refine ⟨b, off, h1, h2, k 0 _ rfl, ?_, ?_, ?_⟩
  · rw [Nat.add_assoc]; exact k 1 _ rfl
  · rw [Nat.add_assoc]; exact k 2 _ rfl
  · rw [Nat.add_assoc]; exact k 3 _ rfl
def crvL : Lay8 Crv := { e := 25, sz := 8, cl := Crv.lst, len := fun _ => rfl, pos := by decide, one := fun x u hu => by simp [Crv.lst] at hu; rcases hu with rfl | rfl | rfl | rfl | rfl | rfl | rfl | rfl <;> rfl }
theorem crvL_flat (l : List Crv) : crvL.flat l = flatK l := by
  induction l with
  | nil => rfl
  | cons g t ih => show crvL.cl g ++ crvL.flat t = _; rw [ih]; rfl
theorem Crvs.own {R : Nat} {v : Value} {l : List Crv} {w : World} (h : Crvs R v l w) : crvL.own R v l w := by
  unfold Lay8.own; rw [crvL_flat]; exact h
/-- The chords of curves: from where each begins to where it ends; those that are no longer than a point are left out. -/
def chords12 : List Crv → List Edg
  | [] => []
  | c :: l => if c.px = c.sx ∧ c.py = c.sy then chords12 l else ⟨c.px, c.py, c.sx, c.sy⟩ :: chords12 l
theorem chords12_append (a b : List Crv) : chords12 (a ++ b) = chords12 a ++ chords12 b := by
  induction a with
  | nil => rfl
  | cons c t ih => simp only [List.cons_append, chords12]; split <;> simp [ih]
theorem chords12_len (l : List Crv) : (chords12 l).length ≤ l.length := by
  induction l with
  | nil => exact Nat.le_refl _
  | cons c t ih => simp only [chords12]; split <;> simp <;> omega
theorem chords12_next (l : List Crv) (i : Nat) (c : Crv) (h : l[i]? = some c) : chords12 (l.take (i + 1)) = chords12 (l.take i) ++ (if c.px = c.sx ∧ c.py = c.sy then [] else [⟨c.px, c.py, c.sx, c.sy⟩]) := by
  rw [List.take_add_one, h, chords12_append]
  congr 1
end Go.Proofs.Ytgkjbmejfcijkaa
namespace Go.Proofs.Ytgkjbmejfcijkaa
open Go.RowKit Go.Shelf

/-- The types of an iterator's own variables that a loop over it keeps: all but those of the rows' things. -/
def T12 (t : TypeId) : Prop := t ≠ 25 ∧ t ≠ 51
def T12p (t : TypeId) : Prop := t ≠ 51
def encC (c : Crv) : Array Value := #[c.val]
def encQ (p : Int × Int) : Array Value := #[.agg #[.int .i64 p.1, .int .i64 p.2]]
def endP (c : Crv) : Int × Int := (c.sx, c.sy)
/-- An iterator is told. -/
def GivesIter {β : Type} (T : TypeId → Prop) (enc : β → Array Value) (RES : List β) (w : World) (e : Ending) (w' : World) : Prop :=
  ∃ gf lb a b, e = .returned (.func (.func gf) #[] lb) ∧ (∀ args W, (callFunc gf args).run Try.prog W = .ok (.enter gf args) W) ∧ Below w.heap.size w w' ∧ w.heap.size ≤ a ∧ b ≤ w'.heap.size ∧
    (∀ k, a ≤ k → k < b → ∃ cs z, w'.heap[k]? = some (.cells cs 25 z)) ∧ FeedsO Try.prog T a b enc RES Fence.wide 6 gf lb w'
theorem FeedsO.wideAny {β : Type} {P : Program} {T : TypeId → Prop} {a b m n : Nat} {enc : β → Array Value} {RES : List β} {gf : Nat} {lb : Array Value} {w0 : World} (h : FeedsO P T a b enc RES Fence.wide m gf lb w0) : FeedsO P T a b enc RES Fence.wide n gf lb w0 := by
  intro l J Jx W hm hj hjx hy h0
  refine (callsIn_wide (n := n)).2 ((callsIn_wide (n := m)).1 (h l J Jx W hm hj hjx (fun pre x W1 h1 h2 h3 => ?_) h0))
  obtain ⟨fn, tmps, assign, body, hr, hR⟩ := hy pre x W1 h1 h2 h3
  exact ⟨fn, tmps, assign, body, hr, RoundIn.wideAny hR⟩
/-- A block whose variable a round keeps. -/
theorem mid_of_priv {T : TypeId → Prop} {a b ca cb D : Nat} {A B : World} (h : KeepsT T ca cb D A B) (hD : D ≤ a) (hc : ∀ k, a ≤ k → k < b → ∃ cs t z, T t ∧ A.heap[k]? = some (.cells cs t z)) : Mid a b A B :=
  ⟨h.mid.size, fun k h1 h2 => by
    obtain ⟨cs, t, z, ht, hk⟩ := hc k h1 h2
    exact (h.priv k t cs z (Nat.le_trans hD h1) ht hk).trans hk.symm⟩
theorem ownFrom_box {β : Type} (D n : Nat) (t : TypeId) (cs : Array Value) : OwnFrom D (fun (_ : β) W => CBox n t cs W) :=
  fun _ _ _ _ h hg hr => h.free hg fun r e => (hr r e).2
theorem abideO_box {β : Type} {T : TypeId → Prop} {D n : Nat} {t : TypeId} {cs : Array Value} (hn : n < D) : AbideO (β := β) T D (fun _ W => CBox n t cs W) :=
  ⟨⟨fun _ _ _ h b => h.next b, fun _ _ _ b _ _ _ h hb _ _ B => h.but (by omega) B⟩, ownFrom_box D n t cs⟩
theorem abideO_boxP {β : Type} {T : TypeId → Prop} {D n : Nat} {t : TypeId} (hn : n < D) (f : List β → Array Value) : AbideO T D (fun pre W => CBox n t (f pre) W) :=
  ⟨⟨fun _ _ _ h b => h.next b, fun _ _ _ b _ _ _ h hb _ _ B => h.but (by omega) B⟩, fun _ _ _ _ h hg hr => h.free hg fun r e => (hr r e).2⟩
theorem AbideO.and {β : Type} {T : TypeId → Prop} {D : Nat} {J K : List β → World → Prop} (h : AbideO T D J) (k : AbideO T D K) : AbideO T D (fun pre W => J pre W ∧ K pre W) :=
  ⟨⟨fun pre W W' hj hb => ⟨h.abide.new pre W W' hj.1 hb, k.abide.new pre W W' hj.2 hb⟩, fun pre W W' b t cs z hj h1 h2 h3 h4 => ⟨h.abide.priv pre W W' b t cs z hj.1 h1 h2 h3 h4, k.abide.priv pre W W' b t cs z hj.2 h1 h2 h3 h4⟩⟩, h.own.and k.own⟩
theorem abideO_size {β : Type} {T : TypeId → Prop} {D n : Nat} : AbideO (β := β) T D (fun _ W => n ≤ W.heap.size) :=
  ⟨⟨fun _ _ _ h b => Nat.le_trans h b.size, fun _ _ _ _ _ _ _ h _ _ _ B => Nat.le_trans h B.size⟩, fun _ _ _ _ h hg _ => Nat.le_trans h hg.size⟩
theorem AbideO.sub {β : Type} {T T' : TypeId → Prop} {D : Nat} {J : List β → World → Prop} (h : AbideO T D J) (hT : ∀ t, T' t → T t) : AbideO T' D J :=
  ⟨⟨h.abide.new, fun pre W W' b t cs z hj h1 h2 h3 h4 => h.abide.priv pre W W' b t cs z hj h1 (hT t h2) h3 h4⟩, h.own⟩
theorem KeepsT.sub {T T' : TypeId → Prop} {a b D : Nat} {A B : World} (h : KeepsT T a b D A B) (hT : ∀ t, T' t → T t) : KeepsT T' a b D A B := ⟨h.mid, fun c t cs z hd ht hc => h.priv c t cs z hd (hT t ht) hc⟩
theorem t12_sub (t : TypeId) (h : T12 t) : T12p t := h.2
theorem abideO_rowbox {α β : Type} {L : Lay8 α} {T : TypeId → Prop} (hT : ¬ T L.e) {D n R : Nat} {t : TypeId} (hn : n < D) (f : List β → List α) : AbideO T D (fun pre X => ∃ v, CBox n t #[v] X ∧ L.own R v (f pre) X) :=
  ⟨⟨fun _ _ _ ⟨v, h1, h2⟩ b => ⟨v, h1.next b, h2.next b⟩, fun _ _ _ b t' _ _ ⟨v, h1, h2⟩ hb ht hc B => ⟨v, h1.but (by omega) B, h2.but hc (fun e => hT (e ▸ ht)) B⟩⟩,
   fun _ _ _ _ ⟨v, h1, h2⟩ hg hr => ⟨v, h1.free hg (fun r e => (hr r e).2), h2.free hg (fun r e => (hr r e).2)⟩⟩
theorem abideO_below {β : Type} {T : TypeId → Prop} {D B : Nat} {w : World} (hB : B ≤ D) : AbideO (β := β) T D (fun _ X => Below B w X ∧ D ≤ X.heap.size) :=
  ⟨⟨fun _ _ _ h b => ⟨h.1.trans (b.mono (Nat.le_trans hB h.2)), Nat.le_trans h.2 b.size⟩, fun _ _ _ _ _ _ _ h hb _ _ k => ⟨h.1.trans (k.below (Nat.le_trans hB h.2) (Nat.le_trans hB hb)), Nat.le_trans h.2 k.size⟩⟩,
   fun _ _ _ _ h hg hr => ⟨h.1.grown hg (Nat.le_trans hB h.2) fun k e => Nat.le_trans hB (hr k e).1, Nat.le_trans h.2 hg.size⟩⟩
theorem abideO_pre {β : Type} {T : TypeId → Prop} {D : Nat} (p : List β → Prop) : AbideO T D (fun pre _ => p pre) := ⟨⟨fun _ _ _ h _ => h, fun _ _ _ _ _ _ _ h _ _ _ _ => h⟩, fun _ _ _ _ h _ _ => h⟩
/-- The blocks from a to b hold variables of a type. -/
def CellsAt (a b : Nat) (t : TypeId) (W : World) : Prop := ∀ k, a ≤ k → k < b → ∃ cs z, W.heap[k]? = some (.cells cs t z)
theorem abideO_cells {β : Type} {T : TypeId → Prop} {D a b : Nat} {t : TypeId} (hb : b ≤ D) : AbideO (β := β) T D (fun _ W => CellsAt a b t W) :=
  ⟨⟨fun _ _ _ h hb k h1 h2 => by obtain ⟨cs, z, hk⟩ := h k h1 h2; exact ⟨cs, z, (hb.block k (Array.getElem?_eq_some_iff.1 hk).1).trans hk⟩,
    fun _ _ _ q _ _ _ h hq _ _ B k h1 h2 => by obtain ⟨cs, z, hk⟩ := h k h1 h2; exact ⟨cs, z, (B.block k (Array.getElem?_eq_some_iff.1 hk).1 (by omega)).trans hk⟩⟩,
   fun _ _ _ _ h hg hr k h1 h2 => by
    obtain ⟨cs, z, hk⟩ := h k h1 h2
    exact ⟨cs, z, (hg.block k (Array.getElem?_eq_some_iff.1 hk).1 (fun e => by have := (hr k e.symm).1; omega)).trans hk⟩⟩
theorem CellsAt.next {a b : Nat} {t : TypeId} {W W' : World} (h : CellsAt a b t W) (hb : Below W.heap.size W W') : CellsAt a b t W' := fun k h1 h2 => by
  obtain ⟨cs, z, hk⟩ := h k h1 h2
  exact ⟨cs, z, (hb.block k (Array.getElem?_eq_some_iff.1 hk).1).trans hk⟩
end Go.Proofs.Ytgkjbmejfcijkaa
namespace Go.Proofs.Ytgkjbmejfcijkaa

/-- What a stack (its top first) stands for: curves with the cuts that are left to each. -/
def stackL : List (Crv × Nat) → List Crv
  | [] => []
  | (c, n) :: t => pieces12 n c ++ stackL t
theorem pieces12_leaf {c : Crv} {n : Nat} (h : c.flat ∨ n = 0) : pieces12 n c = [c] := by
  rcases h with h | rfl
  · exact pieces12_flat h n
  · rfl
theorem stackL_leaf {c : Crv} {n : Nat} (t : List (Crv × Nat)) (h : c.flat ∨ n = 0) : stackL ((c, n) :: t) = c :: stackL t := by
  rw [stackL, pieces12_leaf h]; rfl
theorem stackL_cut {c : Crv} (n : Nat) (t : List (Crv × Nat)) (h : ¬ c.flat) : stackL ((c, n + 1) :: t) = stackL ((c.cutA, n) :: (c.cutB, n) :: t) := by
  simp only [stackL, pieces12_cut h, List.append_assoc]
/-- It fits. -/
def stackOk : List (Crv × Nat) → Prop
  | [] => True
  | (c, n) :: t => (t.length + 1 + n ≤ 21 ∧ c.right) ∧ stackOk t
theorem stackOk_one {c : Crv} (h : c.right) : stackOk [(c, 20)] := ⟨⟨by simp, h⟩, trivial⟩
theorem stackOk_cut {c : Crv} {n : Nat} {t : List (Crv × Nat)} (h : stackOk ((c, n + 1) :: t)) : stackOk ((c.cutA, n) :: (c.cutB, n) :: t) := by
  obtain ⟨⟨h1, h2⟩, h3⟩ := h
  exact ⟨⟨by simp only [List.length_cons]; omega, right_cutA h2⟩, ⟨by omega, right_cutB h2⟩, h3⟩
theorem stackOk_len {s : List (Crv × Nat)} (h : stackOk s) : s.length ≤ 21 := by
  cases s with
  | nil => simp
  | cons x t => obtain ⟨c, n⟩ := x; have := h.1.1; simp only [List.length_cons]; omega
/-- It ends. -/
def stackMu : List (Crv × Nat) → Nat
  | [] => 0
  | (_, n) :: t => (2 ^ (n + 1) - 1) + stackMu t
theorem stackMu_leaf (c : Crv) (n : Nat) (t : List (Crv × Nat)) : stackMu t < stackMu ((c, n) :: t) := by
  have : 0 < 2 ^ n := Nat.two_pow_pos n
  simp only [stackMu, Nat.pow_succ]; omega
theorem stackMu_cut (c : Crv) (n : Nat) (t : List (Crv × Nat)) : stackMu ((c.cutA, n) :: (c.cutB, n) :: t) < stackMu ((c, n + 1) :: t) := by
  have : 0 < 2 ^ n := Nat.two_pow_pos n
  simp only [stackMu, Nat.pow_succ]; omega
/-- The chords by the ends that are told one by one. -/
def chordsQ : Int × Int → List (Int × Int) → List Edg
  | _, [] => []
  | p, q :: l => (if p = q then [] else [⟨p.1, p.2, q.1, q.2⟩]) ++ chordsQ q l
theorem chordsQ_snoc (p : Int × Int) (l : List (Int × Int)) (q : Int × Int) : chordsQ p (l ++ [q]) = chordsQ p l ++ (if (l.getLast?.getD p) = q then [] else [⟨(l.getLast?.getD p).1, (l.getLast?.getD p).2, q.1, q.2⟩]) := by
  induction l generalizing p with
  | nil =>
    rw [List.nil_append, chordsQ, chordsQ, chordsQ, List.append_nil, List.nil_append]
    rfl
  | cons x t ih =>
    rw [List.cons_append, chordsQ, chordsQ, ih, List.append_assoc]
    have e : ((x :: t).getLast?.getD p) = (t.getLast?.getD x) := by
      cases t with
      | nil => rfl
      | cons y s => simp [List.getLast?_cons]
    rw [e]
theorem chordsQ_chain : ∀ (l : List Crv) (p q : Int × Int), chain p l q → chordsQ p (l.map endP) = chords12 l
  | [], _, _, _ => rfl
  | c :: l, p, q, h => by
    obtain ⟨rfl, h2⟩ := h
    rw [List.map_cons, chordsQ, chords12, show endP c = (c.sx, c.sy) from rfl, chordsQ_chain l _ _ h2]
    by_cases e : c.px = c.sx ∧ c.py = c.sy
    · rw [if_pos e, if_pos (by rw [e.1, e.2])]; rfl
    · rw [if_neg e, if_neg (fun h => e ⟨congrArg Prod.fst h, congrArg Prod.snd h⟩)]; rfl
end Go.Proofs.Ytgkjbmejfcijkaa
namespace Go.Proofs.Ytgkjbmejfcijkaa
open Go.RowKit Go.Shelf

theorem Lay8.own.not_box {α : Type} {L : Lay8 α} {W : World} {R n : Nat} {t : TypeId} {cs : Array Value} {v : Value} {l : List α} (hr : L.own R v l W) (h : CBox n t cs W) (ht : t ≠ L.e) : some n ≠ v.ownBlock := by
  intro hq
  obtain ⟨_, _, cur, hc⟩ := hr.type n hq.symm
  unfold CBox at h
  rw [h] at hc
  injection hc with hc
  injection hc with _ hc _
  exact ht hc
/-- What a round has left that appends to the row in box n. -/
structure RowStep {α : Type} (L : Lay8 α) (T : TypeId → Prop) (a b D n R : Nat) (t : TypeId) (v' : Value) (l : List α) (X Y : World) : Prop where
  others : KeepsOthers X Y
  keeps : KeepsT T a b D X Y
  box : CBox n t #[v'] Y
  row : L.own R v' l Y
  size : X.heap.size ≤ Y.heap.size
  boxes : ∀ n' t' cs', CBox n' t' cs' X → n' ≠ n → t' ≠ L.e → CBox n' t' cs' Y
  below : ∀ B w, Below B w X → B ≤ n → B ≤ R → B ≤ X.heap.size → Below B w Y
theorem rowbox_step {α : Type} {L : Lay8 α} {T : TypeId → Prop} {a b D n R : Nat} {t : TypeId} {v v' : Value} {l m : List α} {X w1 : World} (hv : CBox n t #[v] X) (hrow : L.own R v l X) (hown : L.own R v' m w1) (hg : X.grownBy w1 v.ownBlock) (ht : t ≠ L.e) (hT : ¬ T L.e)
    (hn : n < D) (hR : D ≤ R) (hb : b ≤ D) (hna : n < a ∨ b ≤ n) (hD : D ≤ X.heap.size) : RowStep L T a b D n R t v' m X (w1.setCell ⟨n, 0, none⟩ v') := by
  have hne := hrow.not_box hv ht
  have hv1 := hv.grown hg hne
  have hne' := hown.not_box hv1 ht
  have hblk : ∀ k, k < X.heap.size → k ≠ n → some k ≠ v.ownBlock → (w1.setCell ⟨n, 0, none⟩ v').heap[k]? = X.heap[k]? := fun k hk h1 h2 =>
    (Below.heap_setCell _ _ _ _ (by exact h1)).trans (hg.block k hk h2)
  have hsz : X.heap.size ≤ (w1.setCell ⟨n, 0, none⟩ v').heap.size := by have := hg.size; simp [World.setCell]; omega
  have hq : ∀ k, v.ownBlock = some k → R ≤ k ∧ ∃ cur, X.heap[k]? = some (.cells cur L.e (0, 0)) := fun k e => (hrow.type k e).2
  refine ⟨⟨hsz, fun k o ho hc => ?_⟩, ⟨⟨hsz, fun k h1 h2 => ?_⟩, fun k t' cs z hk ht' hc => ?_⟩, ?_, ?_, hsz, fun n' t' cs' h h1 h2 => ?_, fun B w h h1 h2 h3 => ?_⟩
  · refine (hblk k (Array.getElem?_eq_some_iff.1 ho).1 (fun e => ?_) (fun e => ?_)).trans ho
    · subst e
      unfold CBox at hv
      rw [hv] at ho
      cases ho
      cases hc
    · obtain ⟨_, cur, hcur⟩ := hq k e.symm
      rw [hcur] at ho
      cases ho
      cases hc
  · exact hblk k (by omega) (by omega) (fun e => by have := (hq k e.symm).1; omega)
  · refine (hblk k (Array.getElem?_eq_some_iff.1 hc).1 (by omega) (fun e => ?_)).trans hc
    obtain ⟨_, cur, hcur⟩ := hq k e.symm
    rw [hcur] at hc
    injection hc with hc
    injection hc with _ hc _
    exact hT (hc ▸ ht')
  · exact hv1.set 0 v' (show (0 : Nat) < 1 by decide)
  · exact hown.stay fun q hqq => Below.heap_setCell _ _ _ _ (fun e => hne' (by have e' : q = n := e; rw [← e']; exact hqq.symm))
  · have hnn : some n' ≠ v.ownBlock := hrow.not_box h h2
    exact (h.grown hg hnn).other h1 0 v'
  · exact Below.setCell (h.grown hg h3 fun k e => Nat.le_trans h2 (hq k e).1) (by exact h1) _
end Go.Proofs.Ytgkjbmejfcijkaa
namespace Go.Proofs.Ytgkjbmejfcijkaa
open Go.RowKit Go.Shelf
attribute [local go_sem] Oper.semAt_some

/-- What Pieces tells. -/
def PiecesOk : Prop := ∀ (c : Crv) (w : World), c.right → Calls Try.prog 17 #[c.val] w (GivesIter T12 encC (pieces12 20 c) w)
set_option maxHeartbeats 4000000 in
set_option maxRecDepth 100000 in
theorem points_feed (PI : PiecesOk) (c : Crv) (hc : c.right) (be ca cb : Nat) (w0 : World) (hE : CBox be 25 c.arr w0) (hb1 : ca ≤ be) (hb2 : be < cb) (hcb : cb ≤ w0.heap.size) :
    FeedsO Try.prog T12p ca cb encQ ((pieces12 20 c).map endP) Fence.wide 6 23 #[.pointer (some ⟨be, 0, none⟩)] w0 := by
  intro l J Jx W hW aJ aJx hY h0
  have PC := Lib.hid (fun w => (callsIn_wide (n := 6 - 1)).2 (PI c w hc))
  have hEW : CBox be 25 c.arr W := by
    unfold CBox at *
    exact (hW.block be hb1 hb2).trans hE
  have HE := Lib.hid hEW
  have HY := Lib.hid hY
  have HJ := Lib.hid aJ; have HJX := Lib.hid aJx
  have hcW : cb ≤ W.heap.size := Nat.le_trans hcb hW.size
  have HC := Lib.hid hcW
  clear hY aJ aJx hEW hE PI hcb hc
  refine callsIn_of_wp_marks Try.func23 rfl trivial ?_ rfl
  simp only [Try.ntmps23, List.size_toArray, List.length_cons, List.length_nil, Nat.reduceAdd, Nat.reduceSub, Array.replicate_succ, Array.replicate_zero, List.push_toArray, List.append_toArray, List.nil_append, List.cons_append]
  have HF1 := Lib.hid (CBox.new W 47 #[.func (.yield l) #[] #[]])
  have bA := (Below.refl W.heap.size W).alloc (Nat.le_refl _) (.cells #[.func (.yield l) #[] #[]] 47)
  have HB1 := Lib.hid bA
  have HE1 := Lib.hid (HE.out.next bA)
  have HJ1 := Lib.hid (HJ.out.abide.new _ _ _ h0 bA)
  clear bA h0 HE
  obtain ⟨px, py, qx, qy, rx, ry, sx, sy⟩ := c
  unfold Crv.val at PC
  unfold Crv.arr at PC HE1
  dsimp only at PC HE1
  have x0 : (W.alloc (.cells #[.func (.yield l) #[] #[]] 47)).cell? ⟨be, 0, none⟩ = some (.int .i64 px) := HE1.out.c 0 rfl
  have x1 : (W.alloc (.cells #[.func (.yield l) #[] #[]] 47)).cell? ⟨be, 1, none⟩ = some (.int .i64 py) := HE1.out.c 1 rfl
  have x2 : (W.alloc (.cells #[.func (.yield l) #[] #[]] 47)).cell? ⟨be, 2, none⟩ = some (.int .i64 qx) := HE1.out.c 2 rfl
  have x3 : (W.alloc (.cells #[.func (.yield l) #[] #[]] 47)).cell? ⟨be, 3, none⟩ = some (.int .i64 qy) := HE1.out.c 3 rfl
  have x4 : (W.alloc (.cells #[.func (.yield l) #[] #[]] 47)).cell? ⟨be, 4, none⟩ = some (.int .i64 rx) := HE1.out.c 4 rfl
  have x5 : (W.alloc (.cells #[.func (.yield l) #[] #[]] 47)).cell? ⟨be, 5, none⟩ = some (.int .i64 ry) := HE1.out.c 5 rfl
  have x6 : (W.alloc (.cells #[.func (.yield l) #[] #[]] 47)).cell? ⟨be, 6, none⟩ = some (.int .i64 sx) := HE1.out.c 6 rfl
  have x7 : (W.alloc (.cells #[.func (.yield l) #[] #[]] 47)).cell? ⟨be, 7, none⟩ = some (.int .i64 sy) := HE1.out.c 7 rfl
  gi_wp2_with fail
  refine ⟨trivial, (PC.out _).mono ?_⟩
  clear x0 x1 x2 x3 x4 x5 x6 x7
  generalize (W.alloc (.cells #[.func (.yield l) #[] #[]] 47)) = W1 at *
  rintro o W2 ⟨gf, lb, a, b, rfl, eg, b2, ha, hb, hca, hfe⟩
  have HF2 := Lib.hid (HF1.out.next b2)
  have HJ2 := Lib.hid (HJ.out.abide.new _ _ _ HJ1.out b2)
  have s1 := HB1.out.size
  have s2 := b2.size
  have hlt : W.heap.size < W2.heap.size := HF2.out.lt
  have hfe5 := FeedsO.wideAny (n := 5) hfe
  generalize hRES : pieces12 20 ⟨px, py, qx, qy, rx, ry, sx, sy⟩ = RES at *
  have HRES := Lib.hid hRES
  have HA := Lib.hid (Nat.le_trans s1 ha)
  clear hfe PC HE1 HF1 HJ1 b2 hRES
  gi_wp2
  refine wpIn_feedsO (T := T12) (ca := a) (cb := b) (enc := encC) (RES := RES) rfl (by decide) (gf := gf) (lb := lb) rfl trivial eg
    hfe5 (Mid.refl _ _ _) hb (fun _ => rfl) (fun pre X => (J (pre.map endP) X ∧ CBox W.heap.size 47 #[.func (.yield l) #[] #[]] X) ∧ CellsAt a b 25 X) (fun c pre X => c = .ret ∧ Jx (pre.map endP) X)
    ((((HJ.out.later (Nat.le_of_lt hlt)).sub t12_sub).map (List.map endP)).and (abideO_box hlt) |>.and (abideO_cells hb)) (fun c => ((((HJX.out.later (Nat.le_of_lt hlt)).sub t12_sub).map (List.map endP)).pure (c = .ret))) ⟨⟨HJ2.out, HF2.out⟩, hca⟩
    (fun x a' X => ∃ Bx, CBox Bx 25 x.arr X ∧ a' = { tmps := #[.func (.yield l) #[] #[], .pointer (some ⟨be, 0, none⟩), .pointer (some ⟨W.heap.size, 0, none⟩), .pointer (some ⟨Bx, 0, none⟩), .agg #[.int .i64 px, .int .i64 py, .int .i64 qx, .int .i64 qy, .int .i64 rx, .int .i64 ry, .int .i64 sx, .int .i64 sy], .func (.func gf) #[] lb, x.val, undef, undef, undef, undef, undef], defers := [] }) ?own ?assign ?body ?done ?stop
  case own =>
    rintro x a' _ X X' row ⟨Bx, h1, h3⟩ hg hr
    exact ⟨Bx, h1.free hg (fun r e => (hr r e).2), h3⟩
  case assign =>
    rintro l' pre x X K hj hws hpx hK
    have z1 := CBox.new X 25 x.arr
    have z2 := (Below.refl X.heap.size X).alloc (Nat.le_refl _) (.cells x.arr 25)
    have hJ' := HJ.out.abide.new _ _ _ hj.1.1 z2
    have HJ3 := Lib.hid hJ'
    have HFX := Lib.hid (hj.1.2.next z2); have HCX := Lib.hid (CellsAt.next hj.2 z2)
    have HZ1 := Lib.hid z1; have HZ2 := Lib.hid z2; have HK := Lib.hid hK
    clear z1 z2 hj hK hJ'
    unfold encC
    obtain ⟨ax, ay, bx, by1, cx, cy, dx, dy⟩ := x
    unfold Crv.val at *
    unfold Crv.arr at *
    dsimp only at *
    gi_wp2
    exact HK.out _ _ ((KeepsOthers.alloc _ _).from _) (KeepsT.below HZ2.out (by omega)) ⟨⟨HJ3.out, HFX.out⟩, HCX.out⟩ ⟨_, HZ1.out, rfl⟩
  case body =>
    rintro l' pre x a' X hj ⟨Bx, hbx, rfl⟩ hws hpx
    have hmp : pre.map endP ++ [endP x] <+: RES.map endP := by
      have h := List.IsPrefix.map endP hpx
      simpa using h
    have YY := HY.out (pre.map endP) (endP x) X hj.1.1 (by omega) hmp
    have HFX := Lib.hid hj.1.2; have HCX := Lib.hid hj.2; have HBX := Lib.hid hbx
    have hmap : (pre ++ [x]).map endP = pre.map endP ++ [endP x] := by simp
    have HMP := Lib.hid hmap
    clear hmap hj hbx
    obtain ⟨fn, tmps, assign, body, hy, hR⟩ := YY
    have HR := Lib.hid hR
    clear hR
    obtain ⟨ax, ay, bx, by1, cx, cy, dx, dy⟩ := x
    unfold encQ endP at hy
    unfold Crv.arr at HBX
    unfold Crv.val Crv.arr
    dsimp only at *
    have f0 : X.cell? ⟨W.heap.size, 0, none⟩ = some (.func (.yield l) #[] #[]) := HFX.out.c 0 rfl
    have b6 : X.cell? ⟨Bx, 6, none⟩ = some (.int .i64 dx) := HBX.out.c 6 rfl
    have b7 : X.cell? ⟨Bx, 7, none⟩ = some (.int .i64 dy) := HBX.out.c 7 rfl
    gi_wp2_with fail
    refine (RoundIn.inRound l' (RoundIn.wideAny HR.out)).mono ?_
    rintro o X3 (⟨rfl, hJ3, hk3, kf3⟩ | ⟨rfl, hJx3, kf3⟩)
    · have HF3 := Lib.hid (show CBox W.heap.size 47 #[.func (.yield l) #[] #[]] X3 from hk3.priv _ _ _ _ (Nat.le_refl _) (by unfold T12p; decide) HFX.out)
      have HC3 := Lib.hid (show CellsAt a b 25 X3 from fun k h1 h2 => by
        obtain ⟨cs, z, hk⟩ := HCX.out k h1 h2
        exact ⟨cs, z, hk3.priv k _ _ _ (Nat.le_trans HA.out h1) (by unfold T12p; decide) hk⟩)
      have HM3 := Lib.hid (show Mid a b X X3 from mid_of_priv hk3 HA.out (fun k h1 h2 => by
        obtain ⟨cs, z, hk⟩ := HCX.out k h1 h2
        exact ⟨cs, _, z, by unfold T12p; decide, hk⟩))
      have HP3 := Lib.hid hk3.priv
      have HJ3 := Lib.hid hJ3; have KF3 := Lib.hid kf3
      clear hJ3 hk3 kf3 hy HR f0 b6 b7
      gi_wp2_with fail
      exact ⟨keepsFrom_later KF3.out (Nat.le_of_lt hlt), ⟨HM3.out, fun c t cs z hd ht hc => HP3.out c t cs z (Nat.le_trans (Nat.le_of_lt hlt) hd) ht.2 hc⟩, ⟨by rw [HMP.out]; exact HJ3.out, HF3.out⟩, HC3.out⟩
    · have HJ3 := Lib.hid hJx3; have KF3 := Lib.hid kf3
      clear hJx3 kf3 hy HR f0 b6 b7
      gi_wp2_with fail
      exact ⟨keepsFrom_later KF3.out (Nat.le_of_lt hlt), rfl, by rw [HMP.out]; exact HJ3.out⟩
  case done =>
    rintro D X hD h hK
    have HJD := Lib.hid (HJ.out.own.putObj (.deferred none) h.1.1 (by omega) hK rfl)
    have HKD := Lib.hid hK
    clear h hK
    gi_wp2_with fail
    refine ⟨by simp, .inl ⟨_, _, rfl, run_takeDeferred HKD.out, ?_⟩⟩
    exact ⟨_, results_none rfl _ _ _, ⟨_, rfl⟩, .inl (by rw [HRES.out]; exact HJD.out)⟩
  case stop =>
    rintro D c pre X hD hpre ⟨rfl, hjx⟩ hK
    have HJD := Lib.hid (HJX.out.own.putObj (.deferred none) hjx (by omega) hK rfl)
    have HKD := Lib.hid hK
    have HPR := Lib.hid (List.IsPrefix.map endP hpre)
    clear hjx hK hpre
    gi_wp2_with fail
    refine ⟨by simp, .inl ⟨_, _, rfl, run_takeDeferred HKD.out, ?_⟩⟩
    exact ⟨_, results_none rfl _ _ _, ⟨_, rfl⟩, .inr ⟨_, by rw [HRES.out]; exact HPR.out, HJD.out⟩⟩
set_option maxHeartbeats 1000000 in
theorem points_any (PI : PiecesOk) (c : Crv) (w : World) (hc : c.right) : Calls Try.prog 12 #[c.val] w (GivesIter T12p encQ ((pieces12 20 c).map endP) w) := by
  have HC := Lib.hid (CBox.new w 25 c.arr)
  have HB := Lib.hid ((Below.refl w.heap.size w).alloc (Nat.le_refl _) (.cells c.arr 25))
  have hF : ∀ W, CBox w.heap.size 25 c.arr W → FeedsO Try.prog T12p w.heap.size (w.heap.size + 1) encQ ((pieces12 20 c).map endP) Fence.wide 6 23 #[.pointer (some ⟨w.heap.size, 0, none⟩)] W :=
    fun W h => points_feed PI c hc w.heap.size _ _ W h (Nat.le_refl _) (Nat.lt_succ_self _) h.lt
  have HF := Lib.hid (hF _ HC.out)
  clear hF
  generalize ((pieces12 20 c).map endP) = RES at *
  obtain ⟨px, py, qx, qy, rx, ry, sx, sy⟩ := c
  unfold Crv.val
  unfold Crv.arr at *
  dsimp only at *
  go_enter Try.func12, Try.ntmps12
  go_wp2_with fail
  go_ret
  refine ⟨_, _, w.heap.size, w.heap.size + 1, rfl, enters_of Try.func23 (by kernel_rfl) rfl, HB.out, Nat.le_refl _, HC.out.lt, ⟨fun k h1 h2 => ?_, HF.out⟩⟩
  obtain rfl : k = w.heap.size := Nat.le_antisymm (Nat.lt_succ_iff.1 h2) h1
  exact ⟨_, _, HC.out⟩
end Go.Proofs.Ytgkjbmejfcijkaa
namespace Go.Proofs.Ytgkjbmejfcijkaa
open Go.RowKit Go.Shelf

/-- All blocks below D are as in W0, but for those of ex. -/
def Fixed (D : Nat) (ex : List Nat) (W0 X : World) : Prop := D ≤ X.heap.size ∧ ∀ k, k < D → k ∉ ex → X.heap[k]? = W0.heap[k]?
theorem Fixed.refl {D : Nat} {ex : List Nat} {W0 : World} (h : D ≤ W0.heap.size) : Fixed D ex W0 W0 := ⟨h, fun _ _ _ => rfl⟩
theorem abideO_fixed {β : Type} {T : TypeId → Prop} {D : Nat} {ex : List Nat} {W0 : World} : AbideO (β := β) T D (fun _ X => Fixed D ex W0 X) :=
  ⟨⟨fun _ _ _ h b => ⟨Nat.le_trans h.1 b.size, fun k hk he => (b.block k (Nat.lt_of_lt_of_le hk h.1)).trans (h.2 k hk he)⟩,
    fun _ _ _ q _ _ _ h hq _ _ B => ⟨Nat.le_trans h.1 B.size, fun k hk he => (B.block k (Nat.lt_of_lt_of_le hk h.1) (by omega)).trans (h.2 k hk he)⟩⟩,
   fun _ _ _ _ h hg hr => ⟨Nat.le_trans h.1 hg.size, fun k hk he => (hg.block k (Nat.lt_of_lt_of_le hk h.1) (fun e => by have := (hr k e.symm).1; omega)).trans (h.2 k hk he)⟩⟩
theorem Fixed.next {D : Nat} {ex : List Nat} {W0 X Y : World} (h : Fixed D ex W0 X) (b : Below X.heap.size X Y) : Fixed D ex W0 Y := ⟨Nat.le_trans h.1 b.size, fun k hk he => (b.block k (Nat.lt_of_lt_of_le hk h.1)).trans (h.2 k hk he)⟩
theorem Fixed.set {D n o : Nat} {ex : List Nat} {W0 X : World} (h : Fixed D ex W0 X) (hn : n ∈ ex) (v : Value) : Fixed D ex W0 (X.setCell ⟨n, o, none⟩ v) :=
  ⟨by have := h.1; simpa [World.setCell] using this, fun k hk he => (Below.heap_setCell _ _ _ _ (by exact fun e => he (e ▸ hn))).trans (h.2 k hk he)⟩
theorem Fixed.box {D n : Nat} {ex : List Nat} {W0 X : World} {t : TypeId} {cs : Array Value} (h : Fixed D ex W0 X) (hb : CBox n t cs W0) (hn : n < D) (he : n ∉ ex) : CBox n t cs X := (h.2 n hn he).trans hb
theorem Fixed.own {α : Type} {L : Lay8 α} {D R : Nat} {ex : List Nat} {W0 X : World} {v : Value} {l : List α} (h : Fixed D ex W0 X) (hr : L.own R v l W0) (hD : W0.heap.size ≤ D) (he : ∀ q, v.ownBlock = some q → q ∉ ex) : L.own R v l X :=
  hr.stay fun q hq => h.2 q (Nat.lt_of_lt_of_le (hr.type q hq).1 hD) (he q hq)
theorem Fixed.cells {D a b : Nat} {ex : List Nat} {t : TypeId} {W0 X : World} (h : Fixed D ex W0 X) (hc : CellsAt a b t W0) (hb : b ≤ D) (he : ∀ k ∈ ex, k < a ∨ b ≤ k) : CellsAt a b t X := fun k h1 h2 => by
  obtain ⟨cs, z, hk⟩ := hc k h1 h2
  exact ⟨cs, z, (h.2 k (by omega) (fun hx => by have := he k hx; omega)).trans hk⟩
/-- A round that writes variables of ex alone, and new ones. -/
structure Small12 (D : Nat) (ex : List Nat) (X Y : World) : Prop where
  size : X.heap.size ≤ Y.heap.size
  cell : ∀ k, k < X.heap.size → k ∉ ex → Y.heap[k]? = X.heap[k]?
theorem Small12.refl (D : Nat) (ex : List Nat) (X : World) : Small12 D ex X X := ⟨Nat.le_refl _, fun _ _ _ => rfl⟩
theorem Small12.below {D : Nat} {ex : List Nat} {X Y Z : World} (h : Small12 D ex X Y) (b : Below Y.heap.size Y Z) : Small12 D ex X Z := ⟨Nat.le_trans h.size b.size, fun k hk he => (b.block k (Nat.lt_of_lt_of_le hk h.size)).trans (h.cell k hk he)⟩
theorem Small12.set {D n o : Nat} {ex : List Nat} {X Y : World} (h : Small12 D ex X Y) (hn : n ∈ ex) (v : Value) : Small12 D ex X (Y.setCell ⟨n, o, none⟩ v) :=
  ⟨by have := h.size; simpa [World.setCell] using this, fun k hk he => (Below.heap_setCell _ _ _ _ (by exact fun e => he (e ▸ hn))).trans (h.cell k hk he)⟩
/-- What such a round keeps: the variables of ex are cells, and lie below D and outside of a to b. -/
theorem Small12.keeps {T : TypeId → Prop} {D a b : Nat} {ex : List Nat} {X Y : World} (h : Small12 D ex X Y) (hX : D ≤ X.heap.size) (hb : b ≤ D) (he : ∀ k ∈ ex, k < D ∧ (k < a ∨ b ≤ k)) : KeepsFrom D X Y ∧ KeepsT T a b D X Y :=
  ⟨⟨h.size, fun k o hk ho _ => (h.cell k (Array.getElem?_eq_some_iff.1 ho).1 (fun hx => by have := (he k hx).1; omega)).trans ho⟩,
   ⟨h.size, fun k h1 h2 => h.cell k (by omega) (fun hx => by have := (he k hx).2; omega)⟩, fun k _ _ _ hk _ hc => (h.cell k (Array.getElem?_eq_some_iff.1 hc).1 (fun hx => by have := (he k hx).1; omega)).trans hc⟩
end Go.Proofs.Ytgkjbmejfcijkaa
namespace Go.Proofs.Ytgkjbmejfcijkaa
open Go.RowKit Go.Shelf

theorem edg_one_in {F : Fence} {N : Nat} {ops : Array Oper} {rest : List Oper} {o : Oper} {a : Act} {Q : Exit → Act → World → Prop} (w : World) (hgd : o.guard = none) (s x : Operand)
    (ho : o.op = .call { callee := .builtin .append, args := #[s, x], argTypes := #[37, 37] }) {B n : Nat} {v : Value} {l : List Edg} (hn : w.heap.size = n) (g : Edg) (hown : edgL.own B v l w) (hs : a.eval s = v)
    (hx : a.eval x = .slice (some ⟨n, 0, none⟩) 1 1) (hk : l.length ≤ 100000000) (hB : B ≤ w.heap.size)
    (h : ∀ v' w', edgL.own B v' (l ++ [g]) w' → w.grownBy w' v.ownBlock → wpListIn F N Try.prog ops Q rest (a.put o.dst v') w') :
    wpListIn F N Try.prog ops Q (o :: rest) a (w.alloc (.cells g.arr 51)) := by
  obtain ⟨i0, hi, hz0, hz1, hz2⟩ := info_parts info_edg
  exact Lay8.one_in edgL w Try.underlying37 hi hz0 hz1 hz2 rfl (by decide) hgd s x ho hn g hown hs hx hk hB h
end Go.Proofs.Ytgkjbmejfcijkaa
namespace Go.Proofs.Ytgkjbmejfcijkaa
open Go.RowKit Go.Shelf

theorem flatK_one (l : List Crv) : ∀ u ∈ flatK l, u.oneCell' = true := by
  induction l with
  | nil => intro u h; cases h
  | cons g t ih =>
    intro u hu
    simp only [flatK, List.mem_append] at hu
    rcases hu with hu | hu
    · simp [Crv.lst] at hu; rcases hu with rfl | rfl | rfl | rfl | rfl | rfl | rfl | rfl <;> rfl
    · exact ih u hu
theorem own_cellK {W : World} {R : Nat} {e : TypeId} {sz k : Nat} {b off : Nat} {len cap : Nat} {xs : List Value} (h : W.ownsRow R e sz (.slice (some ⟨b, off, none⟩) len cap) k xs) {i : Nat} {u : Value} (hi : xs[i]? = some u) : W.cell? ⟨b, 0 + i, none⟩ = some u := by
  rcases h.2 with ⟨h0, _⟩ | ⟨g, cap', cur, hv, hR, hg, h1, h2, h3, h4⟩
  · cases h0
  · cases hv
    rw [Nat.zero_add]
    unfold World.cell?
    rw [hg]
    show cur[i]? = some u
    rw [← h4] at hi
    have := (List.getElem?_eq_some_iff.1 hi).1
    rw [List.length_take] at this
    rw [List.getElem?_take, if_pos (by omega)] at hi
    simpa using hi
theorem Crvs.cell {R b k cap : Nat} {l : List Crv} {W : World} (h : Crvs R (.slice (some ⟨b, 0, none⟩) k cap) l W) {j : Nat} {u : Value} (hj : (flatK l)[j]? = some u) : W.cell? ⟨b, j, none⟩ = some u := by
  have k := own_cellK h hj
  rwa [Nat.zero_add] at k
theorem Crvs.len {R k cap : Nat} {a : Option Addr} {l : List Crv} {W : World} (h : Crvs R (.slice a k cap) l W) : k = l.length := by
  rcases h.2 with ⟨h1, h2⟩ | ⟨g, c, cur, h1, _⟩
  · cases h1; omega
  · cases h1; rfl
theorem Crvs.shape {R : Nat} {v : Value} {l : List Crv} {W : World} (h : Crvs R v l W) : ∃ a cap, v = .slice a l.length cap ∧ l.length ≤ cap := by
  rcases h.2 with ⟨rfl, h2⟩ | ⟨g, c, cur, rfl, _, _, h1, _⟩
  · exact ⟨none, 0, by rw [h2], by omega⟩
  · exact ⟨_, _, rfl, h1⟩
/-- A row of the call's own behind another one. -/
theorem append_crvs {ops : Array Oper} {rest : List Oper} {o : Oper} {a : Act} {Q : Exit → Act → World → Prop} (w : World) (hw : Region.wanted o (yielded ops a.tmps) = true) (s x : Operand)
    (ho : o.op = .call { callee := .builtin .append, args := #[s, x], argTypes := #[28, 28] }) {B R : Nat} {v vx : Value} {l M : List Crv} (hown : Crvs B v l w) (hs : a.eval s = v) (hM : Crvs R vx M w) (hx : a.eval x = vx) (h0 : 0 < M.length) (hk : l.length + M.length ≤ 100000000) (hB : B ≤ w.heap.size)
    (h : ∀ v' w', Crvs B v' (l ++ M) w' → w.grownBy w' v.ownBlock → wpList Try.prog ops Q rest (a.put o.dst v') w') :
    wpList Try.prog ops Q (o :: rest) a w := by
  obtain ⟨i0, hi, hz0, hz1, hz2⟩ := info_parts info_crv
  obtain ⟨b, c, hv⟩ : ∃ b c, vx = .slice (some ⟨b, 0, none⟩) M.length c := by
    rcases hM.2 with ⟨_, h0'⟩ | ⟨g, cap', cur, hv, _⟩
    · omega
    · exact ⟨g, cap', hv⟩
  subst hv
  refine Go.BigFrame.wpList_want hw fun K hK => ?_
  refine wp_append_own _ s x 28 ho B 25 i0 _ 8 64 Try.underlying28 hi hz0 hz1 hz2 rfl (by decide) v l.length (flatK l) hs hown ⟨b, 0, none⟩ M.length c (flatK M) hx (flatK_len M) ?_ (flatK_one M) ?_ ?_ hB ?_
  · intro j u hj
    have hadd : (⟨b, 0, none⟩ : Addr).add j = ⟨b, j, none⟩ := by simp [Addr.add]; exact fun h => h.symm
    rw [hadd]; exact hM.cell hj
  · unfold maxLen; omega
  · omega
  · intro v' w' hown' hg _
    refine hK _ _ (h v' w' ?_ hg)
    unfold Crvs; rw [flatK_append, List.length_append]; exact hown'
/-- Nothing is appended. -/
theorem append_none {ops : Array Oper} {rest : List Oper} {o : Oper} {a : Act} {Q : Exit → Act → World → Prop} (w : World) (hw : Region.wanted o (yielded ops a.tmps) = true) (s x : Operand)
    (ho : o.op = .call { callee := .builtin .append, args := #[s, x], argTypes := #[28, 28] }) {B : Nat} {v : Value} {l : List Crv} (hown : Crvs B v l w) (hs : a.eval s = v) (hx : a.eval x = .slice none 0 0)
    (h : wpList Try.prog ops Q rest (a.put o.dst v) w) :
    wpList Try.prog ops Q (o :: rest) a w := by
  obtain ⟨i0, hi, _, _, _⟩ := info_parts info_crv
  obtain ⟨aa, cap, rfl, hle⟩ := hown.shape
  refine Go.BigFrame.wpList_want hw fun K hK => ?_
  have hr : (Builtin.append_ #[28, 28] o.type #[.slice aa l.length cap, .slice none 0 0]).run Try.prog w = .ok (.slice aa l.length cap) w :=
    run_append_nothing w _ _ o.type 25 i0 Try.underlying28 hi _ _ _ hle _ (Src.ofNil _ Try.underlying28 _)
  unfold Oper.wp execOp
  simp only [ho, resolve, invoke, builtin, Sem.run_bind, Sem.run_pure, Result.andThen_ok, List.map_toArray, List.map_cons, List.map_nil, hs, hx, hr]
  exact hK _ _ h
/-- A new box of one curve, as a row. -/
theorem Crvs.one (w : World) (g : Crv) {B : Nat} (hB : B ≤ w.heap.size) : Crvs B (.slice (some ⟨w.heap.size, 0, none⟩) 1 1) [g] (w.alloc (.cells g.arr 25)) :=
  ⟨by simp [flatK, Crv.lst], Or.inr ⟨w.heap.size, 1, g.arr, rfl, hB, World.alloc_heap_new w _, Nat.le_refl _, by decide, by rfl, by simp [flatK, Crv.lst, Crv.arr]⟩⟩
theorem Crvs.next {R : Nat} {v : Value} {l : List Crv} {W W' : World} (h : Crvs R v l W) (b : Below W.heap.size W W') : Crvs R v l W' := own_nextK h b
theorem Crvs.low {R R' : Nat} {v : Value} {l : List Crv} {W : World} (h : Crvs R v l W) (hR : R' ≤ R) : Crvs R' v l W := by
  refine ⟨h.1, ?_⟩
  rcases h.2 with h | ⟨g, cap, cur, h1, h2, h3⟩
  · exact .inl h
  · exact .inr ⟨g, cap, cur, h1, by omega, h3⟩
theorem Crvs.below {R : Nat} {v : Value} {l : List Crv} {W W' : World} (h : Crvs R v l W) (hg : W.grownBy W' v.ownBlock) (hR : R ≤ W.heap.size) : Below R W W' :=
  (Below.refl R W).grown hg (by omega) fun q hq => (h.lt q hq).1
end Go.Proofs.Ytgkjbmejfcijkaa
