/-
  What All answers, by plain mathematics; rows of points that are made, filled, appended to.
-/
import Derived.Test.YtmchompeciikdaaAffPts
import Derived.Test.YtmchompeciikdaaAffThenM
namespace Go.Proofs.Ytmchompeciikdaa
open Go.RowKit Go.Shelf

/-- Has the point no error? Where it goes; its error's number. -/
def okP (m : Mtx) (p : Pt) : Prop := (applyS m p.1 p.2).2 = 0
instance (m : Mtx) (p : Pt) : Decidable (okP m p) := by unfold okP; infer_instance
def imgP (m : Mtx) (p : Pt) : Pt := (applyS m p.1 p.2).1
def errP (m : Mtx) (p : Pt) : Int := (applyS m p.1 p.2).2
/-- What All answers: the points, and 0, 1 or 2. -/
def allA (m : Mtx) (l : List Pt) : List Pt × Int :=
  if m.right then (match l.find? (fun p => !decide (okP m p)) with
    | none => (l.map (imgP m), 0)
    | some p => ([], errP m p)) else ([], 1)
theorem apply_is {m : Mtx} {p : Pt} (h : okP m p) : applyS m p.1 p.2 = (((imgP m p).1, (imgP m p).2), 0) := by
  unfold okP at h
  unfold imgP
  generalize applyS m p.1 p.2 = r at *
  obtain ⟨⟨a, b⟩, c⟩ := r
  simp only at h
  rw [h]
theorem all_wrong {m : Mtx} (h : ¬ m.right) (l : List Pt) : allA m l = ([], 1) := by unfold allA; rw [if_neg h]
theorem all_end {m : Mtx} (hm : m.right) {l : List Pt} (h : ∀ p ∈ l, okP m p) : allA m l = (l.map (imgP m), 0) := by
  unfold allA
  rw [if_pos hm]
  have e : l.find? (fun p => !decide (okP m p)) = none := by
    rw [List.find?_eq_none]; intro p hp; simp [h p hp]
  rw [e]
theorem all_stop {m : Mtx} (hm : m.right) {l : List Pt} {k : Nat} (hk : k < l.length) (h : ∀ p ∈ l.take k, okP m p) (hn : ¬ okP m (l.getD k (0, 0))) : allA m l = ([], errP m (l.getD k (0, 0))) := by
  unfold allA
  rw [if_pos hm]
  have eg : l.getD k (0, 0) = l[k] := by simp [List.getD, List.getElem?_eq_getElem hk]
  rw [eg] at hn ⊢
  have e : l.find? (fun p => !decide (okP m p)) = some l[k] := by
    have hs : l.take k ++ l[k] :: l.drop (k + 1) = l := by rw [← List.drop_eq_getElem_cons hk, List.take_append_drop]
    generalize l[k] = x at *
    calc l.find? (fun p => !decide (okP m p)) = (l.take k ++ x :: l.drop (k + 1)).find? (fun p => !decide (okP m p)) := by rw [hs]
      _ = some x := by
        rw [List.find?_append, List.find?_eq_none.2 (by intro p hp; simp [h p hp])]
        simp [hn]
  rw [e]
theorem all_zero (m : Mtx) (l : List Pt) (h : (allA m l).2 ≠ 0) : (allA m l).1 = [] := by
  unfold allA at *
  split at h
  · rename_i h1
    rw [if_pos h1]
    split at h
    · exact absurd rfl h
    · rfl
  · rename_i h1; rw [if_neg h1]
theorem take_ok {m : Mtx} {l : List Pt} {k : Nat} (hk : k < l.length) (h : ∀ p ∈ l.take k, okP m p) (hn : okP m (l.getD k (0, 0))) : ∀ p ∈ l.take (k + 1), okP m p := by
  have eg : l.getD k (0, 0) = l[k] := by simp [List.getD, List.getElem?_eq_getElem hk]
  rw [eg] at hn
  rw [List.take_succ_eq_append_getElem hk]
  intro p hp
  rcases List.mem_append.1 hp with hp | hp
  · exact h p hp
  · rw [List.mem_singleton.1 hp]; exact hn
/-- The row while it is filled. -/
def fillP (m : Mtx) (l : List Pt) (k : Nat) : List Pt := (l.take k).map (imgP m) ++ List.replicate (l.length - k) (0, 0)
theorem fillP_len (m : Mtx) (l : List Pt) (k : Nat) (h : k ≤ l.length) : (fillP m l k).length = l.length := by simp [fillP]; omega
theorem fillP_zero (m : Mtx) (l : List Pt) : fillP m l 0 = List.replicate l.length (0, 0) := by simp [fillP]
theorem fillP_end (m : Mtx) (l : List Pt) : fillP m l l.length = l.map (imgP m) := by simp [fillP]
theorem fillP_next (m : Mtx) (l : List Pt) (k : Nat) (h : k < l.length) : (fillP m l k).set k (imgP m (l.getD k (0, 0))) = fillP m l (k + 1) := by
  unfold fillP
  have eg : l.getD k (0, 0) = l[k] := by simp [List.getD, List.getElem?_eq_getElem h]
  rw [eg]
  obtain ⟨j, hj⟩ : ∃ j, l.length - k = j + 1 := ⟨l.length - k - 1, by omega⟩
  rw [hj, show l.length - (k + 1) = j from by omega, List.take_succ_eq_append_getElem h, List.map_append, List.replicate_succ]
  have hl : ((l.take k).map (imgP m)).length = k := by simp; omega
  rw [List.set_append_right _ _ (by omega), hl, Nat.sub_self]
  simp
theorem flat_zero (n : Nat) : flatP (List.replicate n (0, 0)) = List.replicate (n * 2) (.int .i64 0) := by
  induction n with
  | zero => rfl
  | succ n ih =>
    rw [List.replicate_succ, show (n + 1) * 2 = n * 2 + 1 + 1 from by omega, List.replicate_succ, List.replicate_succ]
    simp only [flatP]
    rw [ih]; rfl
theorem made_pts (n : Nat) : (madeCells (Value.cells (.agg #[.int .i64 0, .int .i64 0])) (n * 2)).toList = flatP (List.replicate n (0, 0)) := by
  rw [flat_zero]
  apply List.ext_getElem?
  intro j
  by_cases hj : j < n * 2
  · have h2 : j % 2 = 0 ∨ j % 2 = 1 := by omega
    rcases h2 with h2 | h2 <;> simp [madeCells, Value.cells, hj, h2]
  · simp [madeCells, Value.cells, hj]
theorem make_pts {ops : Array Oper} {rest : List Oper} {o : Oper} {a : Act} {Q : Exit → Act → World → Prop} (w : World) (hg : o.guard = none) (l c : Operand) (hop : o.op = Op.makeSlice 36 l c)
    (n : Nat) (L : Int) (hl : a.eval l = .int .i64 L) (hc : a.eval c = .int .i64 L) (hL : L = (n : Int)) (hn : n ≤ 1000000000)
    (hK : ∀ w', Pts w.heap.size (.slice (some ⟨w.heap.size, 0, none⟩) n n) (List.replicate n (0, 0)) w' → Below w.heap.size w w' → w.heap.size < w'.heap.size → wpList Try.prog ops Q rest (a.put o.dst (.slice (some ⟨w.heap.size, 0, none⟩) n n)) w') :
    wpList Try.prog ops Q (o :: rest) a w := by
  obtain ⟨i0, hi, hz0, hz1, hz2⟩ := info_parts info_pt
  refine wpList_make_full w hg l c 36 hop w.heap.size 25 i0 (.agg #[.int .i64 0, .int .i64 0]) 2 Try.underlying36 hi hz0 hz1 .i64 .i64 L L n hl hc hL hL (by rw [hz2]; omega) (by unfold maxLen; omega) (Nat.le_refl _) ?_
  intro w' hown hgr
  have hown' : Pts w.heap.size (.slice (some ⟨w.heap.size, 0, none⟩) n n) (List.replicate n (0, 0)) w' := by
    unfold Pts; rw [← made_pts, List.length_replicate]; exact hown
  exact hK w' hown' ((Below.refl _ _).grown hgr (Nat.le_refl _) (fun k hk => by cases hk)) (own_type8 hown' _ rfl).1
/-- One point is stored into a made row. -/
theorem pts_set {w : World} {B g n : Nat} {l : List Pt} (h : Pts B (.slice (some ⟨g, 0, none⟩) n n) l w) (hl : l.length = n) (k : Nat) (hk : k < n) (p : Pt) :
    Pts B (.slice (some ⟨g, 0, none⟩) n n) (l.set k p) ((w.setCell ⟨g, k * 2, none⟩ (.int .i64 p.1)).setCell ⟨g, k * 2 + 1, none⟩ (.int .i64 p.2)) := by
  subst hl
  unfold Pts at *
  have h1 := (h.stored (k * 2) (.int .i64 p.1)).1
  have h2 := (h1.stored (k * 2 + 1) (.int .i64 p.2)).1
  rw [flatP_set l k p hk] at h2
  rw [List.length_set]
  exact h2
theorem pts_cells {w : World} {B g n : Nat} {l : List Pt} (h : Pts B (.slice (some ⟨g, 0, none⟩) n n) l w) (hl : l.length = n) (k : Nat) (hk : k < n) :
    (∃ x : Int, w.cell? ⟨g, k * 2, none⟩ = some (.int .i64 x)) ∧ (∃ x : Int, w.cell? ⟨g, k * 2 + 1, none⟩ = some (.int .i64 x)) ∧ w.frozen? ⟨g, k * 2, none⟩ = false ∧ w.frozen? ⟨g, k * 2 + 1, none⟩ = false := by
  subst hl
  obtain ⟨e0, e1⟩ := flatP_at l k (l.getD k (0, 0)) (by simp [List.getD, List.getElem?_eq_getElem hk])
  have c0 := own_cell8 h e0
  have c1 := own_cell8 h e1
  rw [Nat.zero_add] at c0 c1
  exact ⟨⟨_, c0⟩, ⟨_, c1⟩, h.frozenAt _, h.frozenAt _⟩
theorem Pts.set {R q : Nat} {u : Value} {l : List Pt} {w : World} (hr : Pts R u l w) (hn : q < R) (o : Nat) (v : Value) : Pts R u l (w.setCell ⟨q, o, none⟩ v) :=
  own_stay8 hr fun k hk => Below.heap_setCell _ _ _ _ (by have := (own_type8 hr k hk).2.1; exact Nat.ne_of_gt (Nat.lt_of_lt_of_le hn this))
/-- One more point is appended. -/
theorem append_pt {ops : Array Oper} {rest : List Oper} {o : Oper} {a : Act} {Q : Exit → Act → World → Prop} (w : World) (hgd : o.guard = none) (s x : Operand)
    (ho : o.op = .call { callee := .builtin .append, args := #[s, x], argTypes := #[36, 36] }) {B : Nat} {v : Value} {l : List Pt} {n : Nat} (hn : w.heap.size = n) (p q : Int) (hown : Pts B v l w) (hs : a.eval s = v)
    (hx : a.eval x = .slice (some ⟨n, 0, none⟩) 1 1) (hk : l.length ≤ 1000000000) (hB : B ≤ w.heap.size)
    (h : ∀ v' w', Pts B v' (l ++ [(p, q)]) w' → w.grownBy w' v.ownBlock → wpList Try.prog ops Q rest (a.put o.dst v') w') :
    wpList Try.prog ops Q (o :: rest) a (w.alloc (.cells #[.int .i64 p, .int .i64 q] 25)) := by
  subst hn
  obtain ⟨i0, hi, hz0, hz1, hz2⟩ := info_parts info_pt
  refine wpList_append_own _ hgd s x 36 ho B 25 i0 (.agg #[.int .i64 0, .int .i64 0]) 2 16 Try.underlying36 hi hz0 hz1 hz2 rfl (by decide) v l.length (flatP l) hs (hown.alloc _) ⟨w.heap.size, 0, none⟩ 1 1 [.int .i64 p, .int .i64 q] hx rfl ?_ ?_ ?_ ?_ ?_ ?_
  · intro j u hj
    match j, hj with
    | 0, hj => simp at hj; subst hj; simp [Addr.add]
    | 1, hj =>
      simp at hj; subst hj
      have hn : (w.alloc (.cells #[.int .i64 p, .int .i64 q] 25)).heap[w.heap.size]? = some (.cells #[.int .i64 p, .int .i64 q] 25 (0, 0)) := World.alloc_heap_new w _
      show World.cell? _ ⟨w.heap.size, 0 + 1, none⟩ = _
      unfold World.cell?
      rw [hn]; rfl
  · intro u hu; simp at hu; rcases hu with rfl | rfl <;> rfl
  · unfold maxLen; omega
  · omega
  · simp; omega
  · intro v' w' hown' hg _
    refine h v' w' ?_ ?_
    · unfold Pts; rw [flatP_snoc, List.length_append]; exact hown'
    · exact ⟨hg.os, hg.tape, hg.output, Nat.le_trans (by simp) hg.size, fun k hk hne => (hg.block k (by simp; omega) hne).trans (Below.heap_alloc _ _ _ hk)⟩
end Go.Proofs.Ytmchompeciikdaa
