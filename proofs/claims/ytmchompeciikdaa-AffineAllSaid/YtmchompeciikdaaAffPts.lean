/-
  Points in a row, in memory: a row of the call's own, a row that is only read, an argument.
-/
import Derived.Test.YtmchompeciikdaaAffTrod
import Derived.Deep.AppendLies
import Derived.Deep.Slices
import Derived.OwnWalk
namespace Go.Proofs.Ytmchompeciikdaa
open Go.ChangeShapes Go.WideShapes Go.ChangeAt Go.RowKit Go.Shelf Go.Joins Go.Deep

abbrev Pt := Int × Int
def ptC (p : Pt) : List Value := [.int .i64 p.1, .int .i64 p.2]
def flatP : List Pt → List Value
  | [] => []
  | g :: t => ptC g ++ flatP t
theorem flatP_append (a b : List Pt) : flatP (a ++ b) = flatP a ++ flatP b := by
  induction a with
  | nil => rfl
  | cons g t ih => simp only [List.cons_append, flatP]; rw [ih, List.append_assoc]
theorem flatP_snoc (a : List Pt) (g : Pt) : flatP (a ++ [g]) = flatP a ++ ptC g := by rw [flatP_append]; simp [flatP]
theorem flatP_len (a : List Pt) : (flatP a).length = a.length * 2 := by
  induction a with
  | nil => rfl
  | cons g t ih => simp only [flatP, List.length_append, List.length_cons]; rw [ih]; simp [ptC]; omega
theorem flatP_at (l : List Pt) : ∀ (i : Nat) (g : Pt), l[i]? = some g → (flatP l)[i * 2]? = some (.int .i64 g.1) ∧ (flatP l)[i * 2 + 1]? = some (.int .i64 g.2) := by
  induction l with
  | nil => intro i g h; simp at h
  | cons x t ih =>
    intro i g h
    cases i with
    | zero =>
      obtain rfl : x = g := by simpa using h
      simp [flatP, ptC]
    | succ i =>
      have := ih i g (by simpa using h)
      simp only [flatP]
      have hx : (ptC x).length = 2 := rfl
      rw [List.getElem?_append_right (by rw [hx]; omega), List.getElem?_append_right (by rw [hx]; omega), hx, show (i + 1) * 2 - 2 = i * 2 from by omega, show (i + 1) * 2 + 1 - 2 = i * 2 + 1 from by omega]
      exact this
theorem flatP_set (l : List Pt) : ∀ (i : Nat) (g : Pt), i < l.length → ((flatP l).set (i * 2) (.int .i64 g.1)).set (i * 2 + 1) (.int .i64 g.2) = flatP (l.set i g) := by
  induction l with
  | nil => intro i g h; simp at h
  | cons x t ih =>
    intro i g h
    cases i with
    | zero => simp [flatP, ptC]
    | succ i =>
      have := ih i g (by simpa using h)
      simp only [flatP, List.set_cons_succ]
      have hx : (ptC x).length = 2 := rfl
      rw [← this, List.set_append_right _ _ (by rw [hx]; omega), List.set_append_right _ _ (by rw [hx]; omega), hx, show (i + 1) * 2 - 2 = i * 2 from by omega, show (i + 1) * 2 + 1 - 2 = i * 2 + 1 from by omega]

theorem own_type8 {W : World} {R : Nat} {e : TypeId} {sz : Nat} {v : Value} {k : Nat} {xs : List Value} (h : W.ownsRow R e sz v k xs) : ∀ q, v.ownBlock = some q → q < W.heap.size ∧ R ≤ q ∧ ∃ cur, W.heap[q]? = some (.cells cur e (0, 0)) := by
  intro q hq
  rcases h.2 with ⟨rfl, _⟩ | ⟨g, cap, cur, rfl, hb, hg, _⟩
  · simp [Value.ownBlock] at hq
  · obtain rfl : g = q := by simpa [Value.ownBlock] using hq
    exact ⟨(Array.getElem?_eq_some_iff.1 hg).1, hb, cur, hg⟩
theorem own_stay8 {W W' : World} {R : Nat} {e : TypeId} {sz : Nat} {v : Value} {k : Nat} {xs : List Value} (h : W.ownsRow R e sz v k xs) (hb : ∀ q, v.ownBlock = some q → W'.heap[q]? = W.heap[q]?) : W'.ownsRow R e sz v k xs := by
  refine ⟨h.1, ?_⟩
  rcases h.2 with h | ⟨g, cap, cur, rfl, hR, hg, h1, h2, h3, h4⟩
  · exact .inl h
  · exact .inr ⟨g, cap, cur, rfl, hR, (hb g rfl).trans hg, h1, h2, h3, h4⟩
theorem own_cell8 {W : World} {R : Nat} {e : TypeId} {sz k : Nat} {b off : Nat} {len cap : Nat} {xs : List Value} (h : W.ownsRow R e sz (.slice (some ⟨b, off, none⟩) len cap) k xs) {i : Nat} {u : Value} (hi : xs[i]? = some u) : W.cell? ⟨b, off + i, none⟩ = some u := by
  rcases h.2 with ⟨h0, _⟩ | ⟨g, cap', cur, hv, hR, hg, h1, h2, h3, h4⟩
  · cases h0
  · cases hv
    rw [Nat.zero_add]
    unfold World.cell?
    rw [hg]
    show cur[i]? = some u
    rw [← h4] at hi
    have := (List.getElem?_eq_some_iff.1 hi).1
    rw [List.length_take] at this
    rw [List.getElem?_take, if_pos (by omega)] at hi
    simpa using hi

/-- A row of points of the call's own. -/
def Pts (R : Nat) (v : Value) (l : List Pt) (w : World) : Prop := w.ownsRow R 25 2 v l.length (flatP l)
theorem Pts.nil (R : Nat) (w : World) : Pts R (.slice none 0 0) [] w := World.ownsRow_nil _ _ _ _
theorem Pts.shape {R : Nat} {v : Value} {l : List Pt} {w : World} (h : Pts R v l w) : ∃ a cap, v = .slice a l.length cap := by
  rcases h.2 with ⟨rfl, h3⟩ | ⟨g, cap', cur, rfl, _⟩
  · exact ⟨none, 0, by rw [h3]⟩
  · exact ⟨_, _, rfl⟩
theorem Pts.lower {R R' : Nat} {v : Value} {l : List Pt} {w : World} (h : Pts R v l w) (hb : R' ≤ R) : Pts R' v l w := by
  refine ⟨h.1, ?_⟩
  rcases h.2 with h | ⟨g, cap, cur, rfl, hR, hg, h1, h2, h3, h4⟩
  · exact .inl h
  · exact .inr ⟨g, cap, cur, rfl, Nat.le_trans hb hR, hg, h1, h2, h3, h4⟩
theorem Pts.next {R : Nat} {v : Value} {l : List Pt} {w w' : World} (h : Pts R v l w) (t : Below w.heap.size w w') : Pts R v l w' :=
  own_stay8 h fun q hq => t.block q (own_type8 h q hq).1
theorem Pts.drew {R : Nat} {u : Value} {l : List Pt} {w : World} (hr : Pts R u l w) : Pts R u l w.drew := own_stay8 hr fun _ _ => rfl
/-- A point lies at a place. -/
structure PtAt (b o : Nat) (g : Pt) (w : World) : Prop where
  c0 : w.cell? ⟨b, o, none⟩ = some (.int .i64 g.1)
  c1 : w.cell? ⟨b, o + 1, none⟩ = some (.int .i64 g.2)
theorem PtAt.below {b o : Nat} {g : Pt} {w w' : World} (h : PtAt b o g w) (t : Below w.heap.size w w') (hb : b < w.heap.size) : PtAt b o g w' :=
  ⟨(t.cell (p := ⟨b, o, none⟩) hb).trans h.c0, (t.cell (p := ⟨b, o + 1, none⟩) hb).trans h.c1⟩
/-- The live cells of a slice of points. -/
def RdP (a : Option Addr) (l : List Pt) (w : World) : Prop :=
  l = [] ∨ ∃ b off : Nat, a = some ⟨b, off, none⟩ ∧ b < w.heap.size ∧ ∀ i, i < l.length → PtAt b (off + i * 2) (l.getD i (0, 0)) w
theorem RdP.next {a : Option Addr} {l : List Pt} {w w' : World} (h : RdP a l w) (t : Below w.heap.size w w') : RdP a l w' := by
  rcases h with h | ⟨b, off, ha, hlt, hc⟩
  · exact .inl h
  · exact .inr ⟨b, off, ha, Nat.lt_of_lt_of_le hlt t.size, fun i hi => (hc i hi).below t hlt⟩
theorem RdP.pos {a : Option Addr} {l : List Pt} {w : World} (h : RdP a l w) (hl : 0 < l.length) : ∃ b off : Nat, a = some ⟨b, off, none⟩ ∧ b < w.heap.size ∧ ∀ i, i < l.length → PtAt b (off + i * 2) (l.getD i (0, 0)) w := by
  rcases h with rfl | h
  · exact absurd hl (by decide)
  · exact h
/-- A row of the call's own is read. -/
theorem Pts.reads {R : Nat} {v : Value} {l : List Pt} {w : World} (h : Pts R v l w) : ∃ a cap, v = .slice a l.length cap ∧ RdP a l w ∧ l.length ≤ cap := by
  obtain ⟨a, cap, rfl⟩ := h.shape
  have hcap : l.length ≤ cap := by
    rcases h.2 with ⟨_, h3⟩ | ⟨g, cap', cur, hv, hR, hg, h1, _⟩
    · omega
    · cases hv; exact h1
  refine ⟨a, cap, rfl, ?_, hcap⟩
  have h' := h
  rcases h'.2 with ⟨_, h3⟩ | ⟨g, cap', cur, hv, hR, hg, h1, _⟩
  · left; exact List.length_eq_zero_iff.1 h3
  · cases hv
    refine .inr ⟨g, 0, rfl, (Array.getElem?_eq_some_iff.1 hg).1, fun i hi => ?_⟩
    obtain ⟨e0, e1⟩ := flatP_at l i (l.getD i (0, 0)) (by simp [List.getD, List.getElem?_eq_getElem hi])
    have c0 := own_cell8 h e0
    have c1 := own_cell8 h e1
    exact ⟨c0, by rw [Nat.add_assoc]; exact c1⟩
theorem info_pt : (Try.prog.info? 25).map (fun i => (i.zero, i.size, i.bytes)) = some (some (.agg #[.int .i64 0, .int .i64 0]), 2, 16) := by kernel_rfl
theorem range_pt (n : Nat) (f : Nat → Pt) (i : Nat) (hi : i < n) : ((List.range n).map f).getD i (0, 0) = f i := by simp [hi]
theorem add_none (b off n : Nat) : (⟨b, off, none⟩ : Addr).add n = ⟨b, off + n, none⟩ := by
  by_cases h : n = 0
  · subst h; simp [Addr.add]
  · simp [Addr.add, h]
/-- An argument of type []api.Point. -/
theorem pts_of_trod {P : Program} {H : Type} {enc : TypeId × Value → H} {W : World} {base : Nat} {v : Value} {d : DataW H} {p : List MemPlace} {u t : TypeId} {g0 g1 : Field}
    (hu : P.underlying u = some (.slice t)) (hs : P.underlying t = some (.struct #[g0, g1])) (hC : P.cellsOf t = 2) (ho : [g0, g1].map (fun f => (f.offset, P.cellsOf f.type, P.underlying f.type)) = [(0, 1, some (.int .i64)), (1, 1, some (.int .i64))])
    (hok : Value.okWide P W .any base u v) (h : DataW.Trod enc P W 0 (fun _ => true) true u v d p) :
    ∃ (a : Option Addr) (l : List Pt) (cap : Nat), v = .slice a l.length cap ∧ l.length ≤ maxLen ∧ RdP a l W ∧ (∀ g ∈ l, I64 g.1 ∧ I64 g.2) ∧ l.length ≤ cap := by
  obtain ⟨a0, len, cap, rfl⟩ := okWide_slice hu hok
  obtain ⟨fuel, hf⟩ := h
  simp only [List.map_cons, List.map_nil, List.cons.injEq, Prod.mk.injEq, and_true] at ho
  obtain ⟨⟨o0, k0, t0⟩, o1, k1, t1⟩ := ho
  rcases open_slice hu hf with ⟨hcs, hx⟩ | ⟨a, len', cap', m, n, D, Pl, hcs, _, hl, hm, hmm, hx, hcell⟩
  · simp [Value.cells] at hcs
    obtain ⟨rfl, rfl, rfl⟩ := hcs
    exact ⟨none, [], 0, rfl, Nat.zero_le _, Or.inl rfl, (fun g hg => by cases hg), Nat.le_refl _⟩
  · simp [Value.cells] at hcs
    obtain ⟨rfl, rfl, rfl⟩ := hcs
    simp only [if_true] at hmm
    rw [hC] at hcell
    have K : ∀ i, i < len → ∃ g : Pt, W.cells? 0 (a.add (i * 2)) 2 = some (ptC g) ∧ I64 g.1 ∧ I64 g.2 := by
      intro i hi
      obtain ⟨cs', h1, h2⟩ := hcell i (by omega)
      obtain ⟨xs, k, _, _, hcl, hxl, hff⟩ := DataW.trod_struct hs h2
      rw [hC] at hcl
      have hxl' : xs.length = 2 := hxl
      match cs', hcl with
      | [v0, v1], _ =>
        have f0 := hff 0 g0 rfl
        have f1 := hff 1 g1 rfl
        rw [o0, k0] at f0
        rw [o1, k1] at f1
        rw [List.getElem?_eq_getElem (by omega)] at f0 f1
        obtain ⟨x, e0, i0⟩ := num_cell (v := v0) t0 f0
        obtain ⟨y, e1, i1⟩ := num_cell (v := v1) t1 f1
        subst e0 e1
        exact ⟨(x, y), h1, i0, i1⟩
    obtain ⟨F, hF⟩ := choose_lt (α := Pt) K
    have hlen : ((List.range len).map F).length = len := by simp
    refine ⟨some a, (List.range len).map F, cap, by rw [hlen], by rw [hlen]; omega, ?_, ?_, by rw [hlen]; omega⟩
    · by_cases h0 : len = 0
      · left; rw [h0]; rfl
      · right
        obtain ⟨b, off, sp⟩ := a
        have C : ∀ i, i < len → ∀ j, j < 2 → W.cell? (((⟨b, off, sp⟩ : Addr).add (i * 2)).add j) = (ptC (F i))[j]? := fun i hi j hj => by
          obtain ⟨_, _, hc⟩ := World.cells?_some (hF i hi).1
          exact hc j hj
        have c0 := C 0 (by omega) 0 (by decide)
        have hsp : sp = none := by
          cases sp with
          | none => rfl
          | some x =>
            exfalso
            have c0' : W.cell? ⟨b, off, some x⟩ = some (Value.int .i64 (F 0).1) := by simpa [Addr.add, ptC] using c0
            simp only [World.cell?] at c0'
            split at c0' <;> simp at c0'
        subst hsp
        have hb : b < W.heap.size := by
          refine Nat.lt_of_not_le fun hge => ?_
          have hn : W.heap[b]? = none := by simp; omega
          have c0' : W.cell? ⟨b, off, none⟩ = some (Value.int .i64 (F 0).1) := by simpa [Addr.add, ptC] using c0
          simp [World.cell?, hn] at c0'
        refine ⟨b, off, rfl, hb, fun i hi => ?_⟩
        rw [hlen] at hi
        rw [range_pt len F i hi]
        have E : ∀ j, j < 2 → ∀ u, (ptC (F i))[j]? = some u → W.cell? ⟨b, off + i * 2 + j, none⟩ = some u := fun j hj u hu => by
          have := C i hi j hj
          rw [add_none, add_none, hu] at this
          exact this
        exact ⟨E 0 (by decide) _ rfl, E 1 (by decide) _ rfl⟩
    · intro g hg
      obtain ⟨i, hi, rfl⟩ := List.mem_map.1 hg
      exact (hF i (List.mem_range.1 hi)).2
end Go.Proofs.Ytmchompeciikdaa
