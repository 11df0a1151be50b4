/-
  Arguments that are rows of edges: what a walk is told of them.
-/
import Derived.Test.YtejhegoegmoemaaPairTrod
import Derived.Test.YtejhegoegmoemaaEdgMem
namespace Go.Proofs.Ytejhegoegmoemaa
open Go.ChangeShapes Go.WideShapes Go.ChangeAt Go.RowKit Go.Shelf Go.Joins Go.Deep

theorem Lay8.flat_get {α : Type} (L : Lay8 α) {Q : Nat → Value → Prop} : ∀ (l : List α) (o : Nat), (∀ i g r u, l[i]? = some g → (L.cl g)[r]? = some u → Q (o + (i * L.sz + r)) u) → ∀ j u, (L.flat l)[j]? = some u → Q (o + j) u
  | [], _, _, j, u, hu => by simp [Lay8.flat] at hu
  | g :: t, o, h, j, u, hu => by
    rw [Lay8.flat] at hu
    by_cases hj : j < (L.cl g).length
    · rw [List.getElem?_append_left hj] at hu
      have := h 0 g j u rfl hu
      rwa [Nat.zero_mul, Nat.zero_add] at this
    · rw [List.getElem?_append_right (by omega)] at hu
      have k := Lay8.flat_get L (Q := Q) t (o + L.sz) (fun i g' r u' hi hr => by
        have := h (i + 1) g' r u' (by simpa using hi) hr
        rw [Nat.add_mul, Nat.one_mul] at this
        rwa [show o + L.sz + (i * L.sz + r) = o + (i * L.sz + L.sz + r) from by omega]) _ u hu
      rw [L.len] at k hj
      rwa [show o + L.sz + (j - L.sz) = o + j from by omega] at k
theorem addr_add4 (b off n : Nat) : (⟨b, off, none⟩ : Addr).add n = ⟨b, off + n, none⟩ := by
  by_cases h : n = 0
  · subst h; simp [Addr.add]
  · simp [Addr.add, h]
theorem list4 {α : Type} {l : List α} (h : l.length = 4) : ∃ a b c d, l = [a, b, c, d] := by
  match l, h with
  | [a, b, c, d], _ => exact ⟨a, b, c, d, rfl⟩
def EdgI (g : Edg) : Prop := (I64 g.px ∧ I64 g.py) ∧ (I64 g.qx ∧ I64 g.qy)
theorem edg_cells {P : Program} {H : Type} {enc : TypeId × Value → H} {W : World} {base n : Nat} {cs : List Value} {y : DataW H × List MemPlace} {t : TypeId} {g0 g1 f0 f1 : Field} (hs : P.underlying t = some (.struct #[g0, g1]))
    (q0 : g0.offset = 0) (q1 : g1.offset = 2) (hp : P.underlying g0.type = some (.struct #[f0, f1])) (hp2 : P.cellsOf g0.type = 2) (t1 : g1.type = g0.type)
    (o0 : f0.offset = 0) (o1 : f1.offset = 1) (k0 : P.cellsOf f0.type = 1) (k1 : P.cellsOf f1.type = 1) (h0 : P.underlying f0.type = some (.int .i64)) (h1 : P.underlying f1.type = some (.int .i64)) (hl : cs.length = 4)
    (h : DataW.trod enc P W base (fun _ => true) true n t cs = some y) : ∃ g : Edg, cs = g.lst ∧ EdgI g := by
  obtain ⟨c0, c1, c2, c3, rfl⟩ := list4 hl
  obtain ⟨y0, y1, n, e0, e1⟩ := trod_two8 hs h
  obtain ⟨a0, b0, rfl, rfl, ha0, hb0⟩ := two_cells (v0 := c0) (v1 := c1) hp o0 o1 k0 k1 h0 h1 (by simpa [q0, hp2] using e0)
  obtain ⟨a1, b1, rfl, rfl, ha1, hb1⟩ := two_cells (v0 := c2) (v1 := c3) hp o0 o1 k0 k1 h0 h1 (by simpa [q1, t1, hp2] using e1)
  exact ⟨⟨a0, b0, a1, b1⟩, rfl, ⟨ha0, hb0⟩, ha1, hb1⟩
/-- An argument of type []api.Edge. -/
theorem edgs_of_trod {P : Program} {H : Type} {enc : TypeId × Value → H} {W : World} {base : Nat} {v : Value} {d : DataW H} {p : List MemPlace} {u t : TypeId} {g0 g1 f0 f1 : Field}
    (hu : P.underlying u = some (.slice t)) (hs : P.underlying t = some (.struct #[g0, g1])) (hC : P.cellsOf t = 4)
    (q0 : g0.offset = 0) (q1 : g1.offset = 2) (hp : P.underlying g0.type = some (.struct #[f0, f1])) (hp2 : P.cellsOf g0.type = 2) (t1 : g1.type = g0.type)
    (o0 : f0.offset = 0) (o1 : f1.offset = 1) (k0 : P.cellsOf f0.type = 1) (k1 : P.cellsOf f1.type = 1) (h0 : P.underlying f0.type = some (.int .i64)) (h1 : P.underlying f1.type = some (.int .i64))
    (hok : Value.okWide P W .any base u v) (h : DataW.Trod enc P W 0 (fun _ => true) true u v d p) :
    ∃ (a : Option Addr) (l : List Edg) (cap : Nat), v = .slice a l.length cap ∧ l.length ≤ maxLen ∧ RdE a l W ∧ (∀ g ∈ l, EdgI g) ∧ l.length ≤ cap := by
  obtain ⟨a0, len, cap, rfl⟩ := okWide_slice hu hok
  obtain ⟨fuel, hf⟩ := h
  rcases open_slice hu hf with ⟨hcs, hx⟩ | ⟨a, len', cap', m, n, D, Pl, hcs, _, hl, hm, hmm, hx, hcell⟩
  · simp [Value.cells] at hcs
    obtain ⟨rfl, rfl, rfl⟩ := hcs
    exact ⟨none, [], 0, rfl, Nat.zero_le _, Or.inl rfl, (fun g hg => by cases hg), Nat.le_refl _⟩
  · simp [Value.cells] at hcs
    obtain ⟨rfl, rfl, rfl⟩ := hcs
    simp only [if_true] at hmm
    rw [hC] at hcell
    have K : ∀ i, i < len → ∃ g : Edg, W.cells? 0 (a.add (i * 4)) 4 = some g.lst ∧ EdgI g := by
      intro i hi
      obtain ⟨cs', h1', h2⟩ := hcell i (by omega)
      have hcl : cs'.length = 4 := by
        obtain ⟨xs, k, _, _, hcl, _, _⟩ := DataW.trod_struct hs h2
        rw [hC] at hcl; exact hcl
      obtain ⟨g, rfl, hg⟩ := edg_cells hs q0 q1 hp hp2 t1 o0 o1 k0 k1 h0 h1 hcl h2
      exact ⟨g, h1', hg⟩
    letI : Inhabited Edg := ⟨⟨0, 0, 0, 0⟩⟩
    obtain ⟨F, hF⟩ := choose_lt (α := Edg) K
    have hlen : ((List.range len).map F).length = len := by simp
    refine ⟨some a, (List.range len).map F, cap, by rw [hlen], by rw [hlen]; omega, ?_, ?_, by rw [hlen]; omega⟩
    · by_cases hz : len = 0
      · left; rw [hz]; rfl
      · right
        obtain ⟨b, off, sp⟩ := a
        have C : ∀ i, i < len → ∀ j, j < 4 → W.cell? (((⟨b, off, sp⟩ : Addr).add (i * 4)).add j) = (F i).lst[j]? := fun i hi j hj => by
          obtain ⟨_, _, hc⟩ := World.cells?_some (hF i hi).1
          exact hc j hj
        have c0 := C 0 (by omega) 0 (by decide)
        have hsp : sp = none := by
          cases sp with
          | none => rfl
          | some x =>
            exfalso
            have c0' : W.cell? ⟨b, off, some x⟩ = some (Value.int .i64 (F 0).px) := by simpa [Addr.add, Edg.lst] using c0
            simp only [World.cell?] at c0'
            split at c0' <;> simp at c0'
        subst hsp
        have hb : b < W.heap.size := by
          refine Nat.lt_of_not_le fun hge => ?_
          have hn : W.heap[b]? = none := by simp; omega
          have c0' : W.cell? ⟨b, off, none⟩ = some (Value.int .i64 (F 0).px) := by simpa [Addr.add, Edg.lst] using c0
          simp [World.cell?, hn] at c0'
        refine ⟨b, off, rfl, hb, fun j u hj => ?_⟩
        refine Lay8.flat_get edgL (Q := fun k u => W.cell? ⟨b, k, none⟩ = some u) _ off (fun i g r u hi hr => ?_) j u hj
        have hi2 : i < len := by
          have := (List.getElem?_eq_some_iff.1 hi).1
          rwa [hlen] at this
        have hr4 : r < 4 := (List.getElem?_eq_some_iff.1 hr).1
        have hg : g = F i := by
          have := List.getElem?_eq_some_iff.1 hi
          obtain ⟨_, h2⟩ := this
          simp at h2; exact h2.symm
        subst hg
        have hc := C i hi2 r hr4
        rw [addr_add4, addr_add4, Nat.add_assoc] at hc
        exact hc.trans hr
    · intro g hg
      obtain ⟨i, hi, rfl⟩ := List.mem_map.1 hg
      exact (hF i (List.mem_range.1 hi)).2
end Go.Proofs.Ytejhegoegmoemaa
