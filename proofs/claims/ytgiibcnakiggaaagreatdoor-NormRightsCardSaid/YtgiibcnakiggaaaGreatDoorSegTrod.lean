/-
  Arguments that are segments: what a walk is told of them.
-/
import Derived.Test.YtgiibcnakiggaaaGreatDoorNormIn
import Derived.Test.YtgiibcnakiggaaaGreatDoorNormTrod
import Derived.Test.YtgiibcnakiggaaaGreatDoorNormRightM
import Derived.Deep.Slices
namespace Go.Proofs.YtgiibcnakiggaaaGreatDoor
open Go.ChangeShapes Go.WideShapes Go.ChangeAt Go.RowKit Go.Shelf Go.Joins Go.Deep

theorem int_cell {P : Program} {H : Type} {enc : TypeId × Value → H} {W : World} {base n : Nat} {sp : Nat → Bool} {held : Bool} {v : Value} {y : Option (DataW H × List MemPlace)} {t : TypeId} (ht : P.underlying t = some (.int .i64)) (h : DataW.trod enc P W base sp held n t [v] = y) (hy : y ≠ none) : ∃ z, v = .int .i64 z ∧ I64 z := by
  cases y with
  | none => exact absurd rfl hy
  | some y =>
    obtain ⟨z, ez, _, hw⟩ := DataW.trod_int ht h
    exact ⟨z, by simpa using ez, i64_wf hw⟩
theorem bool_cell {P : Program} {H : Type} {enc : TypeId × Value → H} {W : World} {base n : Nat} {sp : Nat → Bool} {held : Bool} {v : Value} {y : Option (DataW H × List MemPlace)} {t : TypeId} (ht : P.underlying t = some .bool) (h : DataW.trod enc P W base sp held n t [v] = y) (hy : y ≠ none) : ∃ z, v = .bool z := by
  cases y with
  | none => exact absurd rfl hy
  | some y =>
    obtain ⟨z, ez, _⟩ := DataW.trod_bool ht h
    exact ⟨z, by simpa using ez⟩
theorem point_cells {P : Program} {H : Type} {enc : TypeId × Value → H} {W : World} {base n : Nat} {sp : Nat → Bool} {held : Bool} {u v : Value} {y : Option (DataW H × List MemPlace)} {t : TypeId} {p0 p1 : Field} (ht : P.underlying t = some (.struct #[p0, p1])) (q : [p0, p1].map (fun f => (f.offset, P.cellsOf f.type, P.underlying f.type)) = [(0, 1, some (.int .i64)), (1, 1, some (.int .i64))])
    (h : DataW.trod enc P W base sp held n t [u, v] = y) (hy : y ≠ none) : ∃ a b, u = .int .i64 a ∧ v = .int .i64 b ∧ I64 a ∧ I64 b := by
  cases y with
  | none => exact absurd rfl hy
  | some y =>
    obtain ⟨xs, k, _, _, _, hxl, hf⟩ := DataW.trod_struct ht h
    simp only [List.map_cons, List.map_nil, List.cons.injEq, Prod.mk.injEq, and_true] at q
    obtain ⟨⟨a0, b0, c0⟩, a1, b1, c1⟩ := q
    have hxl' : xs.length = 2 := hxl
    have g0 := hf 0 p0 rfl
    have g1 := hf 1 p1 rfl
    rw [a0, b0] at g0
    rw [a1, b1] at g1
    have n0 : xs[0]? ≠ none := by rw [List.getElem?_eq_getElem (by omega)]; simp
    have n1 : xs[1]? ≠ none := by rw [List.getElem?_eq_getElem (by omega)]; simp
    obtain ⟨a, e0, i0⟩ := int_cell (v := u) c0 g0 n0
    obtain ⟨b, e1, i1⟩ := int_cell (v := v) c1 g1 n1
    exact ⟨a, b, e0, e1, i0, i1⟩
theorem list12 {α : Type} (l : List α) (h : l.length = 12) : ∃ a b c d e f g h i j k m, l = [a, b, c, d, e, f, g, h, i, j, k, m] := by
  match l, h with
  | [a, b, c, d, e, f, g, h, i, j, k, m], _ => exact ⟨a, b, c, d, e, f, g, h, i, j, k, m, rfl⟩
/-- One segment's cells. -/
theorem seg_cells {P : Program} {H : Type} {enc : TypeId × Value → H} {W : World} {base n : Nat} {sp : Nat → Bool} {held : Bool} {cs : List Value} {y : DataW H × List MemPlace} {t tp : TypeId} {g0 g1 g2 g3 g4 g5 g6 g7 g8 p0 p1 : Field}
    (hs : P.underlying t = some (.struct #[g0, g1, g2, g3, g4, g5, g6, g7, g8])) (hC : P.cellsOf t = 12)
    (ho : [g0, g1, g2, g3, g4, g5, g6, g7, g8].map (fun f => (f.offset, P.cellsOf f.type)) = [(0, 1), (1, 2), (3, 2), (5, 2), (7, 1), (8, 1), (9, 1), (10, 1), (11, 1)])
    (hT : [g0, g4, g5, g6, g7, g8].map (fun f => P.underlying f.type) = [some (.int .i64), some (.int .i64), some (.int .i64), some (.int .i64), some .bool, some .bool]) (hP : [g1, g2, g3].map (fun f => f.type) = [tp, tp, tp])
    (hp : P.underlying tp = some (.struct #[p0, p1])) (hq : [p0, p1].map (fun f => (f.offset, P.cellsOf f.type, P.underlying f.type)) = [(0, 1, some (.int .i64)), (1, 1, some (.int .i64))])
    (h : DataW.trod enc P W base sp held n t cs = some y) : ∃ g : Seg, cs = g.cells ∧ SegI g := by
  obtain ⟨xs, k, _, _, hl, hxl, hf⟩ := DataW.trod_struct hs h
  rw [hC] at hl
  have hxl' : xs.length = 9 := hxl
  obtain ⟨v0, v1, v2, v3, v4, v5, v6, v7, v8, v9, v10, v11, rfl⟩ := list12 cs hl
  simp only [List.map_cons, List.map_nil, List.cons.injEq, Prod.mk.injEq, and_true] at ho hT hP
  obtain ⟨⟨a0, b0⟩, ⟨a1, b1⟩, ⟨a2, b2⟩, ⟨a3, b3⟩, ⟨a4, b4⟩, ⟨a5, b5⟩, ⟨a6, b6⟩, ⟨a7, b7⟩, a8, b8⟩ := ho
  obtain ⟨t0, t4, t5, t6, t7, t8⟩ := hT
  obtain ⟨t1, t2, t3⟩ := hP
  have X : ∀ i, i < 9 → xs[i]? ≠ none := fun i hi => by rw [List.getElem?_eq_getElem (by omega)]; simp
  have f0 := hf 0 g0 rfl
  have f1 := hf 1 g1 rfl
  have f2 := hf 2 g2 rfl
  have f3 := hf 3 g3 rfl
  have f4 := hf 4 g4 rfl
  have f5 := hf 5 g5 rfl
  have f6 := hf 6 g6 rfl
  have f7 := hf 7 g7 rfl
  have f8 := hf 8 g8 rfl
  rw [a0, b0] at f0
  rw [a1, b1, t1] at f1
  rw [a2, b2, t2] at f2
  rw [a3, b3, t3] at f3
  rw [a4, b4] at f4
  rw [a5, b5] at f5
  rw [a6, b6] at f6
  rw [a7, b7] at f7
  rw [a8, b8] at f8
  obtain ⟨z0, rfl, i0⟩ := int_cell (v := v0) t0 f0 (X 0 (by decide))
  obtain ⟨z1, z2, rfl, rfl, i1, i2⟩ := point_cells (u := v1) (v := v2) hp hq f1 (X 1 (by decide))
  obtain ⟨z3, z4, rfl, rfl, i3, i4⟩ := point_cells (u := v3) (v := v4) hp hq f2 (X 2 (by decide))
  obtain ⟨z5, z6, rfl, rfl, i5, i6⟩ := point_cells (u := v5) (v := v6) hp hq f3 (X 3 (by decide))
  obtain ⟨z7, rfl, i7⟩ := int_cell (v := v7) t4 f4 (X 4 (by decide))
  obtain ⟨z8, rfl, i8⟩ := int_cell (v := v8) t5 f5 (X 5 (by decide))
  obtain ⟨z9, rfl, i9⟩ := int_cell (v := v9) t6 f6 (X 6 (by decide))
  obtain ⟨z10, rfl⟩ := bool_cell (v := v10) t7 f7 (X 7 (by decide))
  obtain ⟨z11, rfl⟩ := bool_cell (v := v11) t8 f8 (X 8 (by decide))
  exact ⟨⟨z0, z1, z2, z3, z4, z5, z6, z7, z8, z9, z10, z11⟩, rfl, i0, i1, i2, i3, i4, i5, i6, i7, i8, i9⟩
theorem range_seg (n : Nat) (f : Nat → Seg) (i : Nat) (hi : i < n) : ((List.range n).map f).getD i zeroS = f i := by simp [hi]
/-- An argument of type []api.Segment. -/
theorem segs_of_trod {P : Program} {H : Type} {enc : TypeId × Value → H} {W : World} {base : Nat} {v : Value} {d : DataW H} {p : List MemPlace} {u t tp : TypeId} {g0 g1 g2 g3 g4 g5 g6 g7 g8 p0 p1 : Field}
    (hu : P.underlying u = some (.slice t)) (hs : P.underlying t = some (.struct #[g0, g1, g2, g3, g4, g5, g6, g7, g8])) (hC : P.cellsOf t = 12)
    (ho : [g0, g1, g2, g3, g4, g5, g6, g7, g8].map (fun f => (f.offset, P.cellsOf f.type)) = [(0, 1), (1, 2), (3, 2), (5, 2), (7, 1), (8, 1), (9, 1), (10, 1), (11, 1)])
    (hT : [g0, g4, g5, g6, g7, g8].map (fun f => P.underlying f.type) = [some (.int .i64), some (.int .i64), some (.int .i64), some (.int .i64), some .bool, some .bool]) (hP : [g1, g2, g3].map (fun f => f.type) = [tp, tp, tp])
    (hp : P.underlying tp = some (.struct #[p0, p1])) (hq : [p0, p1].map (fun f => (f.offset, P.cellsOf f.type, P.underlying f.type)) = [(0, 1, some (.int .i64)), (1, 1, some (.int .i64))])
    (hok : Value.okWide P W .any base u v) (h : DataW.Trod enc P W 0 (fun _ => true) true u v d p) :
    ∃ (a : Option Addr) (l : List Seg) (cap : Nat), v = .slice a l.length cap ∧ l.length ≤ maxLen ∧ RdS a l W ∧ (∀ g ∈ l, SegI g) ∧ l.length ≤ cap := by
  obtain ⟨a0, len, cap, rfl⟩ := okWide_slice hu hok
  obtain ⟨fuel, hf⟩ := h
  rcases open_slice hu hf with ⟨hcs, hx⟩ | ⟨a, len', cap', m, n, D, Pl, hcs, _, hl, hm, hmm, hx, hcell⟩
  · simp [Value.cells] at hcs
    obtain ⟨rfl, rfl, rfl⟩ := hcs
    exact ⟨none, [], 0, rfl, Nat.zero_le _, Or.inl rfl, (fun g hg => by cases hg), Nat.le_refl _⟩
  · simp [Value.cells] at hcs
    obtain ⟨rfl, rfl, rfl⟩ := hcs
    simp only [if_true] at hmm
    rw [hC] at hcell
    have K : ∀ i, i < len → ∃ g : Seg, W.cells? 0 (a.add (i * 12)) 12 = some g.cells ∧ SegI g := by
      intro i hi
      obtain ⟨cs', h1, h2⟩ := hcell i (by omega)
      obtain ⟨g, rfl, hg⟩ := seg_cells hs hC ho hT hP hp hq h2
      exact ⟨g, h1, hg⟩
    obtain ⟨F, hF⟩ := choose_lt (α := Seg) K
    have hlen : ((List.range len).map F).length = len := by simp
    refine ⟨some a, (List.range len).map F, cap, by rw [hlen], by rw [hlen]; omega, ?_, ?_, by rw [hlen]; omega⟩
    · by_cases h0 : len = 0
      · left; rw [h0]; rfl
      · right
        obtain ⟨b, off, sp⟩ := a
        have C : ∀ i, i < len → ∀ j, j < 12 → W.cell? (((⟨b, off, sp⟩ : Addr).add (i * 12)).add j) = (F i).cells[j]? := fun i hi j hj => by
          obtain ⟨_, _, hc⟩ := World.cells?_some (hF i hi).1
          exact hc j hj
        have c0 := C 0 (by omega) 0 (by decide)
        have hsp : sp = none := by
          cases sp with
          | none => rfl
          | some x =>
            exfalso
            have c0' : W.cell? ⟨b, off, some x⟩ = some (Value.int .i64 (F 0).kind) := by simpa [Addr.add, Seg.cells] using c0
            simp only [World.cell?] at c0'
            split at c0' <;> simp at c0'
        subst hsp
        have hb : b < W.heap.size := by
          refine Nat.lt_of_not_le fun hge => ?_
          have hn : W.heap[b]? = none := by simp; omega
          have c0' : W.cell? ⟨b, off, none⟩ = some (Value.int .i64 (F 0).kind) := by simpa [Addr.add, Seg.cells] using c0
          simp [World.cell?, hn] at c0'
        refine ⟨b, off, rfl, hb, fun i hi => ?_⟩
        rw [hlen] at hi
        rw [range_seg len F i hi]
        have E : ∀ j, j < 12 → ∀ u, (F i).cells[j]? = some u → W.cell? ⟨b, off + i * 12 + j, none⟩ = some u := fun j hj u hu => by
          have := C i hi j hj
          rw [add_none, add_none, hu] at this
          exact this
        exact ⟨E 0 (by decide) _ rfl, E 1 (by decide) _ rfl, E 2 (by decide) _ rfl, E 3 (by decide) _ rfl, E 4 (by decide) _ rfl, E 5 (by decide) _ rfl, E 6 (by decide) _ rfl, E 7 (by decide) _ rfl, E 8 (by decide) _ rfl, E 9 (by decide) _ rfl, E 10 (by decide) _ rfl, E 11 (by decide) _ rfl⟩
    · intro g hg
      obtain ⟨i, hi, rfl⟩ := List.mem_map.1 hg
      exact (hF i (List.mem_range.1 hi)).2
end Go.Proofs.YtgiibcnakiggaaaGreatDoor
