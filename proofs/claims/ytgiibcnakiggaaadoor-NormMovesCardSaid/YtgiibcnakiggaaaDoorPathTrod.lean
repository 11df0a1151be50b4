/-
  Arguments that are commands: what a walk is told of them.
-/
import Derived.Test.YtgiibcnakiggaaaDoorPathRd
import Derived.Lib.SmallJoins
import Derived.Deep.SlicePairs
namespace Go.Proofs.YtgiibcnakiggaaaDoor
open Go.ChangeShapes Go.WideShapes Go.ChangeAt Go.RowKit Go.Shelf Go.Joins Go.Deep

/-- A cell that holds a slice of numbers. -/
theorem intsK_raw {P : Program} {H : Type} {enc : TypeId × Value → H} {W : World} {base n : Nat} {v : Value} {y : DataW H × List MemPlace} {t e : TypeId} {k : IntKind} (ht : P.underlying t = some (.slice e)) (he : P.underlying e = some (.int k)) (hc : P.cellsOf e = 1)
    (hf : DataW.trod enc P W base (fun _ => true) true n t [v] = some y) :
    ∃ (a : Option Addr) (zs : List Int) (cap : Nat), v = .slice a zs.length cap ∧ zs.length ≤ maxLen ∧ IntsK k a zs W := by
  rcases open_ints ht he hc hf with ⟨hcs, hx⟩ | ⟨a, len, cap, zs, hcs, _, hl, hm, hz, hx, hcell, hwz⟩
  · obtain rfl : v = .slice none 0 0 := by simpa using hcs
    exact ⟨none, [], 0, rfl, Nat.zero_le _, Or.inl rfl⟩
  · obtain rfl : v = .slice (some a) len cap := by simpa using hcs
    simp only [if_true] at hz
    have hlen : (zs.take len).length = len := by rw [List.length_take]; omega
    refine ⟨some a, zs.take len, cap, by rw [hlen], by omega, ?_⟩
    by_cases h0 : len = 0
    · left; rw [h0]; simp
    · right
      obtain ⟨b, off, sp⟩ := a
      have c0 := hcell 0 (by omega)
      have hsp : sp = none := by
        cases sp with
        | none => rfl
        | some x =>
          exfalso
          simp only [World.cell?, Addr.add] at c0
          split at c0 <;> simp at c0
      subst hsp
      have hb : b < W.heap.size := by
        refine Nat.lt_of_not_le fun hge => ?_
        have : W.heap[b]? = none := by simp; omega
        simp [World.cell?, Addr.add, this] at c0
      refine ⟨b, off, rfl, hb, fun i hi => ?_⟩
      rw [hlen] at hi
      have := hcell i (by omega)
      rw [show (zs.take len).getD i 0 = zs.getD i 0 from by simp [hi]]
      by_cases hi0 : i = 0
      · subst hi0; simpa [Addr.add] using this
      · simpa [Addr.add, hi0] using this
/-- A command, by value. -/
theorem cmd_raw {P : Program} {H : Type} {enc : TypeId × Value → H} {W : World} {base n : Nat} {v0 v1 : Value} {y0 y1 : DataW H × List MemPlace} {t0 t1 e : TypeId} (h0 : P.underlying t0 = some (.int .u8)) (h1 : P.underlying t1 = some (.slice e)) (he : P.underlying e = some (.int .i64)) (hc : P.cellsOf e = 1)
    (f0 : DataW.trod enc P W base (fun _ => true) true n t0 [v0] = some y0) (f1 : DataW.trod enc P W base (fun _ => true) true n t1 [v1] = some y1) :
    ∃ (c : Nat) (a : Option Addr) (zs : List Int) (cap : Nat), v0 = .int .u8 (c : Int) ∧ c < 256 ∧ v1 = .slice a zs.length cap ∧ zs.length ≤ maxLen ∧ IntsK .i64 a zs W := by
  obtain ⟨z, ez, _, hw⟩ := DataW.trod_int h0 f0
  obtain ⟨c, rfl, hlt⟩ := u8_of_wf hw
  obtain ⟨a, zs, cap, e1, e2, e3⟩ := intsK_raw h1 he hc f1
  exact ⟨c, a, zs, cap, by simpa using ez, hlt, e1, e2, e3⟩
theorem cmd_of_trod {P : Program} {H : Type} {enc : TypeId × Value → H} {W : World} {base : Nat} {v : Value} {d : DataW H} {p : List MemPlace} {t e : TypeId} {g0 g1 : Field} (hs : P.underlying t = some (.struct #[g0, g1])) (hone : oneCellFields P #[g0, g1] = true) (hC : P.cellsOf t = 2)
    (h0 : P.underlying g0.type = some (.int .u8)) (h1 : P.underlying g1.type = some (.slice e)) (he : P.underlying e = some (.int .i64)) (hc : P.cellsOf e = 1)
    (hok : Value.okWide P W .any base t v) (h : DataW.Trod enc P W 0 (fun _ => true) true t v d p) :
    ∃ (c : Nat) (a : Option Addr) (zs : List Int) (cap : Nat), v = .agg #[.int .u8 (c : Int), .slice a zs.length cap] ∧ c < 256 ∧ zs.length ≤ maxLen ∧ IntsK .i64 a zs W := by
  obtain ⟨v0, v1, y0, y1, n, rfl, _, _, f0, f1⟩ := open_agg2 hs hone hC hok h
  obtain ⟨c, a, zs, cap, rfl, hc', rfl, h2, h3⟩ := cmd_raw h0 h1 he hc f0 f1
  exact ⟨c, a, zs, cap, rfl, hc', h2, h3⟩
theorem add_none (b off n : Nat) : (⟨b, off, none⟩ : Addr).add n = ⟨b, off + n, none⟩ := by
  by_cases h : n = 0
  · subst h; simp [Addr.add]
  · simp [Addr.add, h]
theorem range_at (n : Nat) (f : Nat → Cmd) (i : Nat) (hi : i < n) : ltr ((List.range n).map f) i = (f i).letter ∧ ars ((List.range n).map f) i = (f i).args := by
  refine ltr_at ?_
  rw [List.getElem?_map, List.getElem?_range hi]; rfl
/-- An argument of type []api.Command. -/
theorem cmds_of_trod {P : Program} {H : Type} {enc : TypeId × Value → H} {W : World} {base : Nat} {v : Value} {d : DataW H} {p : List MemPlace} {u t e : TypeId} {g0 g1 : Field} (hu : P.underlying u = some (.slice t)) (hs : P.underlying t = some (.struct #[g0, g1])) (hC : P.cellsOf t = 2)
    (o0 : g0.offset = 0) (o1 : g1.offset = 1) (k0 : P.cellsOf g0.type = 1) (k1 : P.cellsOf g1.type = 1) (h0 : P.underlying g0.type = some (.int .u8)) (h1 : P.underlying g1.type = some (.slice e)) (he : P.underlying e = some (.int .i64)) (hc : P.cellsOf e = 1)
    (hok : Value.okWide P W .any base u v) (h : DataW.Trod enc P W 0 (fun _ => true) true u v d p) :
    ∃ (a : Option Addr) (l : List Cmd) (cap : Nat), v = .slice a l.length cap ∧ l.length ≤ maxLen ∧ RdC a l W := by
  obtain ⟨a0, len, cap, rfl⟩ := okWide_slice hu hok
  obtain ⟨fuel, hf⟩ := h
  rcases open_slice_pairs hu hs hC o0 o1 k0 k1 hf with ⟨hcs, hx⟩ | ⟨a, len', cap', m, n, V0, V1, D0, D1, P0, P1, hcs, _, hl, hm, hmm, hx, hcell⟩
  · simp [Value.cells] at hcs
    obtain ⟨rfl, rfl, rfl⟩ := hcs
    exact ⟨none, [], 0, rfl, Nat.zero_le _, Or.inl rfl⟩
  · simp [Value.cells] at hcs
    obtain ⟨rfl, rfl, rfl⟩ := hcs
    simp only [if_true] at hmm
    have K : ∀ i, i < len → ∃ x : Cmd, x.letter < 256 ∧ x.args.length ≤ maxLen ∧ V0 i = .int .u8 (x.letter : Int) ∧ ∃ (aa : Option Addr) (ac : Nat), V1 i = .slice aa x.args.length ac ∧ IntsK .i64 aa x.args W := by
      intro i hi
      obtain ⟨_, _, f0, f1⟩ := hcell i (by omega)
      obtain ⟨c, aa, zs, ac, e0, hc', e1, h2, h3⟩ := cmd_raw h0 h1 he hc f0 f1
      exact ⟨⟨c, zs⟩, hc', h2, e0, aa, ac, e1, h3⟩
    obtain ⟨F, hF⟩ : ∃ F : Nat → Cmd, ∀ i, i < len → (F i).letter < 256 ∧ (F i).args.length ≤ maxLen ∧ V0 i = .int .u8 ((F i).letter : Int) ∧ ∃ (aa : Option Addr) (ac : Nat), V1 i = .slice aa (F i).args.length ac ∧ IntsK .i64 aa (F i).args W :=
      ⟨fun i => if h : i < len then (K i h).choose else ⟨0, []⟩, fun i hi => by simp only [hi, dif_pos]; exact (K i hi).choose_spec⟩
    have hlen : ((List.range len).map F).length = len := by simp
    refine ⟨some a, (List.range len).map F, cap, by rw [hlen], by rw [hlen]; omega, ?_⟩
    by_cases h0 : len = 0
    · left; rw [h0]; rfl
    · right
      obtain ⟨b, off, sp⟩ := a
      have c0 := (hcell 0 (by omega)).1
      have hsp : sp = none := by
        cases sp with
        | none => rfl
        | some x =>
          exfalso
          simp only [World.cell?, Addr.add] at c0
          split at c0 <;> simp at c0
      subst hsp
      have hb : b < W.heap.size := by
        refine Nat.lt_of_not_le fun hge => ?_
        have : W.heap[b]? = none := by simp; omega
        simp [World.cell?, Addr.add, this] at c0
      refine ⟨b, off, rfl, hb, fun i hi => ?_⟩
      rw [hlen] at hi
      obtain ⟨d0, d1, _, _⟩ := hcell i (by omega)
      obtain ⟨r1, r2, r3, aa, ac, r4, r5⟩ := hF i hi
      obtain ⟨e0, e1⟩ := range_at len F i hi
      rw [r3, add_none] at d0
      rw [r4, add_none, ← Nat.add_assoc] at d1
      refine ⟨aa, ac, ⟨by rw [e0]; exact d0, by rw [e1]; exact d1, by rw [e1]; exact r5, by rw [e0]; exact r1, by rw [e1]; exact r2⟩⟩
end Go.Proofs.YtgiibcnakiggaaaDoor
