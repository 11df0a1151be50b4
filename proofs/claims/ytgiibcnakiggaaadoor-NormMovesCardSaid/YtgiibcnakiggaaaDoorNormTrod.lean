/-
  Arguments that are commands, with the room that their slices have.
-/
import Derived.Test.YtgiibcnakiggaaaDoorNormBring
import Derived.Test.YtgiibcnakiggaaaDoorPathTrod
namespace Go.Proofs.YtgiibcnakiggaaaDoor
open Go.ChangeShapes Go.WideShapes Go.ChangeAt Go.RowKit Go.Shelf Go.Joins Go.Deep

/-- A cell that holds a slice of numbers. -/
theorem intsK_room {P : Program} {H : Type} {enc : TypeId × Value → H} {W : World} {base n : Nat} {v : Value} {y : DataW H × List MemPlace} {t e : TypeId} {k : IntKind} (ht : P.underlying t = some (.slice e)) (he : P.underlying e = some (.int k)) (hc : P.cellsOf e = 1)
    (hf : DataW.trod enc P W base (fun _ => true) true n t [v] = some y) :
    ∃ (a : Option Addr) (zs : List Int) (cap : Nat), v = .slice a zs.length cap ∧ zs.length ≤ maxLen ∧ IntsK k a zs W ∧ zs.length ≤ cap := by
  rcases open_ints ht he hc hf with ⟨hcs, hx⟩ | ⟨a, len, cap, zs, hcs, _, hl, hm, hz, hx, hcell, hwz⟩
  · obtain rfl : v = .slice none 0 0 := by simpa using hcs
    exact ⟨none, [], 0, rfl, Nat.zero_le _, Or.inl rfl, Nat.le_refl _⟩
  · obtain rfl : v = .slice (some a) len cap := by simpa using hcs
    simp only [if_true] at hz
    have hlen : (zs.take len).length = len := by rw [List.length_take]; omega
    refine ⟨some a, zs.take len, cap, by rw [hlen], by omega, ?_, by omega⟩
    by_cases h0 : len = 0
    · left; rw [h0]; simp
    · right
      obtain ⟨b, off, sp⟩ := a
      have c0 := hcell 0 (by omega)
      have hsp : sp = none := by
        cases sp with
        | none => rfl
        | some x =>
          exfalso
          simp only [World.cell?, Addr.add] at c0
          split at c0 <;> simp at c0
      subst hsp
      have hb : b < W.heap.size := by
        refine Nat.lt_of_not_le fun hge => ?_
        have : W.heap[b]? = none := by simp; omega
        simp [World.cell?, Addr.add, this] at c0
      refine ⟨b, off, rfl, hb, fun i hi => ?_⟩
      rw [hlen] at hi
      have := hcell i (by omega)
      rw [show (zs.take len).getD i 0 = zs.getD i 0 from by simp [hi]]
      by_cases hi0 : i = 0
      · subst hi0; simpa [Addr.add] using this
      · simpa [Addr.add, hi0] using this
/-- An argument of type []api.Command. -/
theorem cmds_room_of_trod {P : Program} {H : Type} {enc : TypeId × Value → H} {W : World} {base : Nat} {v : Value} {d : DataW H} {p : List MemPlace} {u t e : TypeId} {g0 g1 : Field} (hu : P.underlying u = some (.slice t)) (hs : P.underlying t = some (.struct #[g0, g1])) (hC : P.cellsOf t = 2)
    (o0 : g0.offset = 0) (o1 : g1.offset = 1) (k0 : P.cellsOf g0.type = 1) (k1 : P.cellsOf g1.type = 1) (h0 : P.underlying g0.type = some (.int .u8)) (h1 : P.underlying g1.type = some (.slice e)) (he : P.underlying e = some (.int .i64)) (hc : P.cellsOf e = 1)
    (hok : Value.okWide P W .any base u v) (h : DataW.Trod enc P W 0 (fun _ => true) true u v d p) :
    ∃ (a : Option Addr) (l : List Cmd) (cap : Nat), v = .slice a l.length cap ∧ l.length ≤ maxLen ∧ RdC a l W ∧ CapC a l W ∧ l.length ≤ cap := by
  obtain ⟨a0, len, cap, rfl⟩ := okWide_slice hu hok
  obtain ⟨fuel, hf⟩ := h
  rcases open_slice_pairs hu hs hC o0 o1 k0 k1 hf with ⟨hcs, hx⟩ | ⟨a, len', cap', m, n, V0, V1, D0, D1, P0, P1, hcs, _, hl, hm, hmm, hx, hcell⟩
  · simp [Value.cells] at hcs
    obtain ⟨rfl, rfl, rfl⟩ := hcs
    exact ⟨none, [], 0, rfl, Nat.zero_le _, Or.inl rfl, (fun _ _ h => by cases h), Nat.le_refl _⟩
  · simp [Value.cells] at hcs
    obtain ⟨rfl, rfl, rfl⟩ := hcs
    simp only [if_true] at hmm
    have K : ∀ i, i < len → ∃ x : Cmd, x.letter < 256 ∧ x.args.length ≤ maxLen ∧ V0 i = .int .u8 (x.letter : Int) ∧ ∃ (aa : Option Addr) (ac : Nat), V1 i = .slice aa x.args.length ac ∧ IntsK .i64 aa x.args W ∧ x.args.length ≤ ac := by
      intro i hi
      obtain ⟨_, _, f0, f1⟩ := hcell i (by omega)
      obtain ⟨z, ez, _, hw⟩ := DataW.trod_int h0 f0
      obtain ⟨c, rfl, hlt⟩ := u8_of_wf hw
      obtain ⟨aa, zs, ac, e1, e2, e3, e4⟩ := intsK_room h1 he hc f1
      exact ⟨⟨c, zs⟩, hlt, e2, by simpa using ez, aa, ac, e1, e3, e4⟩
    obtain ⟨F, hF⟩ : ∃ F : Nat → Cmd, ∀ i, i < len → (F i).letter < 256 ∧ (F i).args.length ≤ maxLen ∧ V0 i = .int .u8 ((F i).letter : Int) ∧ ∃ (aa : Option Addr) (ac : Nat), V1 i = .slice aa (F i).args.length ac ∧ IntsK .i64 aa (F i).args W ∧ (F i).args.length ≤ ac :=
      ⟨fun i => if h : i < len then (K i h).choose else ⟨0, []⟩, fun i hi => by simp only [hi, dif_pos]; exact (K i hi).choose_spec⟩
    have hlen : ((List.range len).map F).length = len := by simp
    have D1' : ∀ b off, a = ⟨b, off, none⟩ → ∀ i, i < len → ∃ aa n ac, W.cell? ⟨b, off + i * 2 + 1, none⟩ = some (.slice aa n ac) ∧ n ≤ ac := by
      rintro b off rfl i hi
      obtain ⟨_, d1, _, _⟩ := hcell i (by omega)
      obtain ⟨_, _, _, aa, ac, r4, _, r6⟩ := hF i hi
      rw [r4, add_none, ← Nat.add_assoc] at d1
      exact ⟨aa, _, ac, d1, r6⟩
    refine ⟨some a, (List.range len).map F, cap, by rw [hlen], by rw [hlen]; omega, ?_, ?_, by rw [hlen]; omega⟩
    rotate_left
    · intro b off e i hi aa n ac hcl
      rw [hlen] at hi
      obtain ⟨aa', n', ac', h1', h2'⟩ := D1' b off (Option.some.inj e) i hi
      rw [h1'] at hcl
      injection hcl with hcl
      injection hcl with _ e2 e3
      omega
    by_cases h0 : len = 0
    · left; rw [h0]; rfl
    · right
      obtain ⟨b, off, sp⟩ := a
      have c0 := (hcell 0 (by omega)).1
      have hsp : sp = none := by
        cases sp with
        | none => rfl
        | some x =>
          exfalso
          simp only [World.cell?, Addr.add] at c0
          split at c0 <;> simp at c0
      subst hsp
      have hb : b < W.heap.size := by
        refine Nat.lt_of_not_le fun hge => ?_
        have : W.heap[b]? = none := by simp; omega
        simp [World.cell?, Addr.add, this] at c0
      refine ⟨b, off, rfl, hb, fun i hi => ?_⟩
      rw [hlen] at hi
      obtain ⟨d0, d1, _, _⟩ := hcell i (by omega)
      obtain ⟨r1, r2, r3, aa, ac, r4, r5, _⟩ := hF i hi
      obtain ⟨e0, e1⟩ := range_at len F i hi
      rw [r3, add_none] at d0
      rw [r4, add_none, ← Nat.add_assoc] at d1
      refine ⟨aa, ac, ⟨by rw [e0]; exact d0, by rw [e1]; exact d1, by rw [e1]; exact r5, by rw [e0]; exact r1, by rw [e1]; exact r2⟩⟩
end Go.Proofs.YtgiibcnakiggaaaDoor
