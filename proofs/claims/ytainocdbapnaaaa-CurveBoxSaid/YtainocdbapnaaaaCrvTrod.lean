/-
  Arguments that are curves, by value: what a walk is told of them.
-/
import Derived.Test.YtainocdbapnaaaaCrvMem
import Derived.Test.YtainocdbapnaaaaPtTrod
namespace Go.Proofs.Ytainocdbapnaaaa
open Go.ChangeShapes Go.WideShapes Go.ChangeAt Go.RowKit Go.Shelf Go.Joins Go.Deep

theorem trod_struct2 {P : Program} {H : Type} {enc : TypeId × Value → H} {w : World} {base : Nat} {spare : Nat → Bool} {held : Bool} {t : TypeId} {f0 f1 : Field} {fuel : Nat} {cs : List Value} {x : DataW H × List MemPlace} (ht : P.underlying t = some (.struct #[f0, f1])) (h : DataW.trod enc P w base spare held fuel t cs = some x) :
    ∃ y0 y1 n, DataW.trod enc P w base spare held n f0.type ((cs.drop f0.offset).take (P.cellsOf f0.type)) = some y0 ∧ DataW.trod enc P w base spare held n f1.type ((cs.drop f1.offset).take (P.cellsOf f1.type)) = some y1 := by
  cases fuel with
  | zero => simp [DataW.trod] at h
  | succ n =>
    unfold DataW.trod at h
    rw [ht] at h
    simp at h
    obtain ⟨_, h⟩ := h
    cases h0 : DataW.trod enc P w base spare held n f0.type ((cs.drop f0.offset).take (P.cellsOf f0.type)) with
    | none => simp [h0] at h
    | some y0 =>
    cases h1 : DataW.trod enc P w base spare held n f1.type ((cs.drop f1.offset).take (P.cellsOf f1.type)) with
    | none => simp [h0, h1] at h
    | some y1 => exact ⟨y0, y1, n, h0, h1⟩
theorem trod_struct4 {P : Program} {H : Type} {enc : TypeId × Value → H} {w : World} {base : Nat} {spare : Nat → Bool} {held : Bool} {t : TypeId} {f0 f1 f2 f3 : Field} {fuel : Nat} {cs : List Value} {x : DataW H × List MemPlace} (ht : P.underlying t = some (.struct #[f0, f1, f2, f3])) (h : DataW.trod enc P w base spare held fuel t cs = some x) :
    ∃ y0 y1 y2 y3 n, DataW.trod enc P w base spare held n f0.type ((cs.drop f0.offset).take (P.cellsOf f0.type)) = some y0 ∧ DataW.trod enc P w base spare held n f1.type ((cs.drop f1.offset).take (P.cellsOf f1.type)) = some y1 ∧ DataW.trod enc P w base spare held n f2.type ((cs.drop f2.offset).take (P.cellsOf f2.type)) = some y2 ∧ DataW.trod enc P w base spare held n f3.type ((cs.drop f3.offset).take (P.cellsOf f3.type)) = some y3 := by
  cases fuel with
  | zero => simp [DataW.trod] at h
  | succ n =>
    unfold DataW.trod at h
    rw [ht] at h
    simp at h
    obtain ⟨_, h⟩ := h
    cases h0 : DataW.trod enc P w base spare held n f0.type ((cs.drop f0.offset).take (P.cellsOf f0.type)) with
    | none => simp [h0] at h
    | some y0 =>
    cases h1 : DataW.trod enc P w base spare held n f1.type ((cs.drop f1.offset).take (P.cellsOf f1.type)) with
    | none => simp [h0, h1] at h
    | some y1 =>
    cases h2 : DataW.trod enc P w base spare held n f2.type ((cs.drop f2.offset).take (P.cellsOf f2.type)) with
    | none => simp [h0, h1, h2] at h
    | some y2 =>
    cases h3 : DataW.trod enc P w base spare held n f3.type ((cs.drop f3.offset).take (P.cellsOf f3.type)) with
    | none => simp [h0, h1, h2, h3] at h
    | some y3 => exact ⟨y0, y1, y2, y3, n, h0, h1, h2, h3⟩
theorem two_cells {P : Program} {H : Type} {enc : TypeId × Value → H} {W : World} {base n : Nat} {t : TypeId} {f0 f1 : Field} {v0 v1 : Value} {y : DataW H × List MemPlace} (hs : P.underlying t = some (.struct #[f0, f1])) (o0 : f0.offset = 0) (o1 : f1.offset = 1) (k0 : P.cellsOf f0.type = 1) (k1 : P.cellsOf f1.type = 1)
    (h0 : P.underlying f0.type = some (.int .i64)) (h1 : P.underlying f1.type = some (.int .i64)) (h : DataW.trod enc P W base (fun _ => true) true n t [v0, v1] = some y) :
    ∃ a b : Int, v0 = .int .i64 a ∧ v1 = .int .i64 b ∧ I64 a ∧ I64 b := by
  obtain ⟨y0, y1, m, e0, e1⟩ := trod_struct2 hs h
  obtain ⟨a, rfl, ha⟩ := num_cell h0 (by simpa [o0, k0] using e0)
  obtain ⟨b, rfl, hb⟩ := num_cell h1 (by simpa [o1, k1] using e1)
  exact ⟨a, b, rfl, rfl, ha, hb⟩
theorem list8 {α : Type} {l : List α} (h : l.length = 8) : ∃ a b c d e f g i, l = [a, b, c, d, e, f, g, i] := by
  match l, h with
  | [a, b, c, d, e, f, g, i], _ => exact ⟨a, b, c, d, e, f, g, i, rfl⟩
theorem crv_of_trod {P : Program} {H : Type} {enc : TypeId × Value → H} {W : World} {base : Nat} {v : Value} {d : DataW H} {p : List MemPlace} {t : TypeId} {g0 g1 g2 g3 f0 f1 : Field} (hs : P.underlying t = some (.struct #[g0, g1, g2, g3])) (hC : P.cellsOf t = 8)
    (q0 : g0.offset = 0) (q1 : g1.offset = 2) (q2 : g2.offset = 4) (q3 : g3.offset = 6) (hp : P.underlying g0.type = some (.struct #[f0, f1])) (hp2 : P.cellsOf g0.type = 2) (t1 : g1.type = g0.type) (t2 : g2.type = g0.type) (t3 : g3.type = g0.type)
    (o0 : f0.offset = 0) (o1 : f1.offset = 1) (k0 : P.cellsOf f0.type = 1) (k1 : P.cellsOf f1.type = 1) (h0 : P.underlying f0.type = some (.int .i64)) (h1 : P.underlying f1.type = some (.int .i64))
    (hok : Value.okWide P W .any base t v) (h : DataW.Trod enc P W 0 (fun _ => true) true t v d p) :
    ∃ c : Crv, v = c.val ∧ (I64 c.px ∧ I64 c.py) ∧ (I64 c.qx ∧ I64 c.qy) ∧ (I64 c.rx ∧ I64 c.ry) ∧ (I64 c.sx ∧ I64 c.sy) := by
  obtain ⟨cs, rfl, hsz⟩ := okWide_struct hs hok
  obtain ⟨c0, c1, c2, c3, c4, c5, c6, c7, hl⟩ := list8 (l := cs.toList) (by simpa using hsz.trans hC)
  obtain rfl : cs = #[c0, c1, c2, c3, c4, c5, c6, c7] := by rw [← Array.toList_inj]; exact hl
  obtain ⟨fuel, hf⟩ := h
  obtain ⟨y0, y1, y2, y3, n, e0, e1, e2, e3⟩ := trod_struct4 hs hf
  obtain ⟨a0, b0, rfl, rfl, ha0, hb0⟩ := two_cells (v0 := c0) (v1 := c1) hp o0 o1 k0 k1 h0 h1 (by simpa [Value.cells, q0, hp2] using e0)
  obtain ⟨a1, b1, rfl, rfl, ha1, hb1⟩ := two_cells (v0 := c2) (v1 := c3) hp o0 o1 k0 k1 h0 h1 (by simpa [Value.cells, q1, t1, hp2] using e1)
  obtain ⟨a2, b2, rfl, rfl, ha2, hb2⟩ := two_cells (v0 := c4) (v1 := c5) hp o0 o1 k0 k1 h0 h1 (by simpa [Value.cells, q2, t2, hp2] using e2)
  obtain ⟨a3, b3, rfl, rfl, ha3, hb3⟩ := two_cells (v0 := c6) (v1 := c7) hp o0 o1 k0 k1 h0 h1 (by simpa [Value.cells, q3, t3, hp2] using e3)
  exact ⟨⟨a0, b0, a1, b1, a2, b2, a3, b3⟩, rfl, ⟨ha0, hb0⟩, ⟨ha1, hb1⟩, ⟨ha2, hb2⟩, ha3, hb3⟩
end Go.Proofs.Ytainocdbapnaaaa
