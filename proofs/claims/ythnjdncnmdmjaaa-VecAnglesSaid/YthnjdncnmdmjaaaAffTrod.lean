/-
  Arguments that are matrices or points, by value: what a walk is told of them.
-/
import Derived.Test.YthnjdncnmdmjaaaBase
import Derived.Test.YthnjdncnmdmjaaaAffMem
import Derived.Lib.SmallJoins
namespace Go.Proofs.Ythnjdncnmdmjaaa
open Go.ChangeShapes Go.WideShapes Go.ChangeAt Go.RowKit Go.Shelf Go.Joins Go.Deep

theorem i64_of_wf {a : Int} (h : (Lit.int .i64 a).wf = true) : I64 a := by
  unfold I64
  simpa [Lit.wf, IntKind.min, IntKind.max, IntKind.signed, IntKind.bits] using h
theorem num_cell {P : Program} {H : Type} {enc : TypeId × Value → H} {W : World} {base n : Nat} {t : TypeId} {v : Value} {y : DataW H × List MemPlace} (ht : P.underlying t = some (.int .i64)) (h : DataW.trod enc P W base (fun _ => true) true n t [v] = some y) :
    ∃ a : Int, v = .int .i64 a ∧ I64 a := by
  obtain ⟨a, ea, _, wa⟩ := DataW.trod_int ht h
  exact ⟨a, by simpa using ea, i64_of_wf wa⟩
theorem pt_of_trod {P : Program} {H : Type} {enc : TypeId × Value → H} {W : World} {base : Nat} {v : Value} {d : DataW H} {p : List MemPlace} {t : TypeId} {g0 g1 : Field} (hs : P.underlying t = some (.struct #[g0, g1])) (hone : oneCellFields P #[g0, g1] = true) (hC : P.cellsOf t = 2)
    (h0 : P.underlying g0.type = some (.int .i64)) (h1 : P.underlying g1.type = some (.int .i64)) (hok : Value.okWide P W .any base t v) (h : DataW.Trod enc P W 0 (fun _ => true) true t v d p) :
    ∃ x y : Int, v = .agg #[.int .i64 x, .int .i64 y] ∧ I64 x ∧ I64 y := by
  obtain ⟨v0, v1, y0, y1, n, rfl, _, _, f0, f1⟩ := open_agg2 hs hone hC hok h
  obtain ⟨x, rfl, hx⟩ := num_cell h0 f0
  obtain ⟨y, rfl, hy⟩ := num_cell h1 f1
  exact ⟨x, y, rfl, hx, hy⟩
theorem trod_struct6 {P : Program} {H : Type} {enc : TypeId × Value → H} {w : World} {base : Nat} {spare : Nat → Bool} {held : Bool} {t : TypeId} {f0 f1 f2 f3 f4 f5 : Field} {fuel : Nat} {cs : List Value} {x : DataW H × List MemPlace} (ht : P.underlying t = some (.struct #[f0, f1, f2, f3, f4, f5])) (h : DataW.trod enc P w base spare held fuel t cs = some x) :
    ∃ y0 y1 y2 y3 y4 y5 n, DataW.trod enc P w base spare held n f0.type ((cs.drop f0.offset).take (P.cellsOf f0.type)) = some y0 ∧ DataW.trod enc P w base spare held n f1.type ((cs.drop f1.offset).take (P.cellsOf f1.type)) = some y1 ∧ DataW.trod enc P w base spare held n f2.type ((cs.drop f2.offset).take (P.cellsOf f2.type)) = some y2 ∧
      DataW.trod enc P w base spare held n f3.type ((cs.drop f3.offset).take (P.cellsOf f3.type)) = some y3 ∧ DataW.trod enc P w base spare held n f4.type ((cs.drop f4.offset).take (P.cellsOf f4.type)) = some y4 ∧ DataW.trod enc P w base spare held n f5.type ((cs.drop f5.offset).take (P.cellsOf f5.type)) = some y5 := by
  cases fuel with
  | zero => simp [DataW.trod] at h
  | succ n =>
    unfold DataW.trod at h
    rw [ht] at h
    simp at h
    obtain ⟨_, h⟩ := h
    cases h0 : DataW.trod enc P w base spare held n f0.type ((cs.drop f0.offset).take (P.cellsOf f0.type)) with
    | none => simp [h0] at h
    | some y0 =>
    cases h1 : DataW.trod enc P w base spare held n f1.type ((cs.drop f1.offset).take (P.cellsOf f1.type)) with
    | none => simp [h0, h1] at h
    | some y1 =>
    cases h2 : DataW.trod enc P w base spare held n f2.type ((cs.drop f2.offset).take (P.cellsOf f2.type)) with
    | none => simp [h0, h1, h2] at h
    | some y2 =>
    cases h3 : DataW.trod enc P w base spare held n f3.type ((cs.drop f3.offset).take (P.cellsOf f3.type)) with
    | none => simp [h0, h1, h2, h3] at h
    | some y3 =>
    cases h4 : DataW.trod enc P w base spare held n f4.type ((cs.drop f4.offset).take (P.cellsOf f4.type)) with
    | none => simp [h0, h1, h2, h3, h4] at h
    | some y4 =>
    cases h5 : DataW.trod enc P w base spare held n f5.type ((cs.drop f5.offset).take (P.cellsOf f5.type)) with
    | none => simp [h0, h1, h2, h3, h4, h5] at h
    | some y5 => exact ⟨y0, y1, y2, y3, y4, y5, n, h0, h1, h2, h3, h4, h5⟩
theorem list6 {α : Type} {l : List α} (h : l.length = 6) : ∃ a b c d e f, l = [a, b, c, d, e, f] := by
  match l, h with
  | [a, b, c, d, e, f], _ => exact ⟨a, b, c, d, e, f, rfl⟩
theorem mtx_of_trod {P : Program} {H : Type} {enc : TypeId × Value → H} {W : World} {base : Nat} {v : Value} {d : DataW H} {p : List MemPlace} {t : TypeId} {g0 g1 g2 g3 g4 g5 : Field} (hs : P.underlying t = some (.struct #[g0, g1, g2, g3, g4, g5])) (hone : oneCellFields P #[g0, g1, g2, g3, g4, g5] = true) (hC : P.cellsOf t = 6)
    (h0 : P.underlying g0.type = some (.int .i64)) (h1 : P.underlying g1.type = some (.int .i64)) (h2 : P.underlying g2.type = some (.int .i64)) (h3 : P.underlying g3.type = some (.int .i64)) (h4 : P.underlying g4.type = some (.int .i64)) (h5 : P.underlying g5.type = some (.int .i64))
    (hok : Value.okWide P W .any base t v) (h : DataW.Trod enc P W 0 (fun _ => true) true t v d p) :
    ∃ m : Mtx, v = m.val ∧ I64 m.a ∧ I64 m.b ∧ I64 m.c ∧ I64 m.d ∧ I64 m.e ∧ I64 m.f := by
  obtain ⟨cs, rfl, hsz⟩ := okWide_struct hs hok
  obtain ⟨c0, c1, c2, c3, c4, c5, hl⟩ := list6 (l := cs.toList) (by simpa using hsz.trans hC)
  obtain rfl : cs = #[c0, c1, c2, c3, c4, c5] := by rw [← Array.toList_inj]; exact hl
  obtain ⟨fuel, hf⟩ := h
  obtain ⟨y0, y1, y2, y3, y4, y5, n, e0, e1, e2, e3, e4, e5⟩ := trod_struct6 hs hf
  obtain ⟨o0, k0⟩ := hone_of hone 0 g0 rfl
  obtain ⟨o1, k1⟩ := hone_of hone 1 g1 rfl
  obtain ⟨o2, k2⟩ := hone_of hone 2 g2 rfl
  obtain ⟨o3, k3⟩ := hone_of hone 3 g3 rfl
  obtain ⟨o4, k4⟩ := hone_of hone 4 g4 rfl
  obtain ⟨o5, k5⟩ := hone_of hone 5 g5 rfl
  obtain ⟨a, rfl, ha⟩ := num_cell h0 (by simpa [Value.cells, o0, k0] using e0)
  obtain ⟨b, rfl, hb⟩ := num_cell h1 (by simpa [Value.cells, o1, k1] using e1)
  obtain ⟨c, rfl, hc⟩ := num_cell h2 (by simpa [Value.cells, o2, k2] using e2)
  obtain ⟨d, rfl, hd⟩ := num_cell h3 (by simpa [Value.cells, o3, k3] using e3)
  obtain ⟨e, rfl, he⟩ := num_cell h4 (by simpa [Value.cells, o4, k4] using e4)
  obtain ⟨f, rfl, hf'⟩ := num_cell h5 (by simpa [Value.cells, o5, k5] using e5)
  exact ⟨⟨a, b, c, d, e, f⟩, rfl, ha, hb, hc, hd, he, hf'⟩
end Go.Proofs.Ythnjdncnmdmjaaa
