/-
  An argument that is one edge, by value: what a walk is told of it.
-/
import Derived.Test.YtejhegoegmoemaaEdgTrod
namespace Go.Proofs.Ytejhegoegmoemaa
open Go.ChangeShapes Go.WideShapes Go.ChangeAt Go.RowKit Go.Shelf Go.Joins Go.Deep

/-- An argument of type api.Edge. -/
theorem edg_of_trod {P : Program} {H : Type} {enc : TypeId × Value → H} {W : World} {base : Nat} {v : Value} {d : DataW H} {p : List MemPlace} {t : TypeId} {g0 g1 f0 f1 : Field}
    (hs : P.underlying t = some (.struct #[g0, g1])) (hC : P.cellsOf t = 4)
    (q0 : g0.offset = 0) (q1 : g1.offset = 2) (hp : P.underlying g0.type = some (.struct #[f0, f1])) (hp2 : P.cellsOf g0.type = 2) (t1 : g1.type = g0.type)
    (o0 : f0.offset = 0) (o1 : f1.offset = 1) (k0 : P.cellsOf f0.type = 1) (k1 : P.cellsOf f1.type = 1) (h0 : P.underlying f0.type = some (.int .i64)) (h1 : P.underlying f1.type = some (.int .i64))
    (hok : Value.okWide P W .any base t v) (h : DataW.Trod enc P W 0 (fun _ => true) true t v d p) :
    ∃ g : Edg, v = .agg #[.int .i64 g.px, .int .i64 g.py, .int .i64 g.qx, .int .i64 g.qy] ∧ EdgI g := by
  obtain ⟨cs, rfl, hsz⟩ := okWide_struct hs hok
  obtain ⟨fuel, hf⟩ := h
  obtain ⟨g, hg, hI⟩ := edg_cells hs q0 q1 hp hp2 t1 o0 o1 k0 k1 h0 h1 (cs := cs.toList) (by simpa using hsz.trans hC) (by simpa [Value.cells] using hf)
  obtain rfl : cs = #[.int .i64 g.px, .int .i64 g.py, .int .i64 g.qx, .int .i64 g.qy] := by rw [← Array.toList_inj]; exact hg
  exact ⟨g, rfl, hI⟩
end Go.Proofs.Ytejhegoegmoemaa
