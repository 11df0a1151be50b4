/-
  What the rows of layer 6 list of the package variables, read off memory: the tables of layers 4 and 5, and the table of letters.
-/
import Derived.Test.YtgiibcnakiggaaaDoorPathArg
import Derived.Test.YtgiibcnakiggaaaDoorScanLaid
namespace Go.Proofs.YtgiibcnakiggaaaDoor
open Go.ChangeShapes Go.WideShapes Go.ChangeAt Go.RowKit Go.Shelf

/-- Rows of two texts. -/
theorem rows_strs {H : Type} {enc : TypeId × Value → H} {P : Program} {w : World} {base : Nat} {sp : Nat → Bool} {held : Bool} {fuel : Nat} {t e' : TypeId} {f0 f1 : Field} {n : Nat} {cs : List Value} {zs : List (List UInt8 × List UInt8)} {p : List MemPlace}
    (ht : P.underlying t = some (.array n e')) (ht' : P.underlying e' = some (.struct #[f0, f1])) (h0 : P.underlying f0.type = some .string) (h1 : P.underlying f1.type = some .string) (hc' : P.cellsOf e' = 2) (hc0 : P.cellsOf f0.type = 1) (hc1 : P.cellsOf f1.type = 1) (o0 : f0.offset = 0) (o1 : f1.offset = 1)
    (h : DataW.trod enc P w base sp held fuel t cs = some (.agg (zs.map fun r => .agg [.lit (.string r.1), .lit (.string r.2)]), p)) :
    ∀ (i : Nat) (r : List UInt8 × List UInt8), zs[i]? = some r → ∃ u v : ByteArray, cs[i * 2]? = some (Value.string u) ∧ cs[i * 2 + 1]? = some (Value.string v) ∧ u.data.toList = r.1 ∧ v.data.toList = r.2 := by
  obtain ⟨xs, q, _, ex, _, hl, hel⟩ := DataW.trod_array ht h
  intro i r hr
  have e3 : (xs.map (·.1)) = zs.map fun r => .agg [.lit (.string r.1), .lit (.string r.2)] := (DataW.agg.inj (Prod.mk.inj ex).1).symm
  have e4 : (xs.map (·.1))[i]? = (zs.map fun r => (DataW.agg [.lit (.string r.1), .lit (.string r.2)] : DataW H))[i]? := by rw [e3]
  rw [List.getElem?_map, List.getElem?_map, hr] at e4
  have hi : i < xs.length := by
    refine Nat.lt_of_not_le fun hn => ?_
    rw [List.getElem?_eq_none hn] at e4
    cases e4
  have hE := hel i (by omega)
  rw [hc', List.getElem?_eq_getElem hi] at hE
  rw [List.getElem?_eq_getElem hi] at e4
  obtain ⟨y0, y1, m, hx, _, hy0, hy1⟩ := trod_struct2 ht' hE
  rw [hx] at e4
  have e5 : y0.1 = .lit (.string r.1) ∧ y1.1 = .lit (.string r.2) := by simpa using e4
  rw [hc0, o0] at hy0
  rw [hc1, o1] at hy1
  obtain ⟨u, hu, hu2, _⟩ := DataW.trod_string h0 hy0
  obtain ⟨v, hv, hv2, _⟩ := DataW.trod_string h1 hy1
  refine ⟨u, v, ?_, ?_, ?_, ?_⟩
  · have : ((((cs.drop (i * 2)).take 2).drop 0).take 1)[0]? = some (Value.string u) := by rw [hu]; rfl
    simpa using this
  · have : ((((cs.drop (i * 2)).take 2).drop 1).take 1)[0]? = some (Value.string v) := by rw [hv]; rfl
    simpa using this
  · have := e5.1; rw [hu2] at this; simpa using this
  · have := e5.2; rw [hv2] at this; simpa using this

/-- The listed variables: without, and with, what printing a number takes. -/
def laid5 : List (String × DataW Unit) := [("unicode/utf8.acceptRanges", Rows.laid_unicode_utf8_acceptRanges), ("pointillist/dec.follows", Rows.laid_pointillist_dec_follows), ("pointillist/scan.isBlank", Rows.laid_pointillist_scan_isBlank), ("pointillist/path.rows", Rows.laid_pointillist_path_rows), ("unicode/utf8.first", Rows.laid_unicode_utf8_first)]
def rowZ : List (List UInt8 × List UInt8) := (List.range 6).map fun i => ((letR i).data.toList, (kinR i).data.toList)
theorem rows_of {W : World} {t : TypeId} {cs : Array Value} {fuel : Nat} {sp : Nat → Bool} {base : Nat} {p : List MemPlace} {g : Nat} (hg : Tryd.prog.globalNamed "pointillist/path.rows" = some g) (ht : (Tryd.prog.globals[g]?).map (·.type) = some t) (hv : W.var? Tryd.prog "pointillist/path.rows" = some cs)
    (hd : DataW.trod (fun _ => ()) Tryd.prog W base sp false fuel t cs.toList = some (Rows.laid_pointillist_path_rows, p)) : Rws W := by
  obtain rfl := Option.some.inj ((show Tryd.prog.globalNamed "pointillist/path.rows" = some 0 by kernel_rfl).symm.trans hg)
  obtain rfl := Option.some.inj ((show (Tryd.prog.globals[0]?).map (·.type) = some 115 by kernel_rfl).symm.trans ht)
  have hr := rows_strs (zs := rowZ) (e' := 114) (n := 6) (by kernel_rfl) Tryd.underlying114 (by kernel_rfl) (by kernel_rfl) (by kernel_rfl) (by kernel_rfl) (by kernel_rfl) rfl rfl (hd.trans (by congr 2))
  intro i hi
  have hz : rowZ[i]? = some ((letR i).data.toList, (kinR i).data.toList) := by unfold rowZ; rw [List.getElem?_map, List.getElem?_range hi]; rfl
  obtain ⟨u, v, h0, h1, e0, e1⟩ := hr i _ hz
  have eb : ∀ a b : ByteArray, a.data.toList = b.data.toList → a = b := fun a b h => ByteArray.ext (Array.ext' h)
  rw [eb u _ e0] at h0
  rw [eb v _ e1] at h1
  rw [World.var?_cell hg hv (2 * i), World.var?_cell hg hv (2 * i + 1)]
  rw [show i * 2 = 2 * i from Nat.mul_comm _ _] at h0 h1
  exact ⟨by simpa using h0, by simpa using h1⟩
theorem ptabs_of {W : World} (h : laidMetH Tryd.prog laid5 W) (hs : W.ShapedOpen Tryd.prog) : PTabs W := by
  rw [MakeChecks.laidMetH_plain _ _ _ (by kernel_rfl)] at h
  obtain ⟨ps, ⟨_, _, _, _, _, _, _, _, _, _, ⟨g, t, cs, fuel, p, q, hg, ht, hv, hd, ⟨g', t', cs', fuel', p', q', hg', ht', hv', hd', ⟨g2, t2, cs2, fuel2, p2, q2, hg2, ht2, hv2, hd2, _, _⟩, _⟩, _⟩, _⟩, _, _⟩ := h
  exact ⟨⟨⟨follows_of hg ht hv hd, someMax_of hs, size_of hs⟩, blks_of hg' ht' hv' hd'⟩, rows_of hg2 ht2 hv2 hd2⟩
end Go.Proofs.YtgiibcnakiggaaaDoor
