/-
  What the rows of layer 5 list of the package variables, read off memory: the table of states, the table of blanks.
-/
import Derived.Test.YtgiibcnakiggaaaDoorJScan
import Derived.Test.YtgiibcnakiggaaaDoorDecLaid
namespace Go.Proofs.YtgiibcnakiggaaaDoor
open Go.ChangeShapes Go.WideShapes Go.ChangeAt Go.RowKit Go.Shelf

/-- A row of bools. -/
theorem row_bools {H : Type} {enc : TypeId × Value → H} {P : Program} {w : World} {base : Nat} {sp : Nat → Bool} {held : Bool} {fuel : Nat} {t e : TypeId} {n : Nat} {cs : List Value} {zs : List Bool} {p : List MemPlace}
    (ht : P.underlying t = some (.array n e)) (he : P.underlying e = some .bool) (hc : P.cellsOf e = 1) (h : DataW.trod enc P w base sp held fuel t cs = some (.agg (zs.map fun z => .lit (.bool z)), p)) :
    ∀ (i : Nat) (z : Bool), zs[i]? = some z → cs[i]? = some (Value.bool z) := by
  obtain ⟨xs, m, _, ex, _, hl, hel⟩ := DataW.trod_array ht h
  intro i z hz
  have e3 : (xs.map (·.1)) = zs.map fun n => .lit (.bool n) := (DataW.agg.inj (Prod.mk.inj ex).1).symm
  have e4 : (xs.map (·.1))[i]? = (zs.map fun n => (DataW.lit (.bool n) : DataW H))[i]? := by rw [e3]
  rw [List.getElem?_map, List.getElem?_map, hz] at e4
  have hi : i < xs.length := by
    refine Nat.lt_of_not_le fun hn => ?_
    rw [List.getElem?_eq_none hn] at e4
    cases e4
  have hE := hel i (by omega)
  rw [hc, Nat.mul_one, List.getElem?_eq_getElem hi] at hE
  obtain ⟨y, e1, e2⟩ := DataW.trod_bool he hE
  rw [List.getElem?_eq_getElem hi, e2] at e4
  have hy : y = z := by simpa using e4
  subst hy
  have h0 : ((cs.drop i).take 1)[0]? = some (Value.bool y) := by rw [e1]; rfl
  simpa using h0

/-- The listed variables. -/
def laid4 : List (String × DataW Unit) := [("unicode/utf8.acceptRanges", Rows.laid_unicode_utf8_acceptRanges), ("pointillist/dec.follows", Rows.laid_pointillist_dec_follows), ("pointillist/scan.isBlank", Rows.laid_pointillist_scan_isBlank), ("unicode/utf8.first", Rows.laid_unicode_utf8_first)]
def blkZ : List Bool := (List.range 33).map isBlN
theorem blkZ_at (i : Nat) (h : i ≤ 32) : blkZ[i]? = some (isBlN i) := by
  unfold blkZ; rw [List.getElem?_map, List.getElem?_range (by omega)]; rfl
theorem blks_of {W : World} {t : TypeId} {cs : Array Value} {fuel : Nat} {sp : Nat → Bool} {base : Nat} {p : List MemPlace} {g : Nat} (hg : Tryd.prog.globalNamed "pointillist/scan.isBlank" = some g) (ht : (Tryd.prog.globals[g]?).map (·.type) = some t) (hv : W.var? Tryd.prog "pointillist/scan.isBlank" = some cs)
    (hd : DataW.trod (fun _ => ()) Tryd.prog W base sp false fuel t cs.toList = some (Rows.laid_pointillist_scan_isBlank, p)) : Blks W := by
  obtain rfl := Option.some.inj ((show Tryd.prog.globalNamed "pointillist/scan.isBlank" = some 1 by kernel_rfl).symm.trans hg)
  obtain rfl := Option.some.inj ((show (Tryd.prog.globals[1]?).map (·.type) = some 121 by kernel_rfl).symm.trans ht)
  have hr := row_bools (zs := blkZ) (e := 4) (n := 33) (by kernel_rfl) (by kernel_rfl) (by kernel_rfl) (hd.trans (by congr 2))
  intro i hi
  rw [World.var?_cell hg hv i]
  have := hr i _ (blkZ_at i hi)
  simpa using this
theorem stabs_of {W : World} (h : laidMetH Tryd.prog laid4 W) (hs : W.ShapedOpen Tryd.prog) : STabs W := by
  rw [MakeChecks.laidMetH_plain _ _ _ (by kernel_rfl)] at h
  obtain ⟨ps, ⟨_, _, _, _, _, _, _, _, _, _, ⟨g, t, cs, fuel, p, q, hg, ht, hv, hd, ⟨g', t', cs', fuel', p', q', hg', ht', hv', hd', _, _⟩, _⟩, _⟩, _, _⟩ := h
  exact ⟨⟨follows_of hg ht hv hd, someMax_of hs, size_of hs⟩, blks_of hg' ht' hv' hd'⟩
end Go.Proofs.YtgiibcnakiggaaaDoor
