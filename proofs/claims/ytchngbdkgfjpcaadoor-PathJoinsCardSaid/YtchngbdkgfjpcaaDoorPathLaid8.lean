/-
  What the rows of layer 6 that print list of the package variables besides: the table of powers of ten.
-/
import Derived.Test.YtchngbdkgfjpcaaDoorPathLaid
import Derived.Test.YtchngbdkgfjpcaaDoorPathPr
namespace Go.Proofs.YtchngbdkgfjpcaaDoor
open Go.ChangeShapes Go.WideShapes Go.ChangeAt Go.RowKit Go.Shelf

theorem tab_of {W : World} {t : TypeId} {cs : Array Value} {fuel : Nat} {sp : Nat → Bool} {base : Nat} {p : List MemPlace} {g : Nat} (hg : Tryd.prog.globalNamed "internal/strconv.uint64pow10" = some g) (ht : (Tryd.prog.globals[g]?).map (·.type) = some t) (hv : W.var? Tryd.prog "internal/strconv.uint64pow10" = some cs)
    (hd : DataW.trod (fun _ => ()) Tryd.prog W base sp false fuel t cs.toList = some (Rows.laid_internal_strconv_uint64pow10, p)) : Lib.TabIs Tryd.prog W "internal/strconv.uint64pow10" .u64 Lib.pow10Tab := by
  obtain rfl := Option.some.inj ((show Tryd.prog.globalNamed "internal/strconv.uint64pow10" = some 3 by kernel_rfl).symm.trans hg)
  obtain rfl := Option.some.inj ((show (Tryd.prog.globals[3]?).map (·.type) = some 122 by kernel_rfl).symm.trans ht)
  have hd' : DataW.trod (fun _ => ()) Tryd.prog W base sp false fuel 122 cs.toList = some (.agg (Lib.pow10Tab.map fun z => .lit (.int .u64 z)), p) := hd
  have hr := row_ints (zs := Lib.pow10Tab) (k := .u64) (e := 81) (n := 20) (by kernel_rfl) (by kernel_rfl) (by kernel_rfl) hd'
  obtain ⟨_, _, _, _, hl, _, _⟩ := DataW.trod_array (n := 20) (e := 81) (by kernel_rfl) hd'
  rw [show Tryd.prog.cellsOf 122 = 20 by kernel_rfl] at hl
  unfold Lib.TabIs
  rw [hv]
  congr 1
  refine Array.toList_inj.1 (List.ext_getElem? fun i => ?_)
  by_cases hi : i < 20
  · have h20 : i < Lib.pow10Tab.length := by rw [Lib.pow10Tab_length]; exact hi
    rw [hr i _ (List.getElem?_eq_getElem h20)]
    simp [List.getElem?_eq_getElem h20]
  · rw [List.getElem?_eq_none (by omega), List.getElem?_eq_none (by simp [Lib.pow10Tab_length]; omega)]
/-- The listed variables. -/
def laid8 : List (String × DataW Unit) := [("math/bits.deBruijn32tab", Rows.laid_math_bits_deBruijn32tab), ("math/bits.deBruijn64tab", Rows.laid_math_bits_deBruijn64tab), ("internal/strconv.uint64pow10", Rows.laid_internal_strconv_uint64pow10), ("unicode/utf8.acceptRanges", Rows.laid_unicode_utf8_acceptRanges), ("pointillist/dec.follows", Rows.laid_pointillist_dec_follows), ("pointillist/scan.isBlank", Rows.laid_pointillist_scan_isBlank), ("pointillist/path.rows", Rows.laid_pointillist_path_rows), ("unicode/utf8.first", Rows.laid_unicode_utf8_first)]
theorem ptabs8_of {W : World} (h : laidMetH Tryd.prog laid8 W) (hs : W.ShapedOpen Tryd.prog) : PTabs8 W := by
  rw [MakeChecks.laidMetH_plain _ _ _ (by kernel_rfl)] at h
  obtain ⟨ps, ⟨_, _, _, _, _, _, _, _, _, _, ⟨_, _, _, _, _, _, _, _, _, _, ⟨g3, t3, cs3, f3, p3, q3, hg3, ht3, hv3, hd3, ⟨_, _, _, _, _, _, _, _, _, _, ⟨g, t, cs, fuel, p, q, hg, ht, hv, hd, ⟨g', t', cs', fuel', p', q', hg', ht', hv', hd', ⟨g2, t2, cs2, fuel2, p2, q2, hg2, ht2, hv2, hd2, _, _⟩, _⟩, _⟩, _⟩, _⟩, _⟩, _⟩, _, _⟩ := h
  exact ⟨⟨⟨⟨follows_of hg ht hv hd, someMax_of hs, size_of hs⟩, blks_of hg' ht' hv' hd'⟩, rows_of hg2 ht2 hv2 hd2⟩, tab_of hg3 ht3 hv3 hd3⟩
end Go.Proofs.YtchngbdkgfjpcaaDoor
