/-
  PROVED: the statement of DecPrints, for every input: any number's text is the document's; it is a number's text, and parsed as it was, if it isn't too great. No conditions but what the row lists: package variables as the program's text lays them.
-/
import Derived.Test.YtfikkfiihknccaaDoorRef4Print
import Derived.Test.YtfikkfiihknccaaDoorDecWakes
import Derived.Test.YtfikkfiihknccaaDoorDecLaid
namespace Go.Proofs.YtfikkfiihknccaaDoor.decPrints
open Go.ChangeShapes Go.WideShapes Go.ChangeAt Go.RowKit Go.Shelf

/-- The listed variables. -/
def laid6 : List (String × DataW Unit) := [("math/bits.deBruijn32tab", Rows.laid_math_bits_deBruijn32tab), ("math/bits.deBruijn64tab", Rows.laid_math_bits_deBruijn64tab), ("internal/strconv.uint64pow10", Rows.laid_internal_strconv_uint64pow10), ("unicode/utf8.acceptRanges", Rows.laid_unicode_utf8_acceptRanges), ("pointillist/dec.follows", Rows.laid_pointillist_dec_follows), ("unicode/utf8.first", Rows.laid_unicode_utf8_first)]

theorem tab_of {W : World} {t : TypeId} {cs : Array Value} {fuel : Nat} {sp : Nat → Bool} {base : Nat} {p : List MemPlace} {g : Nat} (hg : Tryd.prog.globalNamed "internal/strconv.uint64pow10" = some g) (ht : (Tryd.prog.globals[g]?).map (·.type) = some t) (hv : W.var? Tryd.prog "internal/strconv.uint64pow10" = some cs)
    (hd : DataW.trod (fun _ => ()) Tryd.prog W base sp false fuel t cs.toList = some (Rows.laid_internal_strconv_uint64pow10, p)) : Lib.TabIs Tryd.prog W "internal/strconv.uint64pow10" .u64 Lib.pow10Tab := by
  obtain rfl := Option.some.inj ((show Tryd.prog.globalNamed "internal/strconv.uint64pow10" = some 1 by kernel_rfl).symm.trans hg)
  obtain rfl := Option.some.inj ((show (Tryd.prog.globals[1]?).map (·.type) = some 97 by kernel_rfl).symm.trans ht)
  have hd' : DataW.trod (fun _ => ()) Tryd.prog W base sp false fuel 97 cs.toList = some (.agg (Lib.pow10Tab.map fun z => .lit (.int .u64 z)), p) := hd
  have hr := row_ints (zs := Lib.pow10Tab) (k := .u64) (e := 50) (n := 20) (by kernel_rfl) (by kernel_rfl) (by kernel_rfl) hd'
  obtain ⟨_, _, _, _, hl, _, _⟩ := DataW.trod_array (n := 20) (e := 50) (by kernel_rfl) hd'
  rw [show Tryd.prog.cellsOf 97 = 20 by kernel_rfl] at hl
  unfold Lib.TabIs
  rw [hv]
  congr 1
  refine Array.toList_inj.1 (List.ext_getElem? fun i => ?_)
  by_cases hi : i < 20
  · have h20 : i < Lib.pow10Tab.length := by rw [Lib.pow10Tab_length]; exact hi
    rw [hr i _ (List.getElem?_eq_getElem h20)]
    simp [List.getElem?_eq_getElem h20]
  · rw [List.getElem?_eq_none (by omega), List.getElem?_eq_none (by simp [Lib.pow10Tab_length]; omega)]

structure Tabs6 (w : World) : Prop where
  tabs : Tabs w
  pow : Lib.TabIs Tryd.prog w "internal/strconv.uint64pow10" .u64 Lib.pow10Tab
theorem tabs6_of {W : World} (h : laidMetH Tryd.prog laid6 W) (hs : W.ShapedOpen Tryd.prog) : Tabs6 W := by
  rw [MakeChecks.laidMetH_plain _ _ _ (by kernel_rfl)] at h
  obtain ⟨ps, ⟨_, _, _, _, _, _, _, _, _, _, ⟨_, _, _, _, _, _, _, _, _, _, ⟨g3, t3, cs3, f3, p3, q3, hg3, ht3, hv3, hd3, ⟨_, _, _, _, _, _, _, _, _, _, ⟨g5, t5, cs5, f5, p5, q5, hg5, ht5, hv5, hd5, _, _⟩, _⟩, _⟩, _⟩, _⟩, _, _⟩ := h
  exact ⟨⟨follows_of hg5 ht5 hv5 hd5, someMax_of hs, size_of hs⟩, tab_of hg3 ht3 hv3 hd3⟩

theorem sg_of (v : Int) : sg (decide (v < 0)) v.natAbs = v := by
  by_cases h : v < 0
  · rw [decide_eq_true h, sg_true]; omega
  · rw [decide_eq_false h, sg_false]; omega
theorem print_len (neg : Bool) (S : Nat) (h : S ≤ 9223372036854775808) : (printL neg S).length ≤ 100 := by
  have a : (signL neg).length ≤ 1 := by cases neg <;> simp [signL]
  have b : (digL (S / 65536)).length ≤ 20 := digL_len (S / 65536) 19 (by omega)
  have c := frac_len 16 (S % 65536)
  have d : (ptL (decide (S % 65536 ≠ 0)) (frac 16 (S % 65536))).length ≤ 17 := by
    unfold ptL
    split <;> simp; omega
  unfold printL
  rw [List.length_append, List.length_append]
  omega

set_option maxHeartbeats 1000000 in
theorem walk (v : Int) (hv : (Lit.int .i64 v).wf = true) (w : World) (T6 : Tabs6 w) :
    Calls Tryd.prog 4 #[.int .i64 v] w fun e w' => e = .returned (.bool true) ∧ Below w.heap.size w w' := by
  have hi := i64_wf hv
  have hS : v.natAbs ≤ 9223372036854775808 := by have := hi.1; have := hi.2; omega
  have K := Lib.hid (wakes_any w T6.tabs)
  have HT := Lib.hid T6.tabs
  have HP := Lib.hid T6.pow
  have PR := Lib.hid (fun w hs ht => print_any v hi w hs ht)
  have RP := Lib.hid (fun w => rprint_any v hi w)
  have PA := Lib.hid (fun w T => Parse_num ⟨(printL (decide (v < 0)) v.natAbs).toArray⟩ (signL (decide (v < 0))) _ _ _ none w (by rw [ba_size]; have := print_len (decide (v < 0)) v.natAbs hS; omega) T (by rw [ba_list]; exact print_num (decide (v < 0)) v.natAbs))
  rw [print_ans, sg_of] at PA
  unfold Tells at PA
  generalize (⟨(printL (decide (v < 0)) v.natAbs).toArray⟩ : ByteArray) = s at *
  obtain ⟨v0, v1⟩ := hi
  clear hS hv T6
  go_enter Tryd.func4, Tryd.ntmps4
  go_wp2_with fail
  refine K.out.mono ?_
  rintro e w1 ⟨rfl, b1⟩
  have T1 := Lib.hid (HT.out.next b1)
  have P1 := Lib.hid (tab_below HP.out b1 (by have := HT.out.size; omega))
  have B1 := Lib.hid b1
  clear K HT HP b1
  go_wp2_with fail
  refine (PR.out _ T1.out.size P1.out).mono ?_
  rintro e w2 ⟨rfl, b2⟩
  have T2 := Lib.hid (T1.out.next b2)
  have B2 := Lib.hid (B1.out.trans (b2.mono B1.out.size))
  clear PR T1 P1 B1 b2
  go_wp2_with fail
  refine (PA.out _ T2.out).mono ?_
  rintro e w3 ⟨rfl, b3⟩
  have B3 := Lib.hid (B2.out.trans (b3.mono B2.out.size))
  clear PA T2 B2 b3
  go_wp2_with fail
  refine (RP.out _).mono ?_
  rintro e w4 ⟨rfl, b4⟩
  have B4 := Lib.hid (B3.out.trans (b4.mono B3.out.size))
  clear RP B3 b4
  by_cases h1 : -4294967296 < v
  · by_cases h2 : v < 4294967296
    · rw [show ansV v = (v, 0) from if_pos ⟨h1, h2⟩]
      go_wp2_with fail
      go_ret
      exact ⟨by simp, B4.out⟩
    · rw [show ansV v = (0, 2) from if_neg fun h => h2 h.2]
      go_wp2_with fail
      go_ret
      exact ⟨by simp, B4.out⟩
  · rw [show ansV v = (0, 2) from if_neg fun h => h1 h.1]
    go_wp2_with fail
    go_ret
    exact ⟨by simp, B4.out⟩

set_option maxRecDepth 100000 in
theorem lifted (os : Os) (started : os.Started) (H : Type) (enc : TypeId × Value → H) :
    ReturnsInHanded {} Tryd.checked os 4 .any (fun w args => (Rows.decPrintsSpec.pre enc Tryd.prog Tryd.f4 Rows.decPrintsRow.domain false w args ∧ laidMetH Tryd.prog laid6 w) ∧ sizedMet enc Tryd.prog Tryd.f4 (OpenSpec.ofChange Rows.decPrintsSpec) false w args)
      (Rows.decPrintsSpec.post enc Tryd.prog Tryd.f4 false true false false) := by
  refine wrap_laid (C := Tryd.checked) (X := fun w _ => laidMetH Tryd.prog laid6 w) (fun _ _ _ hh h => h.of_heap hh) own started (by kernel_rfl) Tryd.func4
    (ChangeSpec.witness_shaped (enc := enc) (C := Tryd.checked) (os := os) (X := fun w _ => laidMetH Tryd.prog laid6 w) false (World.laidAll Tryd.prog os laid6) #[.int .i64 0] 8 (World.laidAll_os _ _ _)
      (World.shaped_of_ZipB (by kernel_rfl) (by kernel_rfl)) (by kernel_rfl) (by kernel_rfl) (by kernel_rfl)
      (by rw [MakeChecks.laidMetH_plain _ _ _ (by kernel_rfl)]; exact laidMet_laidAll _ (by kernel_rfl) (by kernel_rfl))) ?_
  intro W base args ds gs before hval0 hW hcnd _ hL hS _
  have hval : ∀ (j : Nat) t v, Tryd.f4.params[j]? = some t → args[j]? = some v → Value.okWide Tryd.prog W .any base t v := hval0
  have hW' := hW
  obtain ⟨p, q, hA0, hV, rfl, hfz, hnd⟩ := hW
  have hA : DataW.TrodAll enc Tryd.prog W 0 (fun _ => true) true Tryd.f4.params.toList args.toList ds p := hA0
  rw [Tryd.params4] at hA hval
  obtain ⟨v0, d0, rfl, rfl, h0⟩ := trodAll_one hA
  obtain ⟨rfl, rfl⟩ := trodVars_none hV
  obtain ⟨a0, rfl, rfl, rfl, w0⟩ := open_int Tryd.underlying2 (hval 0 2 v0 rfl rfl) h0
  clear hA0 hval0
  simp only [List.append_nil] at hW'
  refine (walk a0 w0 W (tabs6_of hL hS)).mono fun e W' ⟨he, hg⟩ => ?_
  subst he
  exact ⟨_, rfl, ⟨_, _, _, [], _, [], hW', trodAll_mk1 (shut_bool Tryd.underlying4 _), trodAll_mk1 (shut_int Tryd.underlying2 w0), rfl, hg.frame _, fun h => by cases h⟩⟩

/-- The row's statement. -/
theorem row_holds : Rows.DecPrintsSaid :=
  OpenClaim.holds_of_wide 4 Tryd.f4 rfl rfl rfl rfl rfl rfl rfl ⟨rfl, rfl, rfl, rfl, rfl⟩ rfl rfl rfl rfl rfl (by kernel_rfl) Tryd.func4 (by kernel_rfl)
    (of_decide_eq_true (by kernel_rfl)) (by unfold Func.isWrapper; first | (rw [if_pos (by decide +kernel)]; kernel_rfl) | (rw [if_neg (by decide +kernel)]; exact ⟨rfl, rfl⟩))
    (fun os started H enc _ => lifted os started H enc)
/-- The given statement: the card. -/
theorem proved : Rows.DecPrintsCardSaid :=
  Claim7.holds_tied_plain_at .later [] [.data, .data, .data, .data, .data, .pinned] true (true, "b7df859e86617f85e817c49308b948cd4c0335cb55bafe23485998e54c1e145d") false row_holds (fun _ h => by cases h) (by kernel_rfl) (fun _ h => by cases h) decPrints_row_tie rfl ⟨rfl, rfl⟩ (by kernel_rfl) rfl
    (fun f fn hf hfn => by
      obtain rfl : f = 4 := Option.some.inj ((show Tryd.prog.funcNamed "pointillist/pointillistlaw04.DecPrints" = some 4 by kernel_rfl).symm.trans hf) |>.symm
      obtain rfl : fn = Tryd.f4 := (Option.some.inj (Tryd.func4.symm.trans hfn)).symm
      exact ⟨by kernel_rfl, fun j t ht => by
        rw [Tryd.params4] at ht
        have hm : t ∈ [2] := by simpa using Array.mem_of_getElem? ht
        have hall : ([2].all fun u => !Tryd.prog.wantsStandIn u) = true := by kernel_rfl
        exact (show Tryd.prog.wantsStandIn t = false by simpa using List.all_eq_true.1 hall t hm)⟩)
    (by kernel_rfl)
end Go.Proofs.YtfikkfiihknccaaDoor.decPrints
