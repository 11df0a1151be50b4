/-
  PROVED: the statement of PathParses, for every input: any text is the groups, the place and the error that the document says. No conditions but what the card lists.
-/
import Derived.Test.YtchngbdkgfjpcaaDoorRef6Parse
import Derived.Test.YtchngbdkgfjpcaaDoorRef6Same
import Derived.Test.YtchngbdkgfjpcaaDoorPathCount
import Derived.Test.YtchngbdkgfjpcaaDoorPathTrod
import Derived.Test.YtchngbdkgfjpcaaDoorPathLaid
import Derived.Test.YtchngbdkgfjpcaaDoorPathWakes
namespace Go.Proofs.YtchngbdkgfjpcaaDoor.pathParses
open Go.ChangeShapes Go.WideShapes Go.ChangeAt Go.RowKit Go.Shelf

set_option maxHeartbeats 4000000 in
set_option maxRecDepth 100000 in
theorem walk (s : ByteArray) (hs : s.size ≤ maxLen) (w : World) (T : PTabs w) :
    Calls Tryd.prog 3 #[.string s] w fun e w' => e = .returned (.bool true) ∧ Below w.heap.size w w' := by
  have K := Lib.hid (wakes6 w T)
  have HT := Lib.hid T
  have hs' : s.size ≤ 9223372036854775807 := hs
  clear T
  by_cases h100 : 100 < s.size
  · have hI : (100 : Int) < (s.size : Int) := by omega
    go_enter Tryd.func3, Tryd.ntmps3
    go_wp2_with fail
    refine K.out.mono ?_
    rintro e w1 ⟨rfl, b1⟩
    go_wp2_with fail
    go_ret
    exact ⟨rfl, b1⟩
  · have hI : ¬ (100 : Int) < (s.size : Int) := by omega
    have P := Lib.hid (fun w T => PParse_any s w (by omega) T)
    have R := Lib.hid (fun w => rParse6_any s w (by omega))
    unfold PParsePost at P
    unfold ToldPost at R
    have HL := Lib.hid (all_len (txOf s))
    have HN := Lib.hid (path_count s (by omega))
    generalize pathAll (txOf s) = RES at *
    obtain ⟨l, z, er⟩ := RES
    have SM := Lib.hid (fun a b ca cb w hA hB => same_any a b l ca cb w (by have h := HN.out; have h' : l.length ≤ s.size := h; omega) hA hB)
    have hz : (z == z) = true := by simp
    have he : (er == er) = true := by simp
    go_enter Tryd.func3, Tryd.ntmps3
    go_wp2_with fail
    refine K.out.mono ?_
    rintro e w1 ⟨rfl, b1⟩
    have B1 := Lib.hid b1
    have T1 := Lib.hid (HT.out.next b1)
    clear b1
    go_wp2_with fail
    refine (P.out _ T1.out).mono ?_
    rintro e w2 ⟨v, rfl, hc, b2⟩
    obtain ⟨a, cap, rfl, hr⟩ := hc.reads HL.out
    have HR := Lib.hid hr
    have B2 := Lib.hid (B1.out.trans (b2.mono B1.out.size))
    clear hc hr b2
    go_wp2_with fail
    refine (R.out _).mono ?_
    rintro e w3 ⟨v, rfl, hc, b3⟩
    obtain ⟨a3, cap3, rfl, hr3⟩ := hc.reads HL.out
    have bal := (Below.refl w3.heap.size w3).alloc (Nat.le_refl _) (.cells #[.slice a3 l.length cap3, .int .i64 z, .int .i64 er] 28)
    have HA := Lib.hid ((HR.out.next b3).next bal)
    have HB := Lib.hid (hr3.next bal)
    have hsz3 : w.heap.size ≤ w3.heap.size := Nat.le_trans B2.out.size b3.size
    have B4 := Lib.hid ((B2.out.trans (b3.mono B2.out.size)).trans (bal.mono hsz3))
    have TA := Lib.hid (show ToldAt w3.heap.size (.slice a3 l.length cap3) z er (w3.alloc (.cells #[.slice a3 l.length cap3, .int .i64 z, .int .i64 er] 28)) from World.alloc_heap_new w3 _)
    have hsz4 : w.heap.size ≤ (w3.alloc (.cells #[.slice a3 l.length cap3, .int .i64 z, .int .i64 er] 28)).heap.size := by simp; omega
    clear hc hr3 b3 bal
    go_wp2_with fail
    refine (SM.out a a3 cap cap3 _ HA.out HB.out).mono ?_
    rintro e w5 ⟨rfl, b5⟩
    have T5 := TA.out.below b5 TA.out.lt
    have y1 := T5.c1
    have y2 := T5.c2
    have B5 := Lib.hid (B4.out.trans (b5.mono hsz4))
    clear b5
    go_wp2_with fail
    go_ret
    exact ⟨rfl, B5.out⟩
set_option maxRecDepth 100000 in
theorem lifted (os : Os) (started : os.Started) (H : Type) (enc : TypeId × Value → H) :
    ReturnsInHanded {} Tryd.checked os 3 .any (fun w args => (Rows.pathParsesSpec.pre enc Tryd.prog Tryd.f3 Rows.pathParsesRow.domain false w args ∧ laidMetH Tryd.prog laid5 w) ∧ sizedMet enc Tryd.prog Tryd.f3 (OpenSpec.ofChange Rows.pathParsesSpec) false w args)
      (Rows.pathParsesSpec.post enc Tryd.prog Tryd.f3 false true false false) := by
  refine wrap_laid (C := Tryd.checked) (X := fun w _ => laidMetH Tryd.prog laid5 w) (fun _ _ _ hh h => h.of_heap hh) own started (by kernel_rfl) Tryd.func3
    (ChangeSpec.witness_shaped (enc := enc) (C := Tryd.checked) (os := os) (X := fun w _ => laidMetH Tryd.prog laid5 w) false (World.laidAll Tryd.prog os laid5) #[.string ⟨#[]⟩] 8 (World.laidAll_os _ _ _)
      (World.shaped_of_ZipB (by kernel_rfl) (by kernel_rfl)) (by kernel_rfl) (by kernel_rfl) (by kernel_rfl)
      (by rw [MakeChecks.laidMetH_plain _ _ _ (by kernel_rfl)]; exact laidMet_laidAll _ (by kernel_rfl) (by kernel_rfl))) ?_
  intro W base args ds gs before hval0 hW hcnd _ hL hS _
  have hval : ∀ (j : Nat) t v, Tryd.f3.params[j]? = some t → args[j]? = some v → Value.okWide Tryd.prog W .any base t v := hval0
  have hW' := hW
  obtain ⟨p, q, hA0, hV, rfl, hfz, hnd⟩ := hW
  have hA : DataW.TrodAll enc Tryd.prog W 0 (fun _ => true) true Tryd.f3.params.toList args.toList ds p := hA0
  rw [Tryd.params3] at hA hval
  obtain ⟨v0, d0, rfl, rfl, h0⟩ := trodAll_one hA
  obtain ⟨rfl, rfl⟩ := trodVars_none hV
  obtain ⟨a0, rfl, rfl, rfl, w0⟩ := Go.ChangeMaps.open_string Tryd.underlying9 (hval 0 9 v0 rfl rfl) h0
  clear hA0 hval0
  simp only [List.append_nil] at hW'
  refine (walk a0 w0 W (ptabs_of hL hS)).mono fun e W' ⟨he, hg⟩ => ?_
  subst he
  exact ⟨_, rfl, ⟨_, _, _, [], _, [], hW', trodAll_mk1 (shut_bool Tryd.underlying4 _), trodAll_mk1 (Go.ChangeMaps.shut_string Tryd.underlying9 w0), rfl, hg.frame _, fun h => by cases h⟩⟩

/-- The row's statement. -/
theorem row_holds : Rows.PathParsesSaid :=
  OpenClaim.holds_of_wide 3 Tryd.f3 rfl rfl rfl rfl rfl rfl rfl ⟨rfl, rfl, rfl, rfl, rfl⟩ rfl rfl rfl rfl rfl (by kernel_rfl) Tryd.func3 (by kernel_rfl)
    (of_decide_eq_true (by kernel_rfl)) (by unfold Func.isWrapper; first | (rw [if_pos (by decide +kernel)]; kernel_rfl) | (rw [if_neg (by decide +kernel)]; exact ⟨rfl, rfl⟩))
    (fun os started H enc _ => lifted os started H enc)
/-- The given statement: the card. -/
theorem proved : Rows.PathParsesCardSaid :=
  Claim7.holds_tied_plain_at .later [] [.data, .data, .data, .data, .pinned] true (true, "a2f9e4236b97a93f752a6656de1a2521f3938fee15b2255bd59542caf6cf3f5e") false row_holds (fun _ h => by cases h) (by kernel_rfl) (fun _ h => by cases h) pathParses_row_tie rfl ⟨rfl, rfl⟩ (by kernel_rfl) rfl
    (fun f fn hf hfn => by
      obtain rfl : f = 3 := Option.some.inj ((show Tryd.prog.funcNamed "pointillist/pointillistlaw06.PathParses" = some 3 by kernel_rfl).symm.trans hf) |>.symm
      obtain rfl : fn = Tryd.f3 := (Option.some.inj (Tryd.func3.symm.trans hfn)).symm
      exact ⟨by kernel_rfl, fun j t ht => by
        rw [Tryd.params3] at ht
        have hm : t ∈ [9] := by simpa using Array.mem_of_getElem? ht
        have hall : ([9].all fun u => !Tryd.prog.wantsStandIn u) = true := by kernel_rfl
        exact (show Tryd.prog.wantsStandIn t = false by simpa using List.all_eq_true.1 hall t hm)⟩)
    (by kernel_rfl)
end Go.Proofs.YtchngbdkgfjpcaaDoor.pathParses
