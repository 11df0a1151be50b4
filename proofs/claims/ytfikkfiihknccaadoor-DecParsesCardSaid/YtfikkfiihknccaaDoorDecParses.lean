/-
  PROVED: the statement of DecParses, for every input: any text is the nearest number to its value, or too great, or no number's text, as the document's answer says. No conditions but what the row lists: package variables as the program's text lays them.
-/
import Derived.Test.YtfikkfiihknccaaDoorRef4Parse
import Derived.Test.YtfikkfiihknccaaDoorDecWakes
import Derived.Test.YtfikkfiihknccaaDoorDecLaid
namespace Go.Proofs.YtfikkfiihknccaaDoor.decParses
open Go.ChangeShapes Go.WideShapes Go.ChangeAt Go.RowKit Go.Shelf

/-- Both answer one and the same. -/
theorem both (s : ByteArray) (hs : s.size ≤ 60) : ∃ an : Int × Int, (an.2 = 0 ∨ an.2 = 2 ∨ an.2 = 3) ∧ (∀ w, Tabs w → Calls Tryd.prog 8 #[.string s] w (Tells an w)) ∧ (∀ w, Calls Tryd.prog 9 #[.string s] w (Tells an w)) := by
  by_cases h : Acc s.data.toList 1
  · obtain ⟨sg', a, pt, b, x, hn⟩ := acc1 _ h
    refine ⟨ansF sg' a b x, ?_, fun w T => Parse_num s sg' a pt b x w (by omega) T hn, fun w => rparse_num s sg' a pt b x w (by omega) hn⟩
    unfold ansF ansV
    split
    · exact Or.inl rfl
    · exact Or.inr (Or.inl rfl)
  · exact ⟨(0, 3), Or.inr (Or.inr rfl), fun w T => Parse_bad s w (by omega) T h, fun w => rparse_bad s w (by omega) h⟩

theorem walk (s : ByteArray) (hs : s.size ≤ maxLen) (w : World) (T : Tabs w) :
    Calls Tryd.prog 3 #[.string s] w fun e w' => e = .returned (.bool true) ∧ Below w.heap.size w w' := by
  have K := Lib.hid (wakes_any w T)
  have HT := Lib.hid T
  have hm : s.size ≤ 9223372036854775807 := hs
  clear T hs
  by_cases h60 : s.size ≤ 60
  · obtain ⟨an, hc, h1, h2⟩ := both s h60
    have A := Lib.hid h1
    have B := Lib.hid h2
    unfold Tells at A B
    clear h1 h2
    go_enter Tryd.func3, Tryd.ntmps3
    go_wp2_with fail
    refine K.out.mono ?_
    rintro e w1 ⟨rfl, b1⟩
    have T1 := Lib.hid (HT.out.next b1)
    have B1 := Lib.hid b1
    clear K HT b1
    go_wp2_with fail
    refine (A.out _ T1.out).mono ?_
    rintro e w2 ⟨rfl, b2⟩
    have B2 := Lib.hid (B1.out.trans (b2.mono B1.out.size))
    clear B1 b2 T1 A
    go_wp2_with fail
    refine (B.out _).mono ?_
    rintro e w3 ⟨rfl, b3⟩
    have B3 := Lib.hid (B2.out.trans (b3.mono B2.out.size))
    clear B2 b3 B
    obtain ⟨n, e⟩ := an
    have m1 : IntKind.i64.wrap e = e := IntWalk.i64_in _ (by simp at hc; omega)
    clear hc
    go_wp2_with fail
    go_ret
    exact ⟨by simp, B3.out⟩
  · go_enter Tryd.func3, Tryd.ntmps3
    go_wp2_with fail
    refine K.out.mono ?_
    rintro e w1 ⟨rfl, b1⟩
    have B1 := Lib.hid b1
    clear K HT b1
    go_wp2_with fail
    go_ret
    exact ⟨rfl, B1.out⟩

set_option maxRecDepth 100000 in
theorem lifted (os : Os) (started : os.Started) (H : Type) (enc : TypeId × Value → H) :
    ReturnsInHanded {} Tryd.checked os 3 .any (fun w args => (Rows.decParsesSpec.pre enc Tryd.prog Tryd.f3 Rows.decParsesRow.domain false w args ∧ laidMetH Tryd.prog laid3 w) ∧ sizedMet enc Tryd.prog Tryd.f3 (OpenSpec.ofChange Rows.decParsesSpec) false w args)
      (Rows.decParsesSpec.post enc Tryd.prog Tryd.f3 false true false false) := by
  refine wrap_laid (C := Tryd.checked) (X := fun w _ => laidMetH Tryd.prog laid3 w) (fun _ _ _ hh h => h.of_heap hh) own started (by kernel_rfl) Tryd.func3
    (ChangeSpec.witness_shaped (enc := enc) (C := Tryd.checked) (os := os) (X := fun w _ => laidMetH Tryd.prog laid3 w) false (World.laidAll Tryd.prog os laid3) #[.string ⟨#[]⟩] 8 (World.laidAll_os _ _ _)
      (World.shaped_of_ZipB (by kernel_rfl) (by kernel_rfl)) (by kernel_rfl) (by kernel_rfl) (by kernel_rfl)
      (by rw [MakeChecks.laidMetH_plain _ _ _ (by kernel_rfl)]; exact laidMet_laidAll _ (by kernel_rfl) (by kernel_rfl))) ?_
  intro W base args ds gs before hval0 hW hcnd _ hL hS _
  have hval : ∀ (j : Nat) t v, Tryd.f3.params[j]? = some t → args[j]? = some v → Value.okWide Tryd.prog W .any base t v := hval0
  have hW' := hW
  obtain ⟨p, q, hA0, hV, rfl, hfz, hnd⟩ := hW
  have hA : DataW.TrodAll enc Tryd.prog W 0 (fun _ => true) true Tryd.f3.params.toList args.toList ds p := hA0
  rw [Tryd.params3] at hA hval
  obtain ⟨v0, d0, rfl, rfl, h0⟩ := trodAll_one hA
  obtain ⟨rfl, rfl⟩ := trodVars_none hV
  obtain ⟨a0, rfl, rfl, rfl, w0⟩ := Go.ChangeMaps.open_string Tryd.underlying9 (hval 0 9 v0 rfl rfl) h0
  clear hA0 hval0
  simp only [List.append_nil] at hW'
  refine (walk a0 w0 W (tabs_of hL hS)).mono fun e W' ⟨he, hg⟩ => ?_
  subst he
  exact ⟨_, rfl, ⟨_, _, _, [], _, [], hW', trodAll_mk1 (shut_bool Tryd.underlying4 _), trodAll_mk1 (Go.ChangeMaps.shut_string Tryd.underlying9 w0), rfl, hg.frame _, fun h => by cases h⟩⟩

/-- The row's statement. -/
theorem row_holds : Rows.DecParsesSaid :=
  OpenClaim.holds_of_wide 3 Tryd.f3 rfl rfl rfl rfl rfl rfl rfl ⟨rfl, rfl, rfl, rfl, rfl⟩ rfl rfl rfl rfl rfl (by kernel_rfl) Tryd.func3 (by kernel_rfl)
    (of_decide_eq_true (by kernel_rfl)) (by unfold Func.isWrapper; first | (rw [if_pos (by decide +kernel)]; kernel_rfl) | (rw [if_neg (by decide +kernel)]; exact ⟨rfl, rfl⟩))
    (fun os started H enc _ => lifted os started H enc)
/-- The given statement: the card. -/
theorem proved : Rows.DecParsesCardSaid :=
  Claim7.holds_tied_plain_at .later [] [.data, .data, .pinned] true (true, "b7df859e86617f85e817c49308b948cd4c0335cb55bafe23485998e54c1e145d") false row_holds (fun _ h => by cases h) (by kernel_rfl) (fun _ h => by cases h) decParses_row_tie rfl ⟨rfl, rfl⟩ (by kernel_rfl) rfl
    (fun f fn hf hfn => by
      obtain rfl : f = 3 := Option.some.inj ((show Tryd.prog.funcNamed "pointillist/pointillistlaw04.DecParses" = some 3 by kernel_rfl).symm.trans hf) |>.symm
      obtain rfl : fn = Tryd.f3 := (Option.some.inj (Tryd.func3.symm.trans hfn)).symm
      exact ⟨by kernel_rfl, fun j t ht => by
        rw [Tryd.params3] at ht
        have hm : t ∈ [9] := by simpa using Array.mem_of_getElem? ht
        have hall : ([9].all fun u => !Tryd.prog.wantsStandIn u) = true := by kernel_rfl
        exact (show Tryd.prog.wantsStandIn t = false by simpa using List.all_eq_true.1 hall t hm)⟩)
    (by kernel_rfl)
end Go.Proofs.YtfikkfiihknccaaDoor.decParses
