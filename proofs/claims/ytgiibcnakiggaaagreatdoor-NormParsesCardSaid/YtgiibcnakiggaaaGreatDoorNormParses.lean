/-
  PROVED: the statement of NormParses, for every input: any text is the segments, the place and the error that the document says. No conditions but what the card lists.
-/
import Derived.Test.YtgiibcnakiggaaaGreatDoorRef7Parse
import Derived.Test.YtgiibcnakiggaaaGreatDoorJNPath
import Derived.Test.YtgiibcnakiggaaaGreatDoorPathTrod
import Derived.Test.YtgiibcnakiggaaaGreatDoorPathLaid
namespace Go.Proofs.YtgiibcnakiggaaaGreatDoor.normParses
open Go.ChangeShapes Go.WideShapes Go.ChangeAt Go.RowKit Go.Shelf

theorem open_few (l : List Seg) (c : Cmd) : (openL l c).length ≤ l.length + 1 := by
  unfold openL
  repeat' split
  all_goals simp
theorem walk_few : ∀ (cs : List Cmd) (l : List Seg) (was i : Nat), (walkR l was cs i).1.length ≤ l.length + 2 * cs.length := by
  intro cs
  induction cs with
  | nil => intro l was i; simp [walkR]
  | cons c t ih =>
    intro l was i
    unfold walkR
    split
    · have h1 := ih (openL l c ++ [oneS c (ptL7 l) (openL l c) was]) (capL c.letter) (i + 1)
      have h2 := open_few l c
      simp only [List.length_append, List.length_cons, List.length_nil] at h1 ⊢
      omega
    · simp
theorem parse_few (s : ByteArray) (hs : s.size ≤ 100) : (parseW s).1.length ≤ 1000000000 := by
  have h := walk_few (pathAll (txOf s)).1 [] 0 0
  have h2 := path_count s (by omega)
  have h3 : ([] : List Seg).length = 0 := rfl
  unfold parseW
  split
  · show (walkR [] 0 (pathAll (txOf s)).1 0).1.length ≤ _; omega
  · show (walkR [] 0 (pathAll (txOf s)).1 0).1.length ≤ _; omega
set_option maxHeartbeats 4000000 in
set_option maxRecDepth 100000 in
theorem walk (s : ByteArray) (hs : s.size ≤ maxLen) (w : World) (T : PTabs w) :
    Calls Tryz.prog 3 #[.string s] w fun e w' => e = .returned (.bool true) ∧ Below w.heap.size w w' := by
  have K := Lib.hid (wakes7 w T)
  have HT := Lib.hid T
  have hs' : s.size ≤ 9223372036854775807 := hs
  clear T
  by_cases h100 : 100 < s.size
  · have hI : (100 : Int) < (s.size : Int) := by omega
    go_enter Tryz.func3, Tryz.ntmps3
    go_wp2_with fail
    refine K.out.mono ?_
    rintro e w1 ⟨rfl, b1⟩
    go_wp2_with fail
    go_ret
    exact ⟨rfl, b1⟩
  · have hI : ¬ (100 : Int) < (s.size : Int) := by omega
    have P := Lib.hid (fun w T => NParse_any s w (by omega) (by have := path_count s (by omega); omega) T)
    rw [← parse_same s (by omega)] at P
    unfold SegPost at P
    have R := Lib.hid (fun w => rParse7_any s w (by omega))
    unfold Told7Post at R
    have HF := Lib.hid (parse_few s (by omega))
    generalize parseW s = RES at *
    obtain ⟨l, z, er⟩ := RES
    have SM := Lib.hid (fun a b ca cb w hA hB => same7_any a b l ca cb w HF.out hA hB)
    have hz : (z == z) = true := by simp
    have he : (er == er) = true := by simp
    go_enter Tryz.func3, Tryz.ntmps3
    go_wp2_with fail
    refine K.out.mono ?_
    rintro e w1 ⟨rfl, b1⟩
    have B1 := Lib.hid b1
    have T1 := Lib.hid (HT.out.next b1)
    clear b1
    go_wp2_with fail
    refine (P.out _ T1.out).mono ?_
    rintro e w2 ⟨a, cap, rfl, hr, hcap, b2⟩
    have HR := Lib.hid hr
    have B2 := Lib.hid (B1.out.trans (b2.mono B1.out.size))
    clear hr b2 hcap
    go_wp2_with fail
    refine (R.out _).mono ?_
    rintro e w3 ⟨a3, cap3, rfl, hr3, hcap, b3⟩
    have bal := (Below.refl w3.heap.size w3).alloc (Nat.le_refl _) (.cells #[.slice a3 l.length cap3, .int .i64 z, .int .i64 er] 28)
    have HA := Lib.hid ((HR.out.next b3).next bal)
    have HB := Lib.hid (hr3.next bal)
    have hsz3 : w.heap.size ≤ w3.heap.size := Nat.le_trans B2.out.size b3.size
    have B4 := Lib.hid ((B2.out.trans (b3.mono B2.out.size)).trans (bal.mono hsz3))
    have TA := Lib.hid (show Told7At w3.heap.size (.slice a3 l.length cap3) z er (w3.alloc (.cells #[.slice a3 l.length cap3, .int .i64 z, .int .i64 er] 28)) from World.alloc_heap_new w3 _)
    have hsz4 : w.heap.size ≤ (w3.alloc (.cells #[.slice a3 l.length cap3, .int .i64 z, .int .i64 er] 28)).heap.size := by simp; omega
    clear hr3 hcap b3 bal
    go_wp2_with fail
    refine (SM.out a a3 cap cap3 _ HA.out HB.out).mono ?_
    rintro e w5 ⟨rfl, b5⟩
    have T5 := TA.out.below b5 TA.out.lt
    have y1 := T5.c1
    have y2 := T5.c2
    have B5 := Lib.hid (B4.out.trans (b5.mono hsz4))
    clear b5
    go_wp2_with fail
    go_ret
    exact ⟨rfl, B5.out⟩
set_option maxRecDepth 100000 in
theorem lifted (os : Os) (started : os.Started) (H : Type) (enc : TypeId × Value → H) :
    ReturnsInHanded {} Tryz.checked os 3 .any (fun w args => (Rows.normParsesSpec.pre enc Tryz.prog Tryz.f3 Rows.normParsesRow.domain false w args ∧ laidMetH Tryz.prog laid5 w) ∧ sizedMet enc Tryz.prog Tryz.f3 (OpenSpec.ofChange Rows.normParsesSpec) false w args)
      (Rows.normParsesSpec.post enc Tryz.prog Tryz.f3 false true false false) := by
  refine wrap_laid (C := Tryz.checked) (X := fun w _ => laidMetH Tryz.prog laid5 w) (fun _ _ _ hh h => h.of_heap hh) own started (by kernel_rfl) Tryz.func3
    (ChangeSpec.witness_shaped (enc := enc) (C := Tryz.checked) (os := os) (X := fun w _ => laidMetH Tryz.prog laid5 w) false (World.laidAll Tryz.prog os laid5) #[.string ⟨#[]⟩] 8 (World.laidAll_os _ _ _)
      (World.shaped_of_ZipB (by kernel_rfl) (by kernel_rfl)) (by kernel_rfl) (by kernel_rfl) (by kernel_rfl)
      (by rw [MakeChecks.laidMetH_plain _ _ _ (by kernel_rfl)]; exact laidMet_laidAll _ (by kernel_rfl) (by kernel_rfl))) ?_
  intro W base args ds gs before hval0 hW hcnd _ hL hS _
  have hval : ∀ (j : Nat) t v, Tryz.f3.params[j]? = some t → args[j]? = some v → Value.okWide Tryz.prog W .any base t v := hval0
  have hW' := hW
  obtain ⟨p, q, hA0, hV, rfl, hfz, hnd⟩ := hW
  have hA : DataW.TrodAll enc Tryz.prog W 0 (fun _ => true) true Tryz.f3.params.toList args.toList ds p := hA0
  rw [Tryz.params3] at hA hval
  obtain ⟨v0, d0, rfl, rfl, h0⟩ := trodAll_one hA
  obtain ⟨rfl, rfl⟩ := trodVars_none hV
  obtain ⟨a0, rfl, rfl, rfl, w0⟩ := Go.ChangeMaps.open_string Tryz.underlying9 (hval 0 9 v0 rfl rfl) h0
  clear hA0 hval0
  simp only [List.append_nil] at hW'
  refine (walk a0 w0 W (ptabs_of hL hS)).mono fun e W' ⟨he, hg⟩ => ?_
  subst he
  exact ⟨_, rfl, ⟨_, _, _, [], _, [], hW', trodAll_mk1 (shut_bool Tryz.underlying4 _), trodAll_mk1 (Go.ChangeMaps.shut_string Tryz.underlying9 w0), rfl, hg.frame _, fun h => by cases h⟩⟩

/-- The row's statement. -/
theorem row_holds : Rows.NormParsesSaid :=
  OpenClaim.holds_of_wide 3 Tryz.f3 rfl rfl rfl rfl rfl rfl rfl ⟨rfl, rfl, rfl, rfl, rfl⟩ rfl rfl rfl rfl rfl (by kernel_rfl) Tryz.func3 (by kernel_rfl)
    (of_decide_eq_true (by kernel_rfl)) (by unfold Func.isWrapper; first | (rw [if_pos (by decide +kernel)]; kernel_rfl) | (rw [if_neg (by decide +kernel)]; exact ⟨rfl, rfl⟩))
    (fun os started H enc _ => lifted os started H enc)
/-- The given statement: the card. -/
theorem proved : Rows.NormParsesCardSaid :=
  Claim7.holds_tied_plain_at .later [] [.data, .data, .data, .data, .pinned] true (true, "40b9d7f28d889098f6a036aee84c0132980ed52c8696fe269ef9e0ea3ed574e1") false row_holds (fun _ h => by cases h) (by kernel_rfl) (fun _ h => by cases h) normParses_row_tie rfl ⟨rfl, rfl⟩ (by kernel_rfl) rfl
    (fun f fn hf hfn => by
      obtain rfl : f = 3 := Option.some.inj ((show Tryz.prog.funcNamed "pointillist/pointillistlaw07.NormParses" = some 3 by kernel_rfl).symm.trans hf) |>.symm
      obtain rfl : fn = Tryz.f3 := (Option.some.inj (Tryz.func3.symm.trans hfn)).symm
      exact ⟨by kernel_rfl, fun j t ht => by
        rw [Tryz.params3] at ht
        have hm : t ∈ [9] := by simpa using Array.mem_of_getElem? ht
        have hall : ([9].all fun u => !Tryz.prog.wantsStandIn u) = true := by kernel_rfl
        exact (show Tryz.prog.wantsStandIn t = false by simpa using List.all_eq_true.1 hall t hm)⟩)
    (by kernel_rfl)
end Go.Proofs.YtgiibcnakiggaaaGreatDoor.normParses
