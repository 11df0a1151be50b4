/-
  PROVED: the statement of PathAll, for every input: the groups of any text are told one by one, up to where one stops. No conditions but what the card lists.
-/
import Derived.Test.YtgiibcnakiggaaaDoorPathAllT
import Derived.Test.YtgiibcnakiggaaaDoorRef6Parse
import Derived.Test.YtgiibcnakiggaaaDoorRef6Same
import Derived.Test.YtgiibcnakiggaaaDoorPathCount
import Derived.Test.YtgiibcnakiggaaaDoorPathTrod
import Derived.Test.YtgiibcnakiggaaaDoorPathLaid
import Derived.Test.YtgiibcnakiggaaaDoorPathWakes
namespace Go.Proofs.YtgiibcnakiggaaaDoor.pathAll
open Go.ChangeShapes Go.WideShapes Go.ChangeAt Go.RowKit Go.Shelf

theorem cap_ge {R : Nat} {a : Option Addr} {n cap : Nat} {l : List Cmd} {W : World} (h : Cmds R (.slice a n cap) l W) : l.length ≤ cap := by
  obtain ⟨avs, _, h2, _⟩ := h
  rcases h2.2 with ⟨h3, h4⟩ | ⟨g, cap', cur, hv, _, _, h5, _⟩
  · omega
  · cases hv; exact h5
theorem same_n (a b : Option Addr) (l : List Cmd) (n ca cb : Nat) (w : World) (hn : l.length = n) (hl : n ≤ 1000000000) (hA : RdC a l w) (hB : RdC b l w) :
    Calls Tryd.prog 8 #[.slice a n ca, .slice b n cb] w fun e w' => e = .returned (.bool true) ∧ Below w.heap.size w w' := by
  subst hn; exact same_any a b l ca cb w hl hA hB
set_option maxRecDepth 100000 in
set_option maxHeartbeats 4000000 in
theorem all_walk (s : ByteArray) (hs : s.size ≤ 100) (st : Nat) (hst : st < 256) (w : World) (T : PTabs w) :
    Calls Tryd.prog 3 #[.string s, .int .u8 (st : Int)] w fun e w' => e = .returned (.bool true) ∧ Below w.heap.size w w' := by
  have K := Lib.hid (wakes6 w T)
  have HT := Lib.hid T
  have hI : ¬ (100 : Int) < (s.size : Int) := by omega
  have TL := Lib.hid (fun m w T => told_all s m w hs T)
  have R := Lib.hid (fun w => rParse6_any s w (by omega))
  unfold ToldPost at R
  have HL := Lib.hid (all_len (txOf s))
  have HN := Lib.hid (path_count s (by omega))
  clear T
  generalize pathAll (txOf s) = RES at *
  obtain ⟨l, z, er⟩ := RES
  have hl : l.length ≤ 100 := by have h := HN.out; have h' : l.length ≤ s.size := h; omega
  have hl2 := Lib.hid hl
  have fld : ∀ (v : Value) (W : World), Sem.run Tryd.prog (Instr.field 25 (.agg #[v, .int .i64 z, .int .i64 er]) 0) W = .ok v W := by
    intro v W; kernel_rfl
  go_enter Tryd.func3, Tryd.ntmps3
  go_wp2_with fail
  refine K.out.mono ?_
  rintro e w1 ⟨rfl, b1⟩
  have B1 := Lib.hid b1
  have T1 := Lib.hid (HT.out.next b1)
  clear b1
  go_wp2_with fail
  refine (R.out _).mono ?_
  rintro e w3 ⟨v, rfl, hc, b3⟩
  obtain ⟨a3, cap3, rfl, hr3⟩ := hc.reads HL.out
  have hcap := cap_ge hc
  obtain ⟨m, hm, hml⟩ : ∃ m : Nat, min (st : Int) (l.length : Int) = (m : Int) ∧ m ≤ l.length := ⟨min st l.length, by omega, by omega⟩
  have B3 := Lib.hid (B1.out.trans (b3.mono B1.out.size))
  have T3 := Lib.hid (T1.out.next b3)
  have HR3 := Lib.hid hr3
  clear hc hr3 b3 R HN
  have f1 := fld (.slice a3 l.length cap3) w3
  go_wp2_with fail
  have TL1 := Lib.hid (show ∀ w, PTabs w → Calls Tryd.prog 9 #[.string s, .int .i64 999] w fun e w' => ∃ v, e = .returned v ∧ Cmds w.heap.size v (l.take 999) w' ∧ Below w.heap.size w w' from fun w T => TL.out 999 w T)
  have TL2 := Lib.hid (show ∀ w, PTabs w → Calls Tryd.prog 9 #[.string s, .int .i64 (m : Int)] w fun e w' => ∃ v, e = .returned v ∧ Cmds w.heap.size v (l.take m) w' ∧ Below w.heap.size w w' from fun w T => TL.out m w T)
  rw [List.take_of_length_le (show l.length ≤ 999 by omega)] at TL1
  have hcm : (m : Int) ≤ (cap3 : Int) := by omega
  have hlm : (l.take m).length = m := by rw [List.length_take]; omega
  have HLM := Lib.hid (show ∀ x ∈ l.take m, x.args.length ≤ maxLen from fun x hx => HL.out x (List.mem_of_mem_take hx))
  have S1 := Lib.hid (fun a ca w hA hB => same_any a a3 l ca cap3 w (by omega) hA hB)
  have S2 := Lib.hid (fun a ca w hA hB => same_n a a3 (l.take m) m ca cap3 w hlm (by omega) hA hB)
  clear TL f1 fld hm hml hcap
  have bd : Below w3.heap.size w3 w3.drew := (Below.refl _ w3).drew
  have TD := Lib.hid (T3.out.next bd)
  have HRD := Lib.hid (HR3.out.next bd)
  have BD := Lib.hid (B3.out.trans (bd.mono B3.out.size))
  have hsD : w.heap.size ≤ w3.drew.heap.size := B3.out.size
  clear bd T3 HR3
  go_region_with (first
    | (go_at_call 9; (with_reducible refine (TL1.out _ TD.out).mono ?_); rintro e wA ⟨v1, rfl, hc1, bA⟩; obtain ⟨a1, ca1, rfl, hr1⟩ := hc1.reads HL.out; have RA := Lib.hid hr1; have R3A := Lib.hid (HRD.out.next bA); have TA := Lib.hid (TD.out.next bA); have BA := Lib.hid (BD.out.trans (bA.mono hsD)); clear hc1 hr1 bA)
    | (go_at_call 8; (with_reducible refine (S1.out _ _ _ RA.out R3A.out).mono ?_); rintro e wB ⟨rfl, bB⟩; have R3B := Lib.hid (R3A.out.next bB); have TB := Lib.hid (TA.out.next bB); have BB := Lib.hid (BA.out.trans (bB.mono BA.out.size)); clear bB)
    | (go_at_call 9; (with_reducible refine (TL2.out _ TB.out).mono ?_); rintro e wC ⟨v2, rfl, hc2, bC⟩; obtain ⟨a2, ca2, e2, hr2⟩ := hc2.reads HLM.out; rw [hlm] at e2; subst e2; have RC := Lib.hid hr2; have R3C := Lib.hid ((R3B.out.next bC).take m); have BC := Lib.hid (BB.out.trans (bC.mono BB.out.size)); clear hc2 hr2 bC)
    | (go_at_call 8; (with_reducible refine (S2.out _ _ _ RC.out R3C.out).mono ?_); rintro e wE ⟨rfl, bE⟩; have BE := Lib.hid (BC.out.trans (bE.mono BC.out.size)); clear bE))
  all_goals
    go_wp2_with fail
    go_ret
    exact ⟨rfl, BE.out⟩
theorem u8_of (m : Int) (h : (Lit.int .u8 m).wf = true) : ∃ n : Nat, m = (n : Int) ∧ n < 256 := by
  have e1 : IntKind.u8.min = 0 := by decide
  have e2 : IntKind.u8.max = 255 := by decide
  have h3 : IntKind.u8.min ≤ m ∧ m ≤ IntKind.u8.max := by simpa [Lit.wf] using h
  exact ⟨m.toNat, by omega, by omega⟩
set_option maxRecDepth 100000 in
theorem walk (s : ByteArray) (hs : s.size ≤ maxLen) (m : Int) (hm : (Lit.int .u8 m).wf = true) (w : World) (T : PTabs w) :
    Calls Tryd.prog 3 #[.string s, .int .u8 m] w fun e w' => e = .returned (.bool true) ∧ Below w.heap.size w w' := by
  obtain ⟨st, rfl, hst⟩ := u8_of m hm
  by_cases h100 : s.size ≤ 100
  · exact all_walk s h100 st hst w T
  · have K := Lib.hid (wakes6 w T)
    have hs' : s.size ≤ 9223372036854775807 := hs
    have hI : (100 : Int) < (s.size : Int) := by omega
    clear T
    go_enter Tryd.func3, Tryd.ntmps3
    go_wp2_with fail
    refine K.out.mono ?_
    rintro e w1 ⟨rfl, b1⟩
    go_wp2_with fail
    go_ret
    exact ⟨rfl, b1⟩
set_option maxRecDepth 100000 in
theorem lifted (os : Os) (started : os.Started) (H : Type) (enc : TypeId × Value → H) :
    ReturnsInHanded {} Tryd.checked os 3 .any (fun w args => (Rows.pathAllSpec.pre enc Tryd.prog Tryd.f3 Rows.pathAllRow.domain false w args ∧ laidMetH Tryd.prog laid5 w) ∧ sizedMet enc Tryd.prog Tryd.f3 (OpenSpec.ofChange Rows.pathAllSpec) false w args)
      (Rows.pathAllSpec.post enc Tryd.prog Tryd.f3 false true false false) := by
  refine wrap_laid (C := Tryd.checked) (X := fun w _ => laidMetH Tryd.prog laid5 w) (fun _ _ _ hh h => h.of_heap hh) own started (by kernel_rfl) Tryd.func3
    (ChangeSpec.witness_shaped (enc := enc) (C := Tryd.checked) (os := os) (X := fun w _ => laidMetH Tryd.prog laid5 w) false (World.laidAll Tryd.prog os laid5) #[.string ⟨#[]⟩, .int .u8 0] 8 (World.laidAll_os _ _ _)
      (World.shaped_of_ZipB (by kernel_rfl) (by kernel_rfl)) (by kernel_rfl) (by kernel_rfl) (by kernel_rfl)
      (by rw [MakeChecks.laidMetH_plain _ _ _ (by kernel_rfl)]; exact laidMet_laidAll _ (by kernel_rfl) (by kernel_rfl))) ?_
  intro W base args ds gs before hval0 hW hcnd _ hL hS _
  have hval : ∀ (j : Nat) t v, Tryd.f3.params[j]? = some t → args[j]? = some v → Value.okWide Tryd.prog W .any base t v := hval0
  have hW' := hW
  obtain ⟨p, q, hA0, hV, rfl, hfz, hnd⟩ := hW
  have hA : DataW.TrodAll enc Tryd.prog W 0 (fun _ => true) true Tryd.f3.params.toList args.toList ds p := hA0
  rw [Tryd.params3] at hA hval
  obtain ⟨v0, v1, d0, d1, p0, p1, rfl, rfl, rfl, h0, h1⟩ := trodAll_two hA
  obtain ⟨rfl, rfl⟩ := trodVars_none hV
  obtain ⟨a0, rfl, rfl, rfl, w0⟩ := Go.ChangeMaps.open_string Tryd.underlying9 (hval 0 9 v0 rfl rfl) h0
  obtain ⟨a1, rfl, rfl, rfl, w1⟩ := open_int Tryd.underlying5 (hval 1 5 v1 rfl rfl) h1
  clear hA0 hval0
  simp only [List.append_nil] at hW'
  refine (walk a0 w0 a1 w1 W (ptabs_of hL hS)).mono fun e W' ⟨he, hg⟩ => ?_
  subst he
  exact ⟨_, rfl, ⟨_, _, _, [], _, [], hW', trodAll_mk1 (shut_bool Tryd.underlying4 _), trodAll_mk2 (Go.ChangeMaps.shut_string Tryd.underlying9 w0) (shut_int Tryd.underlying5 w1), rfl, hg.frame _, fun h => by cases h⟩⟩

/-- The row's statement. -/
theorem row_holds : Rows.PathAllSaid :=
  OpenClaim.holds_of_wide 3 Tryd.f3 rfl rfl rfl rfl rfl rfl rfl ⟨rfl, rfl, rfl, rfl, rfl⟩ rfl rfl rfl rfl rfl (by kernel_rfl) Tryd.func3 (by kernel_rfl)
    (of_decide_eq_true (by kernel_rfl)) (by unfold Func.isWrapper; first | (rw [if_pos (by decide +kernel)]; kernel_rfl) | (rw [if_neg (by decide +kernel)]; exact ⟨rfl, rfl⟩))
    (fun os started H enc _ => lifted os started H enc)
/-- The given statement: the card. -/
theorem proved : Rows.PathAllCardSaid :=
  Claim7.holds_tied_plain_at .later [] [.data, .data, .data, .data, .pinned] true (true, "a91fadd6773017aeedbe330bc28f304e2ff77a55a35594fb0a3b28a178ac557c") false row_holds (fun _ h => by cases h) (by kernel_rfl) (fun _ h => by cases h) pathAll_row_tie rfl ⟨rfl, rfl⟩ (by kernel_rfl) rfl
    (fun f fn hf hfn => by
      obtain rfl : f = 3 := Option.some.inj ((show Tryd.prog.funcNamed "pointillist/pointillistlaw06.PathAll" = some 3 by kernel_rfl).symm.trans hf) |>.symm
      obtain rfl : fn = Tryd.f3 := (Option.some.inj (Tryd.func3.symm.trans hfn)).symm
      exact ⟨by kernel_rfl, fun j t ht => by
        rw [Tryd.params3] at ht
        have hm : t ∈ [9, 5] := by simpa using Array.mem_of_getElem? ht
        have hall : ([9, 5].all fun u => !Tryd.prog.wantsStandIn u) = true := by kernel_rfl
        exact (show Tryd.prog.wantsStandIn t = false by simpa using List.all_eq_true.1 hall t hm)⟩)
    (by kernel_rfl)
end Go.Proofs.YtgiibcnakiggaaaDoor.pathAll
