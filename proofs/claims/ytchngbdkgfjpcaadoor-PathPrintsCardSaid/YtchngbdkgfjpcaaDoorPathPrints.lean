/-
  PROVED: the statement of PathPrints, for every input: any commands have the document's text, or none; what is printed is parsed as the same groups, but that L and l stand for what an M's or m's second group would be. No conditions but what the card lists.
-/
import Derived.Test.YtchngbdkgfjpcaaDoorRef6Pr
import Derived.Test.YtchngbdkgfjpcaaDoorRef6Same
import Derived.Test.YtchngbdkgfjpcaaDoorPathTrod
import Derived.Test.YtchngbdkgfjpcaaDoorPathLaid8
import Derived.Test.YtchngbdkgfjpcaaDoorPathWakes
namespace Go.Proofs.YtchngbdkgfjpcaaDoor.pathPrints
open Go.ChangeShapes Go.WideShapes Go.ChangeAt Go.RowKit Go.Shelf

theorem text_len : ∀ (l : List Cmd), (∀ x ∈ l, CmdOk x) → (printT l).length ≤ 204 * l.length := by
  intro l
  induction l with
  | nil => intro _; exact Nat.zero_le _
  | cons x t ih =>
    intro h
    have h1 := cmdT_len (h x List.mem_cons_self)
    have h2 := ih fun y hy => h y (List.mem_cons_of_mem _ hy)
    show (cmdT x ++ printT t).length ≤ _
    rw [List.length_append, List.length_cons]; omega
set_option maxHeartbeats 4000000 in
set_option maxRecDepth 100000 in
theorem walk (a : Option Addr) (l : List Cmd) (cap : Nat) (_hl : l.length ≤ maxLen) (w : World) (hA : RdC a l w) (T : PTabs8 w) :
    Calls Tryd.prog 6 #[.slice a l.length cap] w fun e w' => e = .returned (.bool true) ∧ Below w.heap.size w w' := by
  have K := Lib.hid (wakes6 w T.pt)
  have HT := Lib.hid T
  have HA := Lib.hid hA
  obtain ⟨g, hg0, hg1, hg⟩ := great_any a l cap 30 w hA (by decide)
  have GR := Lib.hid (fun w hA => great_any a l cap 30 w hA (by decide))
  clear hg0 hg1 hg g T hA
  by_cases hF : Few l 30
  · have hll : l.length ≤ 30 := hF.1
    have G := Lib.hid (fun w hA => show Calls Tryd.prog 19 #[.slice a l.length cap, .int .i64 ((30 : Nat) : Int)] w fun e w' => e = .returned (.bool false) ∧ w = w' from by
      obtain ⟨g, hg0, hg1, hg⟩ := GR.out w hA
      cases g with
      | false => exact hg
      | true => exact absurd hF (hg1 rfl))
    have PR := Lib.hid (fun w hA T => PPrint_any a l cap w (by omega) hA (fun i hi => by have := hF.2 i hi; omega) T)
    have MY := Lib.hid (fun w hA => rmay_any a l cap w (by omega) hA (fun i hi => by have := hF.2 i hi; omega))
    by_cases hm : MayL l
    · have HM := Lib.hid hm
      rw [mayB_true hm] at PR MY
      simp only [if_true] at PR
      have hlen := text_len l hm.1
      have hsz : (⟨(printT l).toArray⟩ : ByteArray).size = (printT l).length := by show (printT l).toArray.size = _; simp
      have PP := Lib.hid (fun w T => PParse_any ⟨(printT l).toArray⟩ w (by rw [hsz]; omega) T)
      unfold PParsePost at PP
      rw [all_print ⟨(printT l).toArray⟩ l (by rw [hsz]; omega) hm (by simp)] at PP
      have RP := Lib.hid (fun w hA => rPrint6_any a l cap w (by omega) hA hm)
      have SM := Lib.hid (fun b cb w hA hB => same_any b a l cb cap w (by omega) hA hB)
      have HARG := Lib.hid (show ∀ x ∈ l, x.args.length ≤ maxLen from fun x hx => by
        have h1 : cntL x.letter = x.args.length := (hm.1 x hx).1
        have h2 : cntL x.letter ≠ 99 := (hm.1 x hx).2.1
        have := cnt_le x.letter; unfold maxLen; omega)
      generalize (⟨(printT l).toArray⟩ : ByteArray) = S at *
      clear hm hF hlen hsz GR HM
      go_enter Tryd.func6, Tryd.ntmps6
      go_wp2_with fail
      refine K.out.mono ?_
      rintro e w1 ⟨rfl, b1⟩
      have B1 := Lib.hid b1
      have T1 := Lib.hid (HT.out.next b1)
      have A1 := Lib.hid (HA.out.next b1)
      clear b1
      go_wp2_with fail
      refine (G.out _ A1.out).mono ?_
      rintro e w2 ⟨rfl, rfl⟩
      go_wp2_with fail
      refine (PR.out _ A1.out T1.out).mono ?_
      rintro e w3 ⟨rfl, b3⟩
      have B3 := Lib.hid (B1.out.trans (b3.mono B1.out.size))
      have T3 := Lib.hid (T1.out.next b3)
      have A3 := Lib.hid (A1.out.next b3)
      have z3 : w.heap.size ≤ w3.heap.size := Nat.le_trans B1.out.size b3.size
      clear b3
      go_wp2_with fail
      refine (MY.out _ A3.out).mono ?_
      rintro e w4 ⟨rfl, b4⟩
      have B4 := Lib.hid (B3.out.trans (b4.mono z3))
      have T4 := Lib.hid (T3.out.next b4)
      have A4 := Lib.hid (A3.out.next b4)
      have z4 : w.heap.size ≤ w4.heap.size := Nat.le_trans z3 b4.size
      clear b4
      go_wp2_with fail
      refine (PP.out _ T4.out.pt).mono ?_
      rintro e w5 ⟨v, rfl, hc, b5⟩
      obtain ⟨a5, cap5, rfl, hr⟩ := hc.reads HARG.out
      have R5 := Lib.hid hr
      have B5 := Lib.hid (B4.out.trans (b5.mono z4))
      have A5 := Lib.hid (A4.out.next b5)
      have z5 : w.heap.size ≤ w5.heap.size := Nat.le_trans z4 b5.size
      clear hc hr b5
      go_wp2_with fail
      refine (RP.out _ A5.out).mono ?_
      rintro e w6 ⟨rfl, b6⟩
      have B6 := Lib.hid (B5.out.trans (b6.mono z5))
      have A6 := Lib.hid (A5.out.next b6)
      have R6 := Lib.hid (R5.out.next b6)
      have z6 : w.heap.size ≤ w6.heap.size := Nat.le_trans z5 b6.size
      clear b6
      go_wp2_with fail
      refine (SM.out a5 cap5 _ R6.out A6.out).mono ?_
      rintro e w7 ⟨rfl, b7⟩
      have B7 := Lib.hid (B6.out.trans (b7.mono z6))
      clear b7
      go_wp2_with fail
      go_ret
      exact ⟨rfl, B7.out⟩
    · rw [mayB_false hm] at PR MY
      simp only [Bool.false_eq_true, if_false] at PR
      clear hm hF GR
      go_enter Tryd.func6, Tryd.ntmps6
      go_wp2_with fail
      refine K.out.mono ?_
      rintro e w1 ⟨rfl, b1⟩
      have B1 := Lib.hid b1
      have T1 := Lib.hid (HT.out.next b1)
      have A1 := Lib.hid (HA.out.next b1)
      clear b1
      go_wp2_with fail
      refine (G.out _ A1.out).mono ?_
      rintro e w2 ⟨rfl, rfl⟩
      go_wp2_with fail
      refine (PR.out _ A1.out T1.out).mono ?_
      rintro e w3 ⟨rfl, b3⟩
      have B3 := Lib.hid (B1.out.trans (b3.mono B1.out.size))
      have A3 := Lib.hid (A1.out.next b3)
      have z3 : w.heap.size ≤ w3.heap.size := Nat.le_trans B1.out.size b3.size
      clear b3
      go_wp2_with fail
      refine (MY.out _ A3.out).mono ?_
      rintro e w4 ⟨rfl, b4⟩
      have B4 := Lib.hid (B3.out.trans (b4.mono z3))
      clear b4
      go_wp2_with fail
      go_ret
      exact ⟨rfl, B4.out⟩
  · have G := Lib.hid (fun w hA => show Calls Tryd.prog 19 #[.slice a l.length cap, .int .i64 ((30 : Nat) : Int)] w fun e w' => e = .returned (.bool true) ∧ w = w' from by
      obtain ⟨g, hg0, hg1, hg⟩ := GR.out w hA
      cases g with
      | false => exact absurd (hg0 rfl) hF
      | true => exact hg)
    clear hF GR
    go_enter Tryd.func6, Tryd.ntmps6
    go_wp2_with fail
    refine K.out.mono ?_
    rintro e w1 ⟨rfl, b1⟩
    have B1 := Lib.hid b1
    have A1 := Lib.hid (HA.out.next b1)
    clear b1
    go_wp2_with fail
    refine (G.out _ A1.out).mono ?_
    rintro e w2 ⟨rfl, rfl⟩
    go_wp2_with fail
    go_ret
    exact ⟨rfl, B1.out⟩
set_option maxRecDepth 100000 in
theorem lifted (os : Os) (started : os.Started) (H : Type) (enc : TypeId × Value → H) :
    ReturnsInHanded {} Tryd.checked os 6 .any (fun w args => (Rows.pathPrintsSpec.pre enc Tryd.prog Tryd.f6 Rows.pathPrintsRow.domain false w args ∧ laidMetH Tryd.prog laid8 w) ∧ sizedMet enc Tryd.prog Tryd.f6 (OpenSpec.ofChange Rows.pathPrintsSpec) false w args)
      (Rows.pathPrintsSpec.post enc Tryd.prog Tryd.f6 false true false false) := by
  refine wrap_laid (C := Tryd.checked) (X := fun w _ => laidMetH Tryd.prog laid8 w) (fun _ _ _ hh h => h.of_heap hh) own started (by kernel_rfl) Tryd.func6
    (ChangeSpec.witness_shaped (enc := enc) (C := Tryd.checked) (os := os) (X := fun w _ => laidMetH Tryd.prog laid8 w) false (World.laidAll Tryd.prog os laid8) #[.slice none 0 0] 8 (World.laidAll_os _ _ _)
      (World.shaped_of_ZipB (by kernel_rfl) (by kernel_rfl)) (by kernel_rfl) (by kernel_rfl) (by kernel_rfl)
      (by rw [MakeChecks.laidMetH_plain _ _ _ (by kernel_rfl)]; exact laidMet_laidAll _ (by kernel_rfl) (by kernel_rfl))) ?_
  intro W base args ds gs before hval0 hW hcnd _ hL hS _
  have hval : ∀ (j : Nat) t v, Tryd.f6.params[j]? = some t → args[j]? = some v → Value.okWide Tryd.prog W .any base t v := hval0
  have hW' := hW
  obtain ⟨p, q, hA0, hV, rfl, hfz, hnd⟩ := hW
  have hA : DataW.TrodAll enc Tryd.prog W 0 (fun _ => true) true Tryd.f6.params.toList args.toList ds p := hA0
  rw [Tryd.params6] at hA hval
  obtain ⟨v0, d0, rfl, rfl, h0⟩ := trodAll_one hA
  obtain ⟨rfl, rfl⟩ := trodVars_none hV
  obtain ⟨a0, z0, k0, rfl, l0, i0⟩ := cmds_of_trod (P := Tryd.prog) (e := 2) Tryd.underlying23 Tryd.underlying36 (by kernel_rfl) rfl rfl (by kernel_rfl) (by kernel_rfl) (by kernel_rfl) (by kernel_rfl) (by kernel_rfl) (by kernel_rfl) (hval 0 23 v0 rfl rfl) h0
  clear hA0 hval0
  simp only [List.append_nil] at hW'
  have lt0 : ∀ x ∈ p, x.block < W.heap.size := fun x hx => hW'.lt x (by simp [hx])
  refine (walk a0 z0 k0 l0 W i0 (ptabs8_of hL hS)).mono fun e W' ⟨he, hg⟩ => ?_
  subst he
  have h0' := Below.trod laidOut (by kernel_rfl) (of_decide_eq_true (by kernel_rfl)) h0 hg lt0
  exact ⟨_, rfl, ⟨_, _, _, [], _, [], hW', trodAll_mk1 (shut_bool Tryd.underlying4 _), trodAll_mk1 h0', rfl, hg.frame _, fun h => by cases h⟩⟩

/-- The row's statement. -/
theorem row_holds : Rows.PathPrintsSaid :=
  OpenClaim.holds_of_wide 6 Tryd.f6 rfl rfl rfl rfl rfl rfl rfl ⟨rfl, rfl, rfl, rfl, rfl⟩ rfl rfl rfl rfl rfl (by kernel_rfl) Tryd.func6 (by kernel_rfl)
    (of_decide_eq_true (by kernel_rfl)) (by unfold Func.isWrapper; first | (rw [if_pos (by decide +kernel)]; kernel_rfl) | (rw [if_neg (by decide +kernel)]; exact ⟨rfl, rfl⟩))
    (fun os started H enc _ => lifted os started H enc)
/-- The given statement: the card. -/
theorem proved : Rows.PathPrintsCardSaid :=
  Claim7.holds_tied_plain_at .later [] [.data, .data, .data, .data, .data, .data, .data, .pinned] true (true, "a2f9e4236b97a93f752a6656de1a2521f3938fee15b2255bd59542caf6cf3f5e") false row_holds (fun _ h => by cases h) (by kernel_rfl) (fun _ h => by cases h) pathPrints_row_tie rfl ⟨rfl, rfl⟩ (by kernel_rfl) rfl
    (fun f fn hf hfn => by
      obtain rfl : f = 6 := Option.some.inj ((show Tryd.prog.funcNamed "pointillist/pointillistlaw06.PathPrints" = some 6 by kernel_rfl).symm.trans hf) |>.symm
      obtain rfl : fn = Tryd.f6 := (Option.some.inj (Tryd.func6.symm.trans hfn)).symm
      exact ⟨by kernel_rfl, fun j t ht => by
        rw [Tryd.params6] at ht
        have hm : t ∈ [23] := by simpa using Array.mem_of_getElem? ht
        have hall : ([23].all fun u => !Tryd.prog.wantsStandIn u) = true := by kernel_rfl
        exact (show Tryd.prog.wantsStandIn t = false by simpa using List.all_eq_true.1 hall t hm)⟩)
    (by kernel_rfl)
end Go.Proofs.YtchngbdkgfjpcaaDoor.pathPrints
