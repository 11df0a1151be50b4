/-
  PROVED: the statement of PathRights, for every input: any command is right, or not, as the document says; any letter has as many arguments as its table says. No conditions but what the card lists.
-/
import Derived.Test.YtchngbdkgfjpcaaDoorRef6Right
import Derived.Test.YtchngbdkgfjpcaaDoorPathTrod
import Derived.Test.YtchngbdkgfjpcaaDoorPathLaid
import Derived.Test.YtchngbdkgfjpcaaDoorPathWakes
namespace Go.Proofs.YtchngbdkgfjpcaaDoor.pathRights
open Go.ChangeShapes Go.WideShapes Go.ChangeAt Go.RowKit Go.Shelf

set_option maxHeartbeats 4000000 in
set_option maxRecDepth 100000 in
theorem walk (c : Nat) (a : Option Addr) (zs : List Int) (cap : Nat) (hc : c < 256) (_hl : zs.length ≤ maxLen) (w : World) (hI : IntsK .i64 a zs w) (T : PTabs w) :
    Calls Tryd.prog 5 #[.agg #[.int .u8 (c : Int), .slice a zs.length cap]] w fun e w' => e = .returned (.bool true) ∧ Below w.heap.size w w' := by
  have b0 := (Below.refl w.heap.size w).alloc (Nat.le_refl _) (.cells #[.int .u8 (c : Int), .slice a zs.length cap] 36)
  have n0 : (w.alloc (.cells #[.int .u8 (c : Int), .slice a zs.length cap] 36)).heap[w.heap.size]? = some (.cells #[.int .u8 (c : Int), .slice a zs.length cap] 36 (0, 0)) := World.alloc_heap_new w _
  have K := Lib.hid (wakes6 _ (T.next b0))
  have HT0 := Lib.hid (T.next b0)
  have B0 := Lib.hid b0
  have HI0 := Lib.hid (hI.below b0 (Nat.le_refl _))
  have N0 := Lib.hid n0
  clear T b0 hI n0
  go_enter Tryd.func5, Tryd.ntmps5
  go_wp2_with fail
  refine K.out.mono ?_
  rintro e w1 ⟨rfl, b1⟩
  have hlt : w.heap.size < (w.alloc (.cells #[.int .u8 (c : Int), .slice a zs.length cap] 36)).heap.size := by simp
  have n1 : w1.heap[w.heap.size]? = some (.cells #[.int .u8 (c : Int), .slice a zs.length cap] 36 (0, 0)) := (b1.block _ hlt).trans N0.out
  have lt1 : w.heap.size < w1.heap.size := Nat.lt_of_lt_of_le hlt b1.size
  have c0 : w1.cell? ⟨w.heap.size, 0, none⟩ = some (.int .u8 (c : Int)) := by unfold World.cell?; rw [n1]; rfl
  have c1 : w1.cell? ⟨w.heap.size, 1, none⟩ = some (.slice a zs.length cap) := by unfold World.cell?; rw [n1]; rfl
  have T1 := Lib.hid (HT0.out.next b1)
  have HI1 := Lib.hid (HI0.out.below b1 (Nat.le_refl _))
  have B1 := Lib.hid (B0.out.trans (b1.mono (Nat.le_of_lt hlt)))
  generalize hgen : w.heap.size = g at *
  clear K HT0 HI0 N0 B0 b1 n1 hlt
  by_cases h60 : 60 < zs.length
  · have cb : decide ((60 : Int) < (zs.length : Int)) = true := by simp; omega
    go_wp2_with fail
    go_quiet (fail)
    go_wp2_with fail
    go_ret
    exact ⟨rfl, by rw [hgen]; exact B1.out.trans ((drewq w1 nq).mono (Nat.le_of_lt lt1))⟩
  · have cb : decide ((60 : Int) < (zs.length : Int)) = false := by simp; omega
    have R1 := Lib.hid (fun w hI T => Right_any c a zs cap w hc (by omega) hI T)
    have R2 := Lib.hid (fun w hI => rright_any c a zs cap w hc (by omega) hI)
    have R3 := Lib.hid (fun w (T : PTabs w) => Count_any c hc w T.rows)
    have R4 := Lib.hid (fun w => rcount_any c w)
    unfold cntI at R4
    have d := drewq w1 1
    have T2 := Lib.hid (T1.out.next (show Below w1.heap.size w1 w1.drew from (Below.refl _ w1).drew))
    have HI2 := Lib.hid (HI1.out.below (show Below w1.heap.size w1 w1.drew from (Below.refl _ w1).drew) (Nat.le_refl _))
    generalize (if cntL c = 99 then -1 else (cntL c : Int)) = z at *
    generalize okB ⟨c, zs⟩ = r at *
    clear d h60 T1 HI1
    have L1 := Lib.hid lt1
    have er : (r == r) = true := by simp
    have ez : (z == z) = true := by simp
    go_wp2_with fail
    go_region_with (first
      | (go_at_call 15; (with_reducible refine (R1.out _ HI2.out T2.out).mono ?_); rintro e wA ⟨rfl, bA⟩; have TA := Lib.hid (T2.out.next bA); have IA := Lib.hid (HI2.out.below bA (Nat.le_refl _)); have lA : g < wA.heap.size := Nat.lt_of_lt_of_le L1.out bA.size; have cA0 : wA.cell? ⟨g, 0, none⟩ = some (.int .u8 (c : Int)) := (bA.cell (p := ⟨g, 0, none⟩) L1.out).trans c0; have cA1 : wA.cell? ⟨g, 1, none⟩ = some (.slice a zs.length cap) := (bA.cell (p := ⟨g, 1, none⟩) L1.out).trans c1; have BA := Lib.hid (B1.out.trans (((Below.refl w1.heap.size w1).drew.trans bA).mono (Nat.le_of_lt L1.out))); clear bA)
      | (go_at_call 16; (with_reducible refine (R2.out _ IA.out).mono ?_); rintro e wB ⟨rfl, bB⟩; have TB := Lib.hid (TA.out.next bB); have lB : g < wB.heap.size := Nat.lt_of_lt_of_le lA bB.size; have cB0 : wB.cell? ⟨g, 0, none⟩ = some (.int .u8 (c : Int)) := (bB.cell (p := ⟨g, 0, none⟩) lA).trans cA0; have BB := Lib.hid (BA.out.trans (bB.mono (Nat.le_of_lt lA))); clear bB)
      | (go_at_call 17; (with_reducible refine (R3.out _ TB.out).mono ?_); rintro e wC ⟨rfl, bC⟩; have lC : g < wC.heap.size := Nat.lt_of_lt_of_le lB bC.size; have cC0 : wC.cell? ⟨g, 0, none⟩ = some (.int .u8 (c : Int)) := (bC.cell (p := ⟨g, 0, none⟩) lB).trans cB0; have BC := Lib.hid (BB.out.trans (bC.mono (Nat.le_of_lt lB))); clear bC)
      | (go_at_call 18; (with_reducible refine (R4.out _).mono ?_); rintro e wD ⟨rfl, rfl⟩))
    all_goals
      go_wp2_with fail
      go_ret
      exact ⟨rfl, by rw [hgen]; exact BC.out⟩
set_option maxRecDepth 100000 in
theorem lifted (os : Os) (started : os.Started) (H : Type) (enc : TypeId × Value → H) :
    ReturnsInHanded {} Tryd.checked os 5 .any (fun w args => (Rows.pathRightsSpec.pre enc Tryd.prog Tryd.f5 Rows.pathRightsRow.domain false w args ∧ laidMetH Tryd.prog laid5 w) ∧ sizedMet enc Tryd.prog Tryd.f5 (OpenSpec.ofChange Rows.pathRightsSpec) false w args)
      (Rows.pathRightsSpec.post enc Tryd.prog Tryd.f5 false true false false) := by
  refine wrap_laid (C := Tryd.checked) (X := fun w _ => laidMetH Tryd.prog laid5 w) (fun _ _ _ hh h => h.of_heap hh) own started (by kernel_rfl) Tryd.func5
    (ChangeSpec.witness_shaped (enc := enc) (C := Tryd.checked) (os := os) (X := fun w _ => laidMetH Tryd.prog laid5 w) false (World.laidAll Tryd.prog os laid5) #[.agg #[.int .u8 0, .slice none 0 0]] 8 (World.laidAll_os _ _ _)
      (World.shaped_of_ZipB (by kernel_rfl) (by kernel_rfl)) (by kernel_rfl) (by kernel_rfl) (by kernel_rfl)
      (by rw [MakeChecks.laidMetH_plain _ _ _ (by kernel_rfl)]; exact laidMet_laidAll _ (by kernel_rfl) (by kernel_rfl))) ?_
  intro W base args ds gs before hval0 hW hcnd _ hL hS _
  have hval : ∀ (j : Nat) t v, Tryd.f5.params[j]? = some t → args[j]? = some v → Value.okWide Tryd.prog W .any base t v := hval0
  have hW' := hW
  obtain ⟨p, q, hA0, hV, rfl, hfz, hnd⟩ := hW
  have hA : DataW.TrodAll enc Tryd.prog W 0 (fun _ => true) true Tryd.f5.params.toList args.toList ds p := hA0
  rw [Tryd.params5] at hA hval
  obtain ⟨v0, d0, rfl, rfl, h0⟩ := trodAll_one hA
  obtain ⟨rfl, rfl⟩ := trodVars_none hV
  obtain ⟨c0, a0, z0, k0, rfl, q0, l0, i0⟩ := cmd_of_trod (P := Tryd.prog) (e := 2) Tryd.underlying36 (by kernel_rfl) (by kernel_rfl) (by kernel_rfl) (by kernel_rfl) (by kernel_rfl) (by kernel_rfl) (hval 0 36 v0 rfl rfl) h0
  clear hA0 hval0
  simp only [List.append_nil] at hW'
  have lt0 : ∀ x ∈ p, x.block < W.heap.size := fun x hx => hW'.lt x (by simp [hx])
  refine (walk c0 a0 z0 k0 q0 l0 W i0 (ptabs_of hL hS)).mono fun e W' ⟨he, hg⟩ => ?_
  subst he
  have h0' := Below.trod laidOut (by kernel_rfl) (of_decide_eq_true (by kernel_rfl)) h0 hg lt0
  exact ⟨_, rfl, ⟨_, _, _, [], _, [], hW', trodAll_mk1 (shut_bool Tryd.underlying4 _), trodAll_mk1 h0', rfl, hg.frame _, fun h => by cases h⟩⟩

/-- The row's statement. -/
theorem row_holds : Rows.PathRightsSaid :=
  OpenClaim.holds_of_wide 5 Tryd.f5 rfl rfl rfl rfl rfl rfl rfl ⟨rfl, rfl, rfl, rfl, rfl⟩ rfl rfl rfl rfl rfl (by kernel_rfl) Tryd.func5 (by kernel_rfl)
    (of_decide_eq_true (by kernel_rfl)) (by unfold Func.isWrapper; first | (rw [if_pos (by decide +kernel)]; kernel_rfl) | (rw [if_neg (by decide +kernel)]; exact ⟨rfl, rfl⟩))
    (fun os started H enc _ => lifted os started H enc)
/-- The given statement: the card. -/
theorem proved : Rows.PathRightsCardSaid :=
  Claim7.holds_tied_plain_at .later [] [.data, .data, .data, .data, .pinned] true (true, "a2f9e4236b97a93f752a6656de1a2521f3938fee15b2255bd59542caf6cf3f5e") false row_holds (fun _ h => by cases h) (by kernel_rfl) (fun _ h => by cases h) pathRights_row_tie rfl ⟨rfl, rfl⟩ (by kernel_rfl) rfl
    (fun f fn hf hfn => by
      obtain rfl : f = 5 := Option.some.inj ((show Tryd.prog.funcNamed "pointillist/pointillistlaw06.PathRights" = some 5 by kernel_rfl).symm.trans hf) |>.symm
      obtain rfl : fn = Tryd.f5 := (Option.some.inj (Tryd.func5.symm.trans hfn)).symm
      exact ⟨by kernel_rfl, fun j t ht => by
        rw [Tryd.params5] at ht
        have hm : t ∈ [36] := by simpa using Array.mem_of_getElem? ht
        have hall : ([36].all fun u => !Tryd.prog.wantsStandIn u) = true := by kernel_rfl
        exact (show Tryd.prog.wantsStandIn t = false by simpa using List.all_eq_true.1 hall t hm)⟩)
    (by kernel_rfl)
end Go.Proofs.YtchngbdkgfjpcaaDoor.pathRights
