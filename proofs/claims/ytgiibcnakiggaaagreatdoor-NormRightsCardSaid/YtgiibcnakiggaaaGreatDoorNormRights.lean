/-
  PROVED: the statement of NormRights, for every input: any segments are right, or not, as the document says; those that commands come to are. No conditions but what the card lists.
-/
import Derived.Test.YtgiibcnakiggaaaGreatDoorNormRightL
import Derived.Test.YtgiibcnakiggaaaGreatDoorRef7Right
import Derived.Test.YtgiibcnakiggaaaGreatDoorNormRightN
import Derived.Test.YtgiibcnakiggaaaGreatDoorSegTrod
import Derived.Test.YtgiibcnakiggaaaGreatDoorJNPath
import Derived.Test.YtgiibcnakiggaaaGreatDoorRef6Great
import Derived.Test.YtgiibcnakiggaaaGreatDoorPathLaid
namespace Go.Proofs.YtgiibcnakiggaaaGreatDoor.normRights
open Go.ChangeShapes Go.WideShapes Go.ChangeAt Go.RowKit Go.Shelf

theorem bring_len (l : List Cmd) : ∀ (s : NS) (i : Nat), (bringL s l i).1.length ≤ s.out.length + 2 * l.length := by
  have add_len : ∀ (s : NS) (g : Seg), (addM s g).out.length ≤ s.out.length + 2 := fun s g => by
    obtain ⟨⟨x, h, _, h2⟩, _⟩ := addM_out s g
    rw [h, List.length_append]; omega
  have step_len : ∀ (L : Nat) (s : NS) (a : List Int), (stepM L s a).out.length ≤ s.out.length + 2 := fun L s a => by
    unfold stepM
    split
    · show (s.out ++ [_]).length ≤ _; simp
    repeat (split; exact add_len _ _)
    exact add_len _ _
  induction l with
  | nil => intro s i; exact Nat.le_add_right _ _
  | cons c t ih =>
    intro s i
    unfold bringL
    split
    · have h1 := ih (takeM s c) (i + 1)
      have h2 : (takeM s c).out.length ≤ s.out.length + 2 := step_len _ (orgM s c.letter) c.args
      rw [List.length_cons]; omega
    · exact Nat.le_add_right _ _
theorem norm_len (l : List Cmd) : (normS l).1.length ≤ 2 * l.length := by
  unfold normS
  split
  · exact Nat.zero_le _
  · split
    · exact Nat.zero_le _
    · have := bring_len l NS.zero 0
      have e : NS.zero.out.length = 0 := rfl
      show (bringL NS.zero l 0).1.length ≤ _
      omega
set_option maxHeartbeats 8000000 in
set_option maxRecDepth 100000 in
theorem walk (a0 : Option Addr) (l0 : List Seg) (cap0 : Nat) (_hl0 : l0.length ≤ maxLen) (a1 : Option Addr) (l1 : List Cmd) (cap1 : Nat) (_hl1 : l1.length ≤ maxLen) (w : World) (hI0 : RdS a0 l0 w) (hS0 : ∀ g ∈ l0, SegI g) (hc0 : l0.length ≤ cap0) (hI : RdC a1 l1 w) (hC : CapC a1 l1 w) (_hcap : l1.length ≤ cap1) (T : PTabs w) :
    Calls Tryz.prog 4 #[.slice a0 l0.length cap0, .slice a1 l1.length cap1] w fun e w' => e = .returned (.bool true) ∧ Below w.heap.size w w' := by
  have K := Lib.hid (wakes7 w T)
  have HT := Lib.hid T
  have HI0 := Lib.hid hI0
  have HS0 := Lib.hid hS0
  have HI := Lib.hid hI
  have hstay : ∀ w', Below w.heap.size w w' → CapC a1 l1 w' := fun w' b => by
    rcases hI with h | ⟨b0, o0, rfl, hlt, _⟩
    · subst h; intro _ _ _ i hi; exact absurd hi (by simp)
    · intro b1 o1 e i hi aa n ac hc
      cases e
      exact hC b0 o0 rfl i hi aa n ac ((b.cell (p := ⟨b0, o0 + i * 2 + 1, none⟩) (by exact hlt)).symm.trans hc)
  have HC := Lib.hid hstay
  clear T hI hC hstay hI0 hS0
  go_enter Tryz.func4, Tryz.ntmps4
  go_wp2_with fail
  refine K.out.mono ?_
  rintro e w1 ⟨rfl, b1⟩
  have B1 := Lib.hid b1
  clear K b1
  by_cases h60 : 60 < l0.length
  · have hI60 : (60 : Int) < (l0.length : Int) := by omega
    go_wp2_with fail
    go_ret
    exact ⟨rfl, B1.out⟩
  · have hI60 : ¬ (60 : Int) < (l0.length : Int) := by omega
    obtain ⟨g, hg1, hg2, GR⟩ := great_any a1 l1 cap1 40 w1 (HI.out.next B1.out) (by decide)
    have HGR := Lib.hid GR
    clear GR
    go_wp2_with fail
    refine HGR.out.mono ?_
    rintro e w2 ⟨rfl, rfl⟩
    cases g with
    | true =>
      go_wp2_with fail
      go_ret
      exact ⟨rfl, B1.out⟩
    | false =>
      have hF := hg1 rfl
      have hl40 : l1.length ≤ 40 := hF.1
      obtain ⟨r, hr⟩ : ∃ r : Bool, (r = true ↔ RightR l0) := ⟨@decide (RightR l0) (Classical.propDecidable _), by simp⟩
      have RN := Lib.hid (fun w' (b : Below w.heap.size w w') => right_any7 a0 l0 cap0 w' (by omega) (HI0.out.next b) HS0.out r (hr.trans (right_same l0).symm))
      have RD := Lib.hid (fun w' (b : Below w.heap.size w w') => rright7_any a0 l0 cap0 w' (by omega) hc0 (HI0.out.next b) r hr)
      have NF : ∀ i, i < l1.length → (ars l1 i).length ≤ 1000000000 := fun i hi => by have := hF.2 i hi; omega
      have NA := Lib.hid (fun w' (b : Below w.heap.size w w') => Normal_any a1 l1 cap1 w' (by omega) (HI.out.next b) (HC.out _ b) NF (HT.out.next b))
      have NR := Lib.hid (norm_right l1)
      have hnl := norm_len l1
      obtain ⟨X, hX⟩ : ∃ X, normS l1 = X := ⟨_, rfl⟩
      rw [hX] at NA NR hnl
      obtain ⟨A, zA, eA⟩ := X
      have hA80 : A.length ≤ 80 := by have h : A.length ≤ 2 * l1.length := hnl; omega
      have hne : (r != r) = false := by cases r <;> rfl
      clear hg1 hg2 hF hX HI HC NF HGR hr hnl HI0 HS0 HT
      go_wp2_with fail
      refine (RN.out _ B1.out).mono ?_
      rintro e w3 ⟨rfl, b3⟩
      have B3 := Lib.hid (B1.out.trans (b3.mono B1.out.size))
      clear b3 RN
      go_wp2_with fail
      refine (RD.out _ B3.out).mono ?_
      rintro e w4 ⟨rfl, b4⟩
      have B4 := Lib.hid (B3.out.trans (b4.mono B3.out.size))
      have NA4 := Lib.hid (NA.out _ B4.out)
      clear b4 RD NA
      go_wp2_with fail
      refine NA4.out.mono ?_
      rintro e w5 ⟨aA, capA, rfl, rA, cA, b5⟩
      have RA := Lib.hid rA
      have CA := Lib.hid cA
      have B5 := Lib.hid (B4.out.trans (b5.mono B4.out.size))
      clear rA cA b5 NA4
      by_cases he : eA = 0
      · have hR := NR.out he
        subst he
        have RN2 := Lib.hid (fun w' (b : Below w5.heap.size w5 w') => right_any7 aA A capA w' (by omega) (RA.out.next b) (right_i hR) true (iff_of_true rfl ((right_same A).2 hR)))
        have RD2 := Lib.hid (fun w' (b : Below w5.heap.size w5 w') => rright7_any aA A capA w' (by omega) CA.out (RA.out.next b) true (iff_of_true rfl hR))
        clear NR hR RA CA
        go_wp2_with fail
        refine (RN2.out _ (Below.refl _ _)).mono ?_
        rintro e w6 ⟨rfl, b6⟩
        have B6 := Lib.hid b6
        clear b6 RN2
        go_wp2_with fail
        refine (RD2.out _ B6.out).mono ?_
        rintro e w7 ⟨rfl, b7⟩
        have B7 := Lib.hid (B5.out.trans ((B6.out.trans (b7.mono B6.out.size)).mono B5.out.size))
        clear b7 RD2
        go_wp2_with fail
        go_ret
        exact ⟨rfl, B7.out⟩
      · have hb : (eA != 0) = true := by rw [bne_iff_ne]; exact he
        clear NR he
        go_wp2_with fail
        go_ret
        exact ⟨rfl, B5.out⟩
set_option maxRecDepth 100000 in
theorem lifted (os : Os) (started : os.Started) (H : Type) (enc : TypeId × Value → H) :
    ReturnsInHanded {} Tryz.checked os 4 .any (fun w args => (Rows.normRightsSpec.pre enc Tryz.prog Tryz.f4 Rows.normRightsRow.domain false w args ∧ laidMetH Tryz.prog laid5 w) ∧ sizedMet enc Tryz.prog Tryz.f4 (OpenSpec.ofChange Rows.normRightsSpec) false w args)
      (Rows.normRightsSpec.post enc Tryz.prog Tryz.f4 false true false false) := by
  refine wrap_laid (C := Tryz.checked) (X := fun w _ => laidMetH Tryz.prog laid5 w) (fun _ _ _ hh h => h.of_heap hh) own started (by kernel_rfl) Tryz.func4
    (ChangeSpec.witness_shaped (enc := enc) (C := Tryz.checked) (os := os) (X := fun w _ => laidMetH Tryz.prog laid5 w) false (World.laidAll Tryz.prog os laid5) #[.slice none 0 0, .slice none 0 0] 8 (World.laidAll_os _ _ _)
      (World.shaped_of_ZipB (by kernel_rfl) (by kernel_rfl)) (by kernel_rfl) (by kernel_rfl) (by kernel_rfl)
      (by rw [MakeChecks.laidMetH_plain _ _ _ (by kernel_rfl)]; exact laidMet_laidAll _ (by kernel_rfl) (by kernel_rfl))) ?_
  intro W base args ds gs before hval0 hW hcnd _ hL hS _
  have hval : ∀ (j : Nat) t v, Tryz.f4.params[j]? = some t → args[j]? = some v → Value.okWide Tryz.prog W .any base t v := hval0
  have hW' := hW
  obtain ⟨p, q, hA0, hV, rfl, hfz, hnd⟩ := hW
  have hA : DataW.TrodAll enc Tryz.prog W 0 (fun _ => true) true Tryz.f4.params.toList args.toList ds p := hA0
  rw [Tryz.params4] at hA hval
  obtain ⟨v0, v1, d0, d1, p0, p1, rfl, rfl, rfl, h0, h1⟩ := trodAll_two hA
  obtain ⟨rfl, rfl⟩ := trodVars_none hV
  obtain ⟨a0, z0, k0, rfl, l0, i0, r0, m0⟩ := segs_of_trod (P := Tryz.prog) (tp := 39) Tryz.underlying23 Tryz.underlying42 (by kernel_rfl) (by kernel_rfl) (by kernel_rfl) (by kernel_rfl) Tryz.underlying39 (by kernel_rfl) (hval 0 23 v0 rfl rfl) h0
  obtain ⟨a1, z1, k1, rfl, l1, i1, r1, m1⟩ := cmds_room_of_trod (P := Tryz.prog) (e := 2) Tryz.underlying32 Tryz.underlying52 (by kernel_rfl) rfl rfl (by kernel_rfl) (by kernel_rfl) (by kernel_rfl) (by kernel_rfl) (by kernel_rfl) (by kernel_rfl) (hval 1 32 v1 rfl rfl) h1
  clear hA0 hval0
  simp only [List.append_nil] at hW'
  have lt0 : ∀ x ∈ p0, x.block < W.heap.size := fun x hx => hW'.lt x (by simp [hx])
  have lt1 : ∀ x ∈ p1, x.block < W.heap.size := fun x hx => hW'.lt x (by simp [hx])
  refine (walk a0 z0 k0 l0 a1 z1 k1 l1 W i0 r0 m0 i1 r1 m1 (ptabs_of hL hS)).mono fun e W' ⟨he, hg⟩ => ?_
  subst he
  have h0' := Below.trod laidOut (by kernel_rfl) (of_decide_eq_true (by kernel_rfl)) h0 hg lt0
  have h1' := Below.trod laidOut (by kernel_rfl) (of_decide_eq_true (by kernel_rfl)) h1 hg lt1
  exact ⟨_, rfl, ⟨_, _, _, [], _, [], hW', trodAll_mk1 (shut_bool Tryz.underlying4 _), trodAll_mk2 h0' h1', rfl, hg.frame _, fun h => by cases h⟩⟩

/-- The row's statement. -/
theorem row_holds : Rows.NormRightsSaid :=
  OpenClaim.holds_of_wide 4 Tryz.f4 rfl rfl rfl rfl rfl rfl rfl ⟨rfl, rfl, rfl, rfl, rfl⟩ rfl rfl rfl rfl rfl (by kernel_rfl) Tryz.func4 (by kernel_rfl)
    (of_decide_eq_true (by kernel_rfl)) (by unfold Func.isWrapper; first | (rw [if_pos (by decide +kernel)]; kernel_rfl) | (rw [if_neg (by decide +kernel)]; exact ⟨rfl, rfl⟩))
    (fun os started H enc _ => lifted os started H enc)
/-- The given statement: the card. -/
theorem proved : Rows.NormRightsCardSaid :=
  Claim7.holds_tied_plain_at .later [] [.data, .data, .data, .data, .pinned] true (true, "40b9d7f28d889098f6a036aee84c0132980ed52c8696fe269ef9e0ea3ed574e1") false row_holds (fun _ h => by cases h) (by kernel_rfl) (fun _ h => by cases h) normRights_row_tie rfl ⟨rfl, rfl⟩ (by kernel_rfl) rfl
    (fun f fn hf hfn => by
      obtain rfl : f = 4 := Option.some.inj ((show Tryz.prog.funcNamed "pointillist/pointillistlaw07.NormRights" = some 4 by kernel_rfl).symm.trans hf) |>.symm
      obtain rfl : fn = Tryz.f4 := (Option.some.inj (Tryz.func4.symm.trans hfn)).symm
      exact ⟨by kernel_rfl, fun j t ht => by
        rw [Tryz.params4] at ht
        have hm : t ∈ [23, 32] := by simpa using Array.mem_of_getElem? ht
        have hall : ([23, 32].all fun u => !Tryz.prog.wantsStandIn u) = true := by kernel_rfl
        exact (show Tryz.prog.wantsStandIn t = false by simpa using List.all_eq_true.1 hall t hm)⟩)
    (by kernel_rfl)
end Go.Proofs.YtgiibcnakiggaaaGreatDoor.normRights
