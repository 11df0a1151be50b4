/-
  PROVED: the statement of NormSplits, for every input: commands that are cut anywhere are as far as that what they are whole. No conditions but what the card lists.
-/
import Derived.Test.YtgiibcnakiggaaaDoorNormNormal
import Derived.Test.YtgiibcnakiggaaaDoorNormWakes
import Derived.Test.YtgiibcnakiggaaaDoorNormTrod
import Derived.Test.YtgiibcnakiggaaaDoorRef6Great
import Derived.Test.YtgiibcnakiggaaaDoorPathLaid
namespace Go.Proofs.YtgiibcnakiggaaaDoor.normSplits
open Go.ChangeShapes Go.WideShapes Go.ChangeAt Go.RowKit Go.Shelf

theorem u8_of (m : Int) (h : (Lit.int .u8 m).wf = true) : ∃ n : Nat, m = (n : Int) ∧ n < 256 := by
  have e1 : IntKind.u8.min = 0 := by decide
  have e2 : IntKind.u8.max = 255 := by decide
  have h3 : IntKind.u8.min ≤ m ∧ m ≤ IntKind.u8.max := by simpa [Lit.wf] using h
  exact ⟨m.toNat, by omega, by omega⟩
theorem add_pre (s : NS) (g : Seg) : s.out <+: (addM s g).out := by
  obtain ⟨⟨x, h, _⟩, _⟩ := addM_out s g
  exact ⟨x, h.symm⟩
theorem step_pre (L : Nat) (s : NS) (a : List Int) : s.out <+: (stepM L s a).out := by
  unfold stepM
  split
  · exact ⟨_, rfl⟩
  repeat (split; exact add_pre _ _)
  exact add_pre _ _
theorem add_len (s : NS) (g : Seg) : (addM s g).out.length ≤ s.out.length + 2 := by
  obtain ⟨⟨x, h, _, h2⟩, _⟩ := addM_out s g
  rw [h, List.length_append]; omega
theorem step_len (L : Nat) (s : NS) (a : List Int) : (stepM L s a).out.length ≤ s.out.length + 2 := by
  unfold stepM
  split
  · show (s.out ++ [_]).length ≤ _; simp
  repeat (split; exact add_len _ _)
  exact add_len _ _
theorem bring_len : ∀ (l : List Cmd) (s : NS) (i : Nat), (bringL s l i).1.length ≤ s.out.length + 2 * l.length := by
  intro l
  induction l with
  | nil => intro s i; exact Nat.le_add_right _ _
  | cons c t ih =>
    intro s i
    unfold bringL
    split
    · have h1 := ih (takeM s c) (i + 1)
      have h2 : (takeM s c).out.length ≤ s.out.length + 2 := step_len _ (orgM s c.letter) c.args
      rw [List.length_cons]; omega
    · exact Nat.le_add_right _ _
theorem norm_len (l : List Cmd) : (normS l).1.length ≤ 2 * l.length := by
  unfold normS
  split
  · exact Nat.zero_le _
  · split
    · exact Nat.zero_le _
    · have := bring_len l NS.zero 0
      have e : NS.zero.out.length = 0 := rfl
      show (bringL NS.zero l 0).1.length ≤ _
      omega
theorem bring_pre : ∀ (l : List Cmd) (s : NS) (i : Nat), s.out <+: (bringL s l i).1 := by
  intro l
  induction l with
  | nil => intro s i; exact List.prefix_refl _
  | cons c t ih =>
    intro s i
    unfold bringL
    split
    · exact (step_pre _ (orgM s c.letter) c.args).trans (ih _ _)
    · exact List.prefix_refl _
theorem bring_take : ∀ (l : List Cmd) (s : NS) (i k : Nat), ¬ 0 ≤ (bringL s l i).2 → ¬ 0 ≤ (bringL s (l.take k) i).2 ∧ (bringL s (l.take k) i).1 <+: (bringL s l i).1 := by
  intro l
  induction l with
  | nil => intro s i k h; rw [List.take_nil]; exact ⟨h, List.prefix_refl _⟩
  | cons c t ih =>
    intro s i k h
    cases k with
    | zero =>
      rw [List.take_zero]
      exact ⟨by show ¬ (0 : Int) ≤ -1; decide, bring_pre _ _ _⟩
    | succ k =>
      rw [List.take_succ_cons]
      unfold bringL at h ⊢
      split at h
      · rename_i hb
        rw [if_pos hb, if_pos hb]
        exact ih _ _ _ h
      · exact (h (show (0 : Int) ≤ (i : Int) by omega)).elim
theorem wrong_take : ∀ (l : List Cmd) (i k : Nat), ¬ 0 ≤ wrongL l i → ¬ 0 ≤ wrongL (l.take k) i := by
  intro l
  induction l with
  | nil => intro i k h; rw [List.take_nil]; exact h
  | cons c t ih =>
    intro i k h
    cases k with
    | zero => rw [List.take_zero]; show ¬ (0 : Int) ≤ -1; decide
    | succ k =>
      rw [List.take_succ_cons]
      unfold wrongL at h ⊢
      split at h
      · exact (h (show (0 : Int) ≤ (i : Int) by omega)).elim
      · rename_i hb
        rw [if_neg hb]
        exact ih _ _ h
theorem norm_take (l : List Cmd) (k : Nat) (h : (normS l).2.2 = 0) : ∃ B, normS (l.take k) = (B, -1, 0) ∧ B <+: (normS l).1 := by
  unfold normS at *
  split at h
  · exact absurd h (by show ¬ (1 : Int) = 0; decide)
  · rename_i h1
    split at h
    · exact absurd h (by show ¬ (2 : Int) = 0; decide)
    · rename_i h2
      obtain ⟨b1, b2⟩ := bring_take l NS.zero 0 k h2
      rw [if_neg (wrong_take l 0 k h1), if_neg b1, if_neg h1, if_neg h2]
      exact ⟨_, rfl, b2⟩
theorem capC_take {a : Option Addr} {l : List Cmd} {w : World} (h : CapC a l w) (k : Nat) : CapC a (l.take k) w := fun b off e i hi => h b off e i (by rw [List.length_take] at hi; omega)
theorem args_few {l : List Cmd} {m : Nat} (h : Few l m) (k : Nat) : ∀ i, i < (l.take k).length → (ars (l.take k) i).length ≤ 1000000000 := fun i hi => by
  rw [List.length_take] at hi
  have := h.2 i (by omega)
  have e : ars (l.take k) i = ars l i := by
    have : (l.take k)[i]? = l[i]? := by rw [List.getElem?_take, if_pos (by omega)]
    unfold ars; simp [List.getD, this]
  rw [e]; omega
set_option maxHeartbeats 8000000 in
set_option maxRecDepth 100000 in
theorem walk (a : Option Addr) (l : List Cmd) (cap : Nat) (_hl : l.length ≤ maxLen) (m : Int) (hm : (Lit.int .u8 m).wf = true) (w : World) (hI : RdC a l w) (hC : CapC a l w) (hcap : l.length ≤ cap) (T : PTabs w) :
    Calls Tryd.prog 5 #[.slice a l.length cap, .int .u8 m] w fun e w' => e = .returned (.bool true) ∧ Below w.heap.size w w' := by
  obtain ⟨ct, rfl, hct⟩ := u8_of m hm
  have K := Lib.hid (wakes7 w T)
  have HT := Lib.hid T
  have HI := Lib.hid hI
  have hstay : ∀ w', Below w.heap.size w w' → CapC a l w' := fun w' b => by
    rcases hI with h | ⟨b0, o0, rfl, hlt, _⟩
    · subst h; intro _ _ _ i hi; exact absurd hi (by simp)
    · intro b1 o1 e i hi aa n ac hc
      cases e
      exact hC b0 o0 rfl i hi aa n ac ((b.cell (p := ⟨b0, o0 + i * 2 + 1, none⟩) (by exact hlt)).symm.trans hc)
  have HC := Lib.hid hstay
  clear T hI hC hstay
  go_enter Tryd.func5, Tryd.ntmps5
  go_wp2_with fail
  refine K.out.mono ?_
  rintro e w1 ⟨rfl, b1⟩
  have B1 := Lib.hid b1
  clear K b1
  obtain ⟨g, hg1, hg2, GR⟩ := great_any a l cap 30 w1 (HI.out.next B1.out) (by decide)
  have HGR := Lib.hid GR
  clear GR
  go_wp2_with fail
  refine HGR.out.mono ?_
  rintro e w2 ⟨rfl, rfl⟩
  cases g with
  | true =>
    go_wp2_with fail
    go_ret
    exact ⟨rfl, B1.out⟩
  | false =>
    have hF := hg1 rfl
    have hl30 : l.length ≤ 30 := hF.1
    obtain ⟨k, hk, hkl⟩ : ∃ k : Nat, k = ct % (l.length + 1) ∧ k ≤ l.length := ⟨_, rfl, by have := Nat.mod_lt ct (show 0 < l.length + 1 by omega); omega⟩
    have hlen : (l.take k).length = k := by rw [List.length_take]; omega
    have NF := args_few hF l.length
    rw [List.take_length] at NF
    have NA := Lib.hid (Normal_any a l cap w1 (by omega) (HI.out.next B1.out) (HC.out _ B1.out) NF (HT.out.next B1.out))
    have NB := Lib.hid (fun w' (b : Below w.heap.size w w') => Normal_any a (l.take k) cap w' (by omega) ((HI.out.next b).take k) (capC_take (HC.out _ b) k) (args_few hF k) (HT.out.next b))
    rw [hlen] at NB
    have NT := Lib.hid (norm_take l k)
    have hnl := norm_len (l.take k)
    rw [hlen] at hnl
    obtain ⟨X, hX⟩ : ∃ X, normS l = X := ⟨_, rfl⟩
    rw [hX] at NA NT
    obtain ⟨A, zA, eA⟩ := X
    have erem : Int.tmod (ct : Int) ((l.length : Int) + 1) = (k : Int) := by rw [hk]; exact (Int.ofNat_tmod ct (l.length + 1)).symm
    clear hg1 hg2 hF hX HI HC NF
    go_wp2_with fail
    refine NA.out.mono ?_
    rintro e w3 ⟨aA, capA, rfl, rA, cA, b3⟩
    have RA := Lib.hid rA
    have CA := Lib.hid cA
    have B3 := Lib.hid (B1.out.trans (b3.mono B1.out.size))
    clear rA cA b3 NA
    by_cases he : eA = 0
    · obtain ⟨B, hB, hpre⟩ := NT.out he
      subst he
      have NB2 := NB.out w3 B3.out
      rw [hB] at NB2 hnl
      have hB60 : B.length ≤ 60 := by have h : B.length ≤ 2 * k := hnl; omega
      have NB3 := Lib.hid NB2
      have hbl := hpre.length_le
      have HP := Lib.hid hpre
      have hkc : (k : Int) ≤ (cap : Int) := by omega
      have hkc0 : (0 : Int) ≤ (k : Int) := by omega
      clear NB2 NT NB hB hpre hk hnl
      go_wp2_with fail
      refine NB3.out.mono ?_
      rintro e w4 ⟨aB, capB, rfl, rB, cB, b4⟩
      have B4 := Lib.hid (B3.out.trans (b4.mono B3.out.size))
      have htk : A.take B.length = B := (List.prefix_iff_eq_take.1 HP.out).symm
      have RA4 := (RA.out.next b4).take B.length
      rw [htk] at RA4
      have SM := Lib.hid (same7_any aB aA B capB capA w4 (by omega) rB RA4)
      have hblI : (B.length : Int) ≤ (A.length : Int) := by omega
      have hbc : (B.length : Int) ≤ (capA : Int) := by have := CA.out; omega
      clear rB cB b4 htk RA4 RA CA HP NB3
      go_wp2_with fail
      refine SM.out.mono ?_
      rintro e w5 ⟨rfl, b5⟩
      have B5 := Lib.hid (B4.out.trans (b5.mono B4.out.size))
      clear b5 SM
      go_wp2_with fail
      go_ret
      exact ⟨rfl, B5.out⟩
    · have hb : (eA != 0) = true := by rw [bne_iff_ne]; exact he
      clear NT NB he hnl
      go_wp2_with fail
      go_ret
      exact ⟨rfl, B3.out⟩
set_option maxRecDepth 100000 in
theorem lifted (os : Os) (started : os.Started) (H : Type) (enc : TypeId × Value → H) :
    ReturnsInHanded {} Tryd.checked os 5 .any (fun w args => (Rows.normSplitsSpec.pre enc Tryd.prog Tryd.f5 Rows.normSplitsRow.domain false w args ∧ laidMetH Tryd.prog laid5 w) ∧ sizedMet enc Tryd.prog Tryd.f5 (OpenSpec.ofChange Rows.normSplitsSpec) false w args)
      (Rows.normSplitsSpec.post enc Tryd.prog Tryd.f5 false true false false) := by
  refine wrap_laid (C := Tryd.checked) (X := fun w _ => laidMetH Tryd.prog laid5 w) (fun _ _ _ hh h => h.of_heap hh) own started (by kernel_rfl) Tryd.func5
    (ChangeSpec.witness_shaped (enc := enc) (C := Tryd.checked) (os := os) (X := fun w _ => laidMetH Tryd.prog laid5 w) false (World.laidAll Tryd.prog os laid5) #[.slice none 0 0, .int .u8 0] 8 (World.laidAll_os _ _ _)
      (World.shaped_of_ZipB (by kernel_rfl) (by kernel_rfl)) (by kernel_rfl) (by kernel_rfl) (by kernel_rfl)
      (by rw [MakeChecks.laidMetH_plain _ _ _ (by kernel_rfl)]; exact laidMet_laidAll _ (by kernel_rfl) (by kernel_rfl))) ?_
  intro W base args ds gs before hval0 hW hcnd _ hL hS _
  have hval : ∀ (j : Nat) t v, Tryd.f5.params[j]? = some t → args[j]? = some v → Value.okWide Tryd.prog W .any base t v := hval0
  have hW' := hW
  obtain ⟨p, q, hA0, hV, rfl, hfz, hnd⟩ := hW
  have hA : DataW.TrodAll enc Tryd.prog W 0 (fun _ => true) true Tryd.f5.params.toList args.toList ds p := hA0
  rw [Tryd.params5] at hA hval
  obtain ⟨v0, v1, d0, d1, p0, p1, rfl, rfl, rfl, h0, h1⟩ := trodAll_two hA
  obtain ⟨rfl, rfl⟩ := trodVars_none hV
  obtain ⟨a0, z0, k0, rfl, l0, i0, r0, m0⟩ := cmds_room_of_trod (P := Tryd.prog) (e := 2) Tryd.underlying23 Tryd.underlying34 (by kernel_rfl) rfl rfl (by kernel_rfl) (by kernel_rfl) (by kernel_rfl) (by kernel_rfl) (by kernel_rfl) (by kernel_rfl) (hval 0 23 v0 rfl rfl) h0
  obtain ⟨a1, rfl, rfl, rfl, w1⟩ := open_int Tryd.underlying5 (hval 1 5 v1 rfl rfl) h1
  clear hA0 hval0
  simp only [List.append_nil] at hW'
  have lt0 : ∀ x ∈ p0, x.block < W.heap.size := fun x hx => hW'.lt x (by simp [hx])
  refine (walk a0 z0 k0 l0 a1 w1 W i0 r0 m0 (ptabs_of hL hS)).mono fun e W' ⟨he, hg⟩ => ?_
  subst he
  have h0' := Below.trod laidOut (by kernel_rfl) (of_decide_eq_true (by kernel_rfl)) h0 hg lt0
  exact ⟨_, rfl, ⟨_, _, _, [], _, [], hW', trodAll_mk1 (shut_bool Tryd.underlying4 _), trodAll_mk2 h0' (shut_int Tryd.underlying5 w1), rfl, hg.frame _, fun h => by cases h⟩⟩

/-- The row's statement. -/
theorem row_holds : Rows.NormSplitsSaid :=
  OpenClaim.holds_of_wide 5 Tryd.f5 rfl rfl rfl rfl rfl rfl rfl ⟨rfl, rfl, rfl, rfl, rfl⟩ rfl rfl rfl rfl rfl (by kernel_rfl) Tryd.func5 (by kernel_rfl)
    (of_decide_eq_true (by kernel_rfl)) (by unfold Func.isWrapper; first | (rw [if_pos (by decide +kernel)]; kernel_rfl) | (rw [if_neg (by decide +kernel)]; exact ⟨rfl, rfl⟩))
    (fun os started H enc _ => lifted os started H enc)
/-- The given statement: the card. -/
theorem proved : Rows.NormSplitsCardSaid :=
  Claim7.holds_tied_plain_at .later [] [.data, .data, .data, .data, .pinned] true (true, "a91fadd6773017aeedbe330bc28f304e2ff77a55a35594fb0a3b28a178ac557c") false row_holds (fun _ h => by cases h) (by kernel_rfl) (fun _ h => by cases h) normSplits_row_tie rfl ⟨rfl, rfl⟩ (by kernel_rfl) rfl
    (fun f fn hf hfn => by
      obtain rfl : f = 5 := Option.some.inj ((show Tryd.prog.funcNamed "pointillist/pointillistlaw07.NormSplits" = some 5 by kernel_rfl).symm.trans hf) |>.symm
      obtain rfl : fn = Tryd.f5 := (Option.some.inj (Tryd.func5.symm.trans hfn)).symm
      exact ⟨by kernel_rfl, fun j t ht => by
        rw [Tryd.params5] at ht
        have hm : t ∈ [23, 5] := by simpa using Array.mem_of_getElem? ht
        have hall : ([23, 5].all fun u => !Tryd.prog.wantsStandIn u) = true := by kernel_rfl
        exact (show Tryd.prog.wantsStandIn t = false by simpa using List.all_eq_true.1 hall t hm)⟩)
    (by kernel_rfl)
end Go.Proofs.YtgiibcnakiggaaaDoor.normSplits
