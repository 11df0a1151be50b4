/-
  The contract of package path's read, with Parse's collector: group by group what the document's machine tells.
-/
import Derived.Test.YtgiibcnakiggaaaDoorPathRun
import Derived.WalkMore
import Derived.Deep.LoopGhost
namespace Go.Proofs.YtgiibcnakiggaaaDoor
open Go.RowKit Go.Shelf

theorem kin_next {c : Nat} (hc : c < 256) (h : cntL c ≠ 99) : kinL (nextL c) = kinL c ∧ cntL (nextL c) = cntL c ∧ nextL c < 256 := by
  have H : ∀ c : Fin 256, cntL c ≠ 99 → kinL (nextL c) = kinL c ∧ cntL (nextL c) = cntL c ∧ nextL c < 256 := by decide +kernel
  exact H ⟨c, hc⟩ h
/-- What a caller of read keeps abides what read does by itself: new memory, and its own reader. -/
structure Abide (s : ByteArray) (D : Nat) (J : List Cmd → World → Prop) : Prop where
  new : ∀ pre W W', J pre W → Below W.heap.size W W' → J pre W'
  rdr : ∀ pre W W' b k, J pre W → D ≤ b → Rdr b s k W → Turned b W W' → J pre W'
/-- What a call of tell answers: it goes on. -/
def TellPost (s : ByteArray) (J : List Cmd → World → Prop) (pre : List Cmd) (W : World) (e : Ending) (W' : World) : Prop :=
  e = .returned (.bool true) ∧ J pre W' ∧ Below gN W W' ∧ ∀ b k, Rdr b s k W → Rdr b s k W'
def isOn : Value → Nat
  | .bool true => 1
  | _ => 0
def InnerInv (s : ByteArray) (RES : List Cmd × Int × Int) (b p0 : Nat) (c0 : Nat) (J : List Cmd → World → Prop) (u9 u12 u8 : Value) (wr : World) : Prop :=
  ∃ (c p : Nat) (m : Bool) (pre : List Cmd), u12 = .bool m ∧ u9 = .int .u8 (c : Int) ∧ u8 = .int .i64 0 ∧ c < 256 ∧ cntL c ≠ 99 ∧ kinL c = kinL c0 ∧ cntL c = cntL c0 ∧ p0 < p ∧ p ≤ s.size ∧ Rdr b s p wr ∧ PTabs wr ∧ J pre wr ∧
    pre.length + isOn u12 ≤ p ∧ (m = false → pre ≠ []) ∧ (m = false ∨ cntL c = 0 → blk (s.data.toList.drop p) = 0) ∧
    Hid ((if m = false then PA s none p pre else if cntL c = 0 then PA s none p (pre ++ [⟨c, []⟩]) else PA s (some c) p pre) = RES)
def OuterInv (s : ByteArray) (RES : List Cmd × Int × Int) (b : Nat) (J : List Cmd → World → Prop) (u7 u8 : Value) (wr : World) : Prop :=
  ∃ (p : Nat) (pre : List Cmd), u7 = .bool (!decide (pre = [])) ∧ u8 = .int .i64 0 ∧ p ≤ s.size ∧ Rdr b s p wr ∧ PTabs wr ∧ J pre wr ∧ pre.length ≤ p ∧ Hid (PA s none p pre = RES)

set_option maxRecDepth 100000 in
set_option maxHeartbeats 4000000 in
theorem read_P (s : ByteArray) (B : Nat) (J : List Cmd → World → Prop) (w : World) (hs : s.size ≤ 65536) (T : PTabs w) (HJ : Abide s w.heap.size J)
    (HT : ∀ pre (x : Cmd) av W, J pre W → w.heap.size ≤ W.heap.size → pre.length ≤ 65536 → x.letter < 256 → W.ownsRow w.heap.size 2 1 av x.args.length (ints x.args) →
      Calls Tryd.prog 28 #[.agg #[.int .u8 (x.letter : Int), av], .pointer (some ⟨B, 0, none⟩)] W (TellPost s J (pre ++ [x]) W))
    (h0 : J [] w) :
    Calls Tryd.prog 27 #[.string s, .func (.func 28) #[] #[.pointer (some ⟨B, 0, none⟩)]] w fun e W' =>
      e = .returned (.tuple #[.int .i64 (pathAll (txOf s)).2.1, .int .i64 (pathAll (txOf s)).2.2]) ∧ J (pathAll (txOf s)).1 W' := by
  have hs5 : s.size ≤ 100000 := by omega
  have hm : s.size ≤ maxLen := by unfold maxLen; omega
  have N := Lib.hid (fun w => New_any s w)
  have BL := Lib.hid (fun b k w H hk (T : PTabs w) hb => Blanks_any b s k w H hm hk T.st.blks hb)
  have LF := Lib.hid (fun b k w H hk => Left_any b s k w H hm hk)
  have RL := Lib.hid (fun b k op w H hk T hb => readLetter_any b s k op w H hs5 hk T hb)
  have RG := Lib.hid (fun b c i w hc h9 H hi T hb => readGroup_any b s c i w hc h9 H hs5 hi T hb)
  have GN := Lib.hid (fun b w => goesOn_none b w)
  have GO := Lib.hid (fun b j ks w hks H hj T hb => goesOn_any b s j ks w hks H hs5 hj T hb)
  have BH := Lib.hid (fun c w => behind_any c w)
  have AT := Lib.hid (fun b k w H => At_any b s k w H)
  have PN := Lib.hid (fun i hi out => pa_none (s := s) hs5 (i := i) hi out)
  have PS := Lib.hid (fun i hi c hc out => pa_some (s := s) hs5 (i := i) hi (c := c) hc out)
  have MB := Lib.hid (fun c j out hj hc => more_behind s hs5 c j out hj hc)
  have OKX := Lib.hid (txOf_ok s hs5)
  obtain ⟨RES, hRES⟩ : ∃ R, pathAll (txOf s) = R := ⟨_, rfl⟩
  rw [hRES]
  rw [pa_all, show (txOf s).blkA 0 = 0 + blk (s.data.toList.drop 0) from rfl] at hRES
  have HR0 := Lib.hid hRES
  have HHT := Lib.hid HT
  have HHJ := Lib.hid HJ
  have hg : gN ≤ w.heap.size := T.size
  have hbl0 := blk_drop_le s 0 (Nat.zero_le _)
  clear hRES HT HJ
  go_enter Tryd.func27, Tryd.ntmps27
  go_wp2_with fail
  go_step3
  go_wp2_with fail
  refine (N.out _).mono ?_
  rintro e w1 ⟨rfl, r1, b1⟩
  have T1 := Lib.hid (T.next b1)
  have J1 := Lib.hid (HHJ.out.new _ _ _ h0 b1)
  have R1 := Lib.hid r1
  obtain ⟨b, hb⟩ : ∃ b, w.heap.size = b := ⟨_, rfl⟩
  rw [hb] at R1 hg HHT HHJ ⊢
  clear T h0 b1 r1 hb
  have HG := Lib.hid hg
  go_wp2_with fail
  go_step3
  go_wp2_with fail
  refine (BL.out b 0 _ R1.out (Nat.zero_le _) T1.out hg).mono ?_
  rintro e w2 ⟨rfl, t2, r2⟩
  have T2 := Lib.hid (T1.out.turned t2 hg)
  have J2 := Lib.hid (HHJ.out.rdr _ _ _ _ _ J1.out (Nat.le_refl _) R1.out t2)
  have R2 := Lib.hid r2
  clear t2 r2 hg
  go_wp2_with fail
  go_loopw [7, 8] (fun u7 u8 wr => OuterInv s RES b J u7 u8 wr) (fun _ _ wr => s.size - plc b wr)
  case atStart => exact ⟨_, [], rfl, rfl, hbl0, R2.out, T2.out, J2.out, Nat.zero_le _, HR0⟩
  case round =>
    obtain ⟨p, pre, rfl, rfl, hp, hR, hT, hJ, hpl, hE⟩ := hrel
    have HM := Lib.hid hR.plc
    have HRD := Lib.hid hR
    have HPT := Lib.hid hT
    have HJJ := Lib.hid hJ
    clear hR hT hJ
    go_wp2_with fail
    refine (LF.out b p _ HRD.out hp).mono ?_
    rintro e w3 ⟨rfl, b3, r3⟩
    have T3 := Lib.hid (HPT.out.next b3)
    have J3 := Lib.hid (HHJ.out.new _ _ _ HJJ.out b3)
    have R3 := Lib.hid r3
    clear b3 r3
    by_cases hlt : p < s.size
    · have hpos : (0 : Int) < ((s.size - p : Nat) : Int) := by omega
      have hE' := hE.out
      rw [PN.out p hp, if_pos hlt] at hE'
      by_cases hbad : badL (!decide (pre = [])) (pk s p) = true
      · rw [if_pos ((bad_iff pre _).1 hbad)] at hE'
        have HE := Lib.hid hE'
        have HBD := Lib.hid hbad
        clear hE hE' hbad
        go_wp2_with fail
        refine (RL.out b p _ _ R3.out hlt T3.out HG.out).mono ?_
        rintro e w4 ⟨t4, h4⟩
        rw [HBD.out] at h4
        rcases h4 with ⟨_, rfl, r4⟩ | ⟨h4, _⟩
        case inr => cases h4
        have J4 := Lib.hid (HHJ.out.rdr _ _ _ _ _ J3.out (Nat.le_refl _) R3.out t4)
        have R4 := Lib.hid r4
        clear t4 r4
        go_wp2_with fail
        refine (AT.out b p _ R4.out).mono ?_
        rintro e w5 ⟨rfl, rfl⟩
        go_wp2_with fail
        (try rw [Exit.noGoto_ret]); go_ret2
        rw [← HE.out]
        exact ⟨rfl, J4.out⟩
      · rw [if_neg (fun h => hbad ((bad_iff pre _).2 h))] at hE'
        have hbad' : badL (!decide (pre = [])) (pk s p) = false := by simpa using hbad
        have h9 : cntL (pk s p) ≠ 99 := fun h => hbad ((bad_iff pre _).2 (Or.inl h))
        have hblk := blk_drop_le s (p + 1) (by omega)
        have hcl := pk_lt s p
        rw [show (txOf s).blkA (p + 1) = p + 1 + blk (s.data.toList.drop (p + 1)) from rfl] at hE'
        have hidm := blk_idem s (p + 1)
        have HE := Lib.hid hE'
        have HBD := Lib.hid hbad'
        have H9 := Lib.hid h9
        have HID := Lib.hid hidm
        clear hE hE' hbad hbad' h9 hidm
        go_wp2_with fail
        refine (RL.out b p _ _ R3.out hlt T3.out HG.out).mono ?_
        rintro e w4 ⟨t4, h4⟩
        rw [HBD.out, show (txOf s).blkA (p + 1) = p + 1 + blk (s.data.toList.drop (p + 1)) from rfl] at h4
        rcases h4 with ⟨h4, _⟩ | ⟨_, rfl, r4⟩
        case inl => cases h4
        have J4 := Lib.hid (HHJ.out.rdr _ _ _ _ _ J3.out (Nat.le_refl _) R3.out t4)
        have T4 := Lib.hid (T3.out.turned t4 HG.out)
        have R4 := Lib.hid r4
        clear t4 r4 T3 J3 R3 HBD
        have hge : p + 1 ≤ p + 1 + blk (s.data.toList.drop (p + 1)) := Nat.le_add_right _ _
        generalize p + 1 + blk (s.data.toList.drop (p + 1)) = p1 at *
        generalize pk s p = c0 at *
        generalize hks : kinL c0 = ks at *
        go_wp2_with fail
        go_loopw [9, 12, 8] (fun u9 u12 u8 wr => InnerInv s RES b p c0 J u9 u12 u8 wr) (fun _ u12 _ wr => s.size - plc b wr + isOn u12)
        case atStart =>
          refine ⟨c0, p1, true, pre, rfl, rfl, rfl, hcl, H9.out, rfl, rfl, by omega, hblk, R4.out, T4.out, J4.out, by simp only [isOn]; omega, (fun h => by cases h), fun _ => HID.out, Lib.hid ?_⟩
          rw [if_neg (by decide)]
          exact HE.out
        case round =>
          clear HE H9 HID R4 T4 J4 hcl
          obtain ⟨c, q, m, pre2, rfl, rfl, rfl, hc, h9, hkc, hcc, hpq, hq, hR, hT, hJ, hpl2, hne, hbk, hE⟩ := hrel
          rw [hks] at hkc
          have HM2 := Lib.hid hR.plc
          have HRD2 := Lib.hid hR
          have HPT2 := Lib.hid hT
          have HJJ2 := Lib.hid hJ
          have HBK := Lib.hid hbk
          have H9 := Lib.hid h9
          have HC := Lib.hid hc
          have HCC := Lib.hid hcc
          have HKC := Lib.hid hkc
          clear hR hT hJ hbk h9 hcc hkc
          cases m with
          | false =>
            have hE' := hE.out
            rw [if_pos rfl] at hE'
            have HE := Lib.hid hE'
            have HNE := Lib.hid (hne rfl)
            have HZ := Lib.hid (HBK.out (Or.inl rfl))
            clear hE hE' hne HBK
            go_wp2_with fail
            refine (BL.out b q _ HRD2.out hq HPT2.out HG.out).mono ?_
            rintro e w5 ⟨rfl, t5, r5⟩
            rw [HZ.out, Nat.add_zero] at r5
            have T5 := Lib.hid (HPT2.out.turned t5 HG.out)
            have J5 := Lib.hid (HHJ.out.rdr _ _ _ _ _ HJJ2.out (Nat.le_refl _) HRD2.out t5)
            have R5 := Lib.hid r5
            clear t5 r5
            go_wp2_with fail
            go_roundw
            case rel => exact ⟨q, pre2, by rw [decide_eq_false HNE.out]; rfl, rfl, hq, R5.out, T5.out, J5.out, by simpa [isOn] using hpl2, HE⟩
            case measure => rw [R5.out.plc, HM.out]; omega
          | true =>
            have hE' := hE.out
            rw [if_neg (by decide)] at hE'
            have GG := Lib.hid (RG.out b c q wr HC.out H9.out HRD2.out hq HPT2.out HG.out)
            rw [HKC.out] at GG
            unfold GroupPost at GG
            have BHC := Lib.hid (fun W => BH.out c W)
            obtain ⟨k1, k2, k3⟩ := kin_next HC.out H9.out
            rw [HKC.out] at k1
            by_cases h0 : cntL c = 0
            · have hks0 : ks = ⟨#[]⟩ := by
                have := kin_size HC.out H9.out
                rw [HKC.out, h0] at this
                exact ByteArray.ext (Array.eq_empty_of_size_eq_zero this)
              rw [if_pos h0] at hE'
              rw [h0, show argsL (txOf s) c 0 0 q [] = .inl ([], q) from rfl] at GG
              have HE := Lib.hid hE'
              have HZ := Lib.hid (HBK.out (Or.inr h0))
              have K := Lib.hid (And.intro k1 (And.intro k2 k3))
              have H0 := Lib.hid h0
              have HKS := Lib.hid hks0
              have hksI : ((ks.size : Nat) : Int) = 0 := by rw [hks0]; rfl
              clear hE hE' hne HBK k1 k2 k3 h0 hc hks0 RG
              go_wp2_with fail
              refine GG.out.mono ?_
              rintro e w5 ⟨t5, ⟨v, rfl, hown⟩, r5⟩
              obtain ⟨a', cap', rfl⟩ := own_shape hown
              have T5 := Lib.hid (HPT2.out.turned t5 HG.out)
              have J5 := Lib.hid (HHJ.out.rdr _ _ _ _ _ HJJ2.out (Nat.le_refl _) HRD2.out t5)
              have R5 := Lib.hid r5
              have OW := Lib.hid (own_lower hown (Nat.le_of_lt HRD2.out.lt))
              have L5 := Lib.hid (Nat.le_of_lt r5.lt)
              clear t5 r5 hown GG
              go_wp2_with fail
              have TC := Lib.hid (HHT.out pre2 ⟨c, []⟩ _ w5 J5.out L5.out (by have := hpl2; simp only [isOn] at this; omega) HC.out OW.out)
              refine TC.out.mono ?_
              rintro e w6 ⟨rfl, J6, b6, k6⟩
              have T6 := Lib.hid (T5.out.below b6 (Nat.le_refl _))
              have R6 := Lib.hid (k6 _ _ R5.out)
              have HJ6 := Lib.hid J6
              clear J6 b6 k6 TC
              go_wp2_with fail
              refine (BHC.out _).mono ?_
              rintro e w7 ⟨rfl, rfl⟩
              go_wp2_with fail
              have GN1 : Hid (∀ W, Calls Tryd.prog 43 #[.pointer (some ⟨b, 0, none⟩), .string ks] W fun e w' => e = .returned (.bool false) ∧ W = w') := Lib.hid (fun W => by rw [HKS.out]; exact GN.out b W)
              refine (GN1.out _).mono ?_
              rintro e w8 ⟨rfl, rfl⟩
              go_wp2_with fail
              go_roundw
              case rel =>
                refine ⟨nextL c, q, false, pre2 ++ [⟨c, []⟩], rfl, rfl, rfl, K.out.2.2, by rw [K.out.2.1]; exact H9.out, by rw [K.out.1, hks], K.out.2.1.trans HCC.out, hpq, hq, R6.out, T6.out, HJ6.out, by simp only [isOn, List.length_append, List.length_cons, List.length_nil] at hpl2 ⊢; omega, fun _ => by simp, fun _ => HZ.out, Lib.hid ?_⟩
                rw [if_pos rfl]; exact HE.out
              case measure => rw [R6.out.plc, HM2.out]; simp [isOn]
            · rw [if_neg h0, PS.out q hq c (by omega)] at hE'
              have hcpos : 0 < cntL c := by omega
              have AM := args_mono OKX.out c (cntL c) 0 q [] hq
              cases hA : argsL (txOf s) c (cntL c) 0 q [] with
              | inr y =>
                obtain ⟨j, er⟩ := y
                rw [hA] at hE' GG
                have HE := Lib.hid hE'
                clear hE hE' hne HBK k1 k2 k3 AM hA hcpos RG
                go_wp2_with fail
                refine GG.out.mono ?_
                rintro e w5 ⟨t5, rfl, her, r5⟩
                have J5 := Lib.hid (HHJ.out.rdr _ _ _ _ _ HJJ2.out (Nat.le_refl _) HRD2.out t5)
                have R5 := Lib.hid r5
                have her' : (er == 0) = false := by rw [beq_eq_false_iff_ne]; exact her
                have her2 : (er != 0) = true := by rw [bne, her']; rfl
                clear t5 r5 her GG
                go_wp2_with fail
                refine (AT.out b j _ R5.out).mono ?_
                rintro e w6 ⟨rfl, rfl⟩
                go_wp2_with fail
                (try rw [Exit.noGoto_ret]); go_ret2
                rw [← HE.out]
                exact ⟨rfl, J5.out⟩
              | inl y =>
                obtain ⟨xs, j⟩ := y
                rw [hA] at hE' GG
                have hj := AM.1 _ _ hA
                have hj1 : q < j := hj.2.2 hcpos
                have hj2 : j ≤ s.size := hj.2.1
                have hE2 : behindA s c j (pre2 ++ [⟨c, xs⟩]) = RES := hE'
                rw [MB.out c j _ hj2 hcpos] at hE2
                have HE := Lib.hid hE2
                have HML := Lib.hid (more_le s j hj2)
                have HMB := Lib.hid (more_blk s j)
                have hksp : 0 < ks.size := by have := kin_size HC.out H9.out; rw [HKC.out] at this; omega
                have K := Lib.hid (And.intro k1 (And.intro k2 k3))
                have H0 := Lib.hid h0
                have GOJ := Lib.hid (fun W H T => GO.out b j ks W hksp H hj2 T HG.out)
                clear hE hE' hE2 hne HBK k1 k2 k3 AM hA hj h0 RG GO
                go_wp2_with fail
                refine GG.out.mono ?_
                rintro e w5 ⟨t5, ⟨v, rfl, hown⟩, r5⟩
                obtain ⟨a', cap', rfl⟩ := own_shape hown
                have T5 := Lib.hid (HPT2.out.turned t5 HG.out)
                have J5 := Lib.hid (HHJ.out.rdr _ _ _ _ _ HJJ2.out (Nat.le_refl _) HRD2.out t5)
                have R5 := Lib.hid r5
                have OW := Lib.hid (own_lower hown (Nat.le_of_lt HRD2.out.lt))
                have L5 := Lib.hid (Nat.le_of_lt r5.lt)
                clear t5 r5 hown GG
                go_wp2_with fail
                have TC := Lib.hid (HHT.out pre2 ⟨c, xs⟩ _ w5 J5.out L5.out (by have := hpl2; simp only [isOn] at this; omega) HC.out OW.out)
                refine TC.out.mono ?_
                rintro e w6 ⟨rfl, J6, b6, k6⟩
                have T6 := Lib.hid (T5.out.below b6 (Nat.le_refl _))
                have R6 := Lib.hid (k6 _ _ R5.out)
                have HJ6 := Lib.hid J6
                clear J6 b6 k6 TC
                go_wp2_with fail
                refine (BHC.out _).mono ?_
                rintro e w7 ⟨rfl, rfl⟩
                go_wp2_with fail
                refine (GOJ.out _ R6.out T6.out).mono ?_
                rintro e w8 ⟨rfl, t8, r8⟩
                have T8 := Lib.hid (T6.out.turned t8 HG.out)
                have J8 := Lib.hid (HHJ.out.rdr _ _ _ _ _ HJ6.out (Nat.le_refl _) R6.out t8)
                have R8 := Lib.hid r8
                clear t8 r8
                generalize moreL s j = mm at *
                obtain ⟨m1, q1⟩ := mm
                go_wp2_with fail
                go_roundw
                case rel =>
                  refine ⟨nextL c, q1, m1, pre2 ++ [⟨c, xs⟩], rfl, rfl, rfl, K.out.2.2, by rw [K.out.2.1]; exact H9.out, by rw [K.out.1, hks], K.out.2.1.trans HCC.out, by have := HML.out; omega, HML.out.2, R8.out, T8.out, J8.out, by have := HML.out; cases m1 <;> simp only [isOn, List.length_append, List.length_cons, List.length_nil] at hpl2 ⊢ <;> omega, fun _ => by simp, ?_, Lib.hid ?_⟩
                  · intro h
                    rcases h with h | h
                    · exact HMB.out h
                    · exact absurd (K.out.2.1.symm.trans h) H0.out
                  · rw [← HE.out]
                    cases m1 with
                    | false => rfl
                    | true => rw [if_neg (by decide), if_neg (by rw [K.out.2.1]; exact H0.out)]; rfl
                case measure =>
                  rw [R8.out.plc, HM2.out]
                  have := HML.out
                  cases m1 <;> simp [isOn] <;> omega
    · have hpos : ¬ (0 : Int) < ((s.size - p : Nat) : Int) := by omega
      have hE' := hE.out
      rw [PN.out p hp, if_neg hlt] at hE'
      have HE := Lib.hid hE'
      clear hE hE'
      go_wp2_with fail
      (try rw [Exit.noGoto_ret]); go_ret2
      rw [← HE.out]
      exact ⟨rfl, J3.out⟩
end Go.Proofs.YtgiibcnakiggaaaDoor
