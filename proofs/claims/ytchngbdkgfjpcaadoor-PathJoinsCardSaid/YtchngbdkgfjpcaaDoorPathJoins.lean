/-
  PROVED: the statement of PathJoins, for every input: path data of two lists of commands, one behind the other, are those of both. No conditions but what the card lists.
-/
import Derived.Test.YtchngbdkgfjpcaaDoorRef6May
import Derived.Test.YtchngbdkgfjpcaaDoorRef6Same
import Derived.Test.YtchngbdkgfjpcaaDoorPathCat
import Derived.Test.YtchngbdkgfjpcaaDoorPathLaid8
import Derived.Test.YtchngbdkgfjpcaaDoorPathWakes
namespace Go.Proofs.YtchngbdkgfjpcaaDoor.pathJoins
open Go.ChangeShapes Go.WideShapes Go.ChangeAt Go.RowKit Go.Shelf

theorem text_len : ∀ (l : List Cmd), (∀ x ∈ l, CmdOk x) → (printT l).length ≤ 204 * l.length := by
  intro l
  induction l with
  | nil => intro _; exact Nat.zero_le _
  | cons x t ih =>
    intro h
    have h1 := cmdT_len (h x List.mem_cons_self)
    have h2 := ih fun y hy => h y (List.mem_cons_of_mem _ hy)
    show (cmdT x ++ printT t).length ≤ _
    rw [List.length_append, List.length_cons]; omega
theorem great_yes (a : Option Addr) (l : List Cmd) (cap : Nat) (hF : ¬ Few l 20) (w : World) (hA : RdC a l w) : Calls Tryd.prog 19 #[.slice a l.length cap, .int .i64 20] w fun e w' => e = .returned (.bool true) ∧ w = w' := by
  obtain ⟨g, hg0, hg1, hg⟩ := great_any a l cap 20 w hA (by decide)
  cases g with
  | false => exact absurd (hg0 rfl) hF
  | true => exact hg
theorem great_no (a : Option Addr) (l : List Cmd) (cap : Nat) (hF : Few l 20) (w : World) (hA : RdC a l w) : Calls Tryd.prog 19 #[.slice a l.length cap, .int .i64 20] w fun e w' => e = .returned (.bool false) ∧ w = w' := by
  obtain ⟨g, hg0, hg1, hg⟩ := great_any a l cap 20 w hA (by decide)
  cases g with
  | false => exact hg
  | true => exact absurd hF (hg1 rfl)
theorem own_some {W : World} {R sz n : Nat} {e : TypeId} {v : Value} {xs : List Value} (h : W.ownsRow R e sz v n xs) (hn : 0 < n) : ∃ g cap, v = .slice (some ⟨g, 0, none⟩) n cap ∧ n ≤ cap := by
  rcases h.2 with ⟨_, h0⟩ | ⟨g, cap, cur, rfl, _, _, h1, _⟩
  · omega
  · exact ⟨g, cap, rfl, h1⟩
theorem args_few {l : List Cmd} (h : Few l 20) : ∀ i, i < l.length → (ars l i).length ≤ 1000000000 := fun i hi => by have := h.2 i hi; omega
theorem args_ok {l : List Cmd} (h : MayL l) : ∀ x ∈ l, x.args.length ≤ maxLen := fun x hx => by
  have h1 : cntL x.letter = x.args.length := (h.1 x hx).1
  have h2 : cntL x.letter ≠ 99 := (h.1 x hx).2.1
  have := cnt_le x.letter
  unfold maxLen; omega

set_option maxHeartbeats 8000000 in
set_option maxRecDepth 100000 in
theorem walk (a1 : Option Addr) (l1 : List Cmd) (c1 : Nat) (_h1 : l1.length ≤ maxLen) (a2 : Option Addr) (l2 : List Cmd) (c2 : Nat) (_h2 : l2.length ≤ maxLen) (w : World) (hA1 : RdC a1 l1 w) (hA2 : RdC a2 l2 w) (T : PTabs8 w) :
    Calls Tryd.prog 9 #[.slice a1 l1.length c1, .slice a2 l2.length c2] w fun e w' => e = .returned (.bool true) ∧ Below w.heap.size w w' := by
  have K := Lib.hid (wakes6 w T.pt)
  have HT := Lib.hid T
  have HA1 := Lib.hid hA1
  have HA2 := Lib.hid hA2
  clear T hA1 hA2
  by_cases hF1 : Few l1 20
  · have G1 := Lib.hid (great_no a1 l1 c1 hF1)
    by_cases hF2 : Few l2 20
    · have G2 := Lib.hid (great_no a2 l2 c2 hF2)
      have hl1 : l1.length ≤ 20 := hF1.1
      have hl2 : l2.length ≤ 20 := hF2.1
      have M1 := Lib.hid (fun w hA => rmay_any a1 l1 c1 w (by omega) hA (args_few hF1))
      have M2 := Lib.hid (fun w hA => rmay_any a2 l2 c2 w (by omega) hA (args_few hF2))
      by_cases hm1 : MayL l1
      · rw [mayB_true hm1] at M1
        by_cases hm2 : MayL l2
        · rw [mayB_true hm2] at M2
          have PR1 := Lib.hid (fun w hA T => PPrint_any a1 l1 c1 w (by omega) hA (args_few hF1) T)
          have PR2 := Lib.hid (fun w hA T => PPrint_any a2 l2 c2 w (by omega) hA (args_few hF2) T)
          rw [mayB_true hm1] at PR1
          rw [mayB_true hm2] at PR2
          simp only [if_true] at PR1 PR2
          have t1 := text_len l1 hm1.1
          have t2 := text_len l2 hm2.1
          have hsz : (⟨(printT l1 ++ 32 :: printT l2).toArray⟩ : ByteArray).size = (printT l1).length + 1 + (printT l2).length := by show (printT l1 ++ 32 :: printT l2).toArray.size = _; simp; omega
          have PP := Lib.hid (fun w T => PParse_any ⟨(printT l1 ++ 32 :: printT l2).toArray⟩ w (by rw [hsz]; omega) T)
          unfold PParsePost at PP
          have hj := all_join (⟨(printT l1 ++ 32 :: printT l2).toArray⟩ : ByteArray) l1 l2 (by rw [hsz]; omega) hm1 hm2 (by simp)
          rw [hj] at PP
          clear hj
          have SM := Lib.hid (fun b cb c cc w hA hB => same_any b c (l1 ++ l2) cb cc w (by simp; omega) hA hB)
          have HARG := Lib.hid (show ∀ x ∈ l1 ++ l2, x.args.length ≤ maxLen from fun x hx => by
            rcases List.mem_append.1 hx with h | h
            · exact args_ok hm1 x h
            · exact args_ok hm2 x h)
          have s1 := fun W => cat_run (printT l1) [32] W (by simp; omega)
          have s2 := fun W => cat_run (printT l1 ++ [32]) (printT l2) W (by simp; omega)
          generalize printT l1 = X1 at *
          generalize printT l2 = X2 at *
          clear hm1 hm2 hsz t1 t2 hF1 hF2
          go_enter Tryd.func9, Tryd.ntmps9
          go_wp2_with fail
          refine K.out.mono ?_
          rintro e w1 ⟨rfl, b1⟩
          have B1 := Lib.hid b1
          have T1 := Lib.hid (HT.out.next b1)
          have P1 := Lib.hid (HA1.out.next b1)
          have Q1 := Lib.hid (HA2.out.next b1)
          clear b1
          go_wp2_with fail
          refine (G1.out _ P1.out).mono ?_
          rintro e w2 ⟨rfl, rfl⟩
          go_wp2_with fail
          refine (G2.out _ Q1.out).mono ?_
          rintro e w2 ⟨rfl, rfl⟩
          go_wp2_with fail
          refine (M1.out _ P1.out).mono ?_
          rintro e w2 ⟨rfl, b2⟩
          have B2 := Lib.hid (B1.out.trans (b2.mono B1.out.size))
          have T2 := Lib.hid (T1.out.next b2)
          have P2 := Lib.hid (P1.out.next b2)
          have Q2 := Lib.hid (Q1.out.next b2)
          have z2 : w.heap.size ≤ w2.heap.size := Nat.le_trans B1.out.size b2.size
          clear b2
          go_wp2_with fail
          refine (M2.out _ Q2.out).mono ?_
          rintro e w3 ⟨rfl, b3⟩
          have B3 := Lib.hid (B2.out.trans (b3.mono z2))
          have T3 := Lib.hid (T2.out.next b3)
          have P3 := Lib.hid (P2.out.next b3)
          have Q3 := Lib.hid (Q2.out.next b3)
          have z3 : w.heap.size ≤ w3.heap.size := Nat.le_trans z2 b3.size
          clear b3
          go_wp2_with fail
          refine (PR1.out _ P3.out T3.out).mono ?_
          rintro e w4 ⟨rfl, b4⟩
          have B4 := Lib.hid (B3.out.trans (b4.mono z3))
          have T4 := Lib.hid (T3.out.next b4)
          have P4 := Lib.hid (P3.out.next b4)
          have Q4 := Lib.hid (Q3.out.next b4)
          have z4 : w.heap.size ≤ w4.heap.size := Nat.le_trans z3 b4.size
          clear b4
          go_wp2_with fail
          refine (PR2.out _ Q4.out T4.out).mono ?_
          rintro e w5 ⟨rfl, b5⟩
          have B5 := Lib.hid (B4.out.trans (b5.mono z4))
          have T5 := Lib.hid (T4.out.next b5)
          have P5 := Lib.hid (P4.out.next b5)
          have Q5 := Lib.hid (Q4.out.next b5)
          have z5 : w.heap.size ≤ w5.heap.size := Nat.le_trans z4 b5.size
          clear b5
          go_wp2_with fail
          refine (PP.out _ T5.out.pt).mono ?_
          rintro e w6 ⟨v, rfl, hc, b6⟩
          obtain ⟨a6, c6, rfl, hr⟩ := hc.reads HARG.out
          have R6 := Lib.hid hr
          have B6 := Lib.hid (B5.out.trans (b6.mono z5))
          have P6 := P5.out.next b6
          have Q6 := Q5.out.next b6
          have z6 : w.heap.size ≤ w6.heap.size := Nat.le_trans z5 b6.size
          clear hc hr b6 PP PR1 PR2 M1 M2 G1 G2 s1 s2 HARG K T1 T2 T3 T4 T5 P1 P2 P3 P4 P5 Q1 Q2 Q3 Q4 Q5 B1 B2 B3 B4 B5
          obtain ⟨v1, E1, D1, N1⟩ := P6.elem
          obtain ⟨v2, E2, D2, N2⟩ := Q6.elem
          have bal := (Below.refl w6.heap.size w6).alloc (Nat.le_refl _) (.cells #[] 36)
          have OW0 := Lib.hid (show (w6.alloc (.cells #[] 36)).ownsRow w6.heap.size 36 2 (.slice (some ⟨w6.heap.size, 0, none⟩) 0 0) 0 [] from World.ownsRow_made w6 #[] 0 (Nat.le_refl _) (by unfold maxLen; omega) rfl)
          have HD1 := Lib.hid (show ∀ W, Below w6.heap.size w6 W → ∀ b off, a1 = some ⟨b, off, none⟩ → ∀ j u, (flatC l1 v1)[j]? = some u → W.cell? ⟨b, off + j, none⟩ = some u from fun W t b off e j u hu => by
            have h := D1 b off e j u hu
            exact (t.cell (p := ⟨b, off + j, none⟩) (World.block_lt_of_cell? _ _ h)).trans h)
          have HD2 := Lib.hid (show ∀ W, Below w6.heap.size w6 W → ∀ b off, a2 = some ⟨b, off, none⟩ → ∀ j u, (flatC l2 v2)[j]? = some u → W.cell? ⟨b, off + j, none⟩ = some u from fun W t b off e j u hu => by
            have h := D2 b off e j u hu
            exact (t.cell (p := ⟨b, off + j, none⟩) (World.block_lt_of_cell? _ _ h)).trans h)
          have HE1 := Lib.hid E1
          have HE2 := Lib.hid E2
          have BAL := Lib.hid bal
          have hw0 : w6.heap.size ≤ (w6.alloc (.cells #[] 36)).heap.size := bal.size
          have FIN := Lib.hid (show ∀ (W : World) (ax : Option Addr) (cx : Nat), Below w6.heap.size w6 W → RdC ax (l1 ++ l2) W → Calls Tryd.prog 13 #[.slice a6 (l1 ++ l2).length c6, .slice ax (l1 ++ l2).length cx] W fun e w' => e = .returned (.bool true) ∧ Below w.heap.size w w' from fun W ax cx t hX => by
            refine (SM.out a6 c6 ax cx W (R6.out.next t) hX).mono ?_
            rintro e w' ⟨rfl, b⟩
            exact ⟨rfl, (B6.out.trans (t.mono z6)).trans (b.mono (Nat.le_trans z6 t.size))⟩)
          clear D1 D2 E1 E2 bal SM P6 Q6
          by_cases hn1 : l1 = []
          · subst hn1
            by_cases hn2 : l2 = []
            · subst hn2
              have QQ0 := Lib.hid (fun W t => FIN.out W (some ⟨w6.heap.size, 0, none⟩) 0 t (.inl rfl))
              clear FIN
              cases a1 <;> cases a2
              all_goals
                go_wp2_with fail
                refine (QQ0.out _ BAL.out).mono ?_
                rintro e w7 ⟨rfl, b7⟩
                go_wp2_with fail
                go_ret
                exact ⟨rfl, b7⟩
            · obtain ⟨b2, o2, rfl⟩ := N2 hn2
              cases a1
              all_goals
                go_wp2_with (first | (at_builtin; refine append_cmds _ (by rfl) (.tmp 65) (.tmp 66) rfl b2 o2 l2.length c2 (flatC l2 v2) OW0.out rfl rfl (flatC_len _ _ HE2.out.1) (HD2.out _ BAL.out _ _ rfl) (flat_one HE2.out) (by omega) hw0 ?_; intro x1 wA hwA hgA; obtain ⟨g1, k1, rfl⟩ := own_shape hwA))
                have tA := BAL.out.trans (grown_below OW0.out hw0 hgA)
                rw [Nat.zero_add, List.nil_append] at hwA
                have QQ1 := Lib.hid (FIN.out wA g1 k1 tA (rdC_own hwA (HE2.out.next tA)))
                clear FIN hwA hgA tA
                refine QQ1.out.mono ?_
                rintro e w7 ⟨rfl, b7⟩
                go_wp2_with fail
                go_ret
                exact ⟨rfl, b7⟩
          · obtain ⟨b1, o1, rfl⟩ := N1 hn1
            have hpos : 0 < l1.length := List.length_pos_iff.2 hn1
            by_cases hn2 : l2 = []
            · subst hn2
              cases a2
              all_goals
                go_wp2_with (first | (at_builtin; refine append_cmds _ (by rfl) (.tmp 63) (.tmp 64) rfl b1 o1 l1.length c1 (flatC l1 v1) OW0.out rfl rfl (flatC_len _ _ HE1.out.1) (HD1.out _ BAL.out _ _ rfl) (flat_one HE1.out) (by omega) hw0 ?_; intro x1 wA hwA hgA; obtain ⟨g1, k1, rfl, hk1⟩ := own_some hwA (by omega); rw [Nat.zero_add, List.nil_append] at hwA))
                have tA := BAL.out.trans (grown_below OW0.out hw0 hgA)
                have QQ1 := Lib.hid (FIN.out wA (some ⟨g1, 0, none⟩) k1 tA (by rw [List.append_nil]; exact rdC_own hwA (HE1.out.next tA)))
                rw [List.append_nil] at QQ1
                clear FIN hwA hgA tA
                refine QQ1.out.mono ?_
                rintro e w7 ⟨rfl, b7⟩
                go_wp2_with fail
                go_ret
                exact ⟨rfl, b7⟩
            · obtain ⟨b2, o2, rfl⟩ := N2 hn2
              go_wp2_with (first
                | (at_builtin; refine append_cmds _ (by rfl) (.tmp 63) (.tmp 64) rfl b1 o1 l1.length c1 (flatC l1 v1) OW0.out rfl rfl (flatC_len _ _ HE1.out.1) (HD1.out _ BAL.out _ _ rfl) (flat_one HE1.out) (by omega) hw0 ?_; intro x1 wA hwA hgA; obtain ⟨g1, k1, rfl⟩ := own_shape hwA; rw [Nat.zero_add, List.nil_append] at hwA; have tA := Lib.hid (BAL.out.trans (grown_below OW0.out hw0 hgA)); have OWA := Lib.hid hwA; have hwa := tA.out.size; clear hwA hgA)
                | (at_builtin; refine append_cmds _ (by rfl) (.tmp 65) (.tmp 66) rfl b2 o2 l2.length c2 (flatC l2 v2) OWA.out rfl rfl (flatC_len _ _ HE2.out.1) (HD2.out _ tA.out _ _ rfl) (flat_one HE2.out) (by omega) hwa ?_; intro x2 wB hwB hgB; obtain ⟨g2, k2, rfl⟩ := own_shape hwB))
              have tB := tA.out.trans (grown_below OWA.out hwa hgB)
              rw [← flatC_append _ _ _ _ HE1.out.1] at hwB
              have QQ1 := Lib.hid (FIN.out wB g2 k2 tB (by rw [← List.length_append] at hwB; exact rdC_own hwB ((HE1.out.next tB).append (HE2.out.next tB))))
              rw [List.length_append] at QQ1
              clear FIN hwB hgB tB
              refine QQ1.out.mono ?_
              rintro e w7 ⟨rfl, b7⟩
              go_wp2_with fail
              go_ret
              exact ⟨rfl, b7⟩
        · rw [mayB_false hm2] at M2
          clear hm1 hm2 hF1 hF2
          go_enter Tryd.func9, Tryd.ntmps9
          go_wp2_with fail
          refine K.out.mono ?_
          rintro e w1 ⟨rfl, b1⟩
          have B1 := Lib.hid b1
          have T1 := Lib.hid (HT.out.next b1)
          have P1 := Lib.hid (HA1.out.next b1)
          have Q1 := Lib.hid (HA2.out.next b1)
          clear b1
          go_wp2_with fail
          refine (G1.out _ P1.out).mono ?_
          rintro e w2 ⟨rfl, rfl⟩
          go_wp2_with fail
          refine (G2.out _ Q1.out).mono ?_
          rintro e w2 ⟨rfl, rfl⟩
          go_wp2_with fail
          refine (M1.out _ P1.out).mono ?_
          rintro e w2 ⟨rfl, b2⟩
          have B2 := Lib.hid (B1.out.trans (b2.mono B1.out.size))
          have Q2 := Lib.hid (Q1.out.next b2)
          have z2 : w.heap.size ≤ w2.heap.size := Nat.le_trans B1.out.size b2.size
          clear b2
          go_wp2_with fail
          refine (M2.out _ Q2.out).mono ?_
          rintro e w3 ⟨rfl, b3⟩
          have B3 := Lib.hid (B2.out.trans (b3.mono z2))
          clear b3
          go_wp2_with fail
          go_ret
          exact ⟨rfl, B3.out⟩
      · rw [mayB_false hm1] at M1
        clear hm1 hF1 hF2
        go_enter Tryd.func9, Tryd.ntmps9
        go_wp2_with fail
        refine K.out.mono ?_
        rintro e w1 ⟨rfl, b1⟩
        have B1 := Lib.hid b1
        have T1 := Lib.hid (HT.out.next b1)
        have P1 := Lib.hid (HA1.out.next b1)
        have Q1 := Lib.hid (HA2.out.next b1)
        clear b1
        go_wp2_with fail
        refine (G1.out _ P1.out).mono ?_
        rintro e w2 ⟨rfl, rfl⟩
        go_wp2_with fail
        refine (G2.out _ Q1.out).mono ?_
        rintro e w2 ⟨rfl, rfl⟩
        go_wp2_with fail
        refine (M1.out _ P1.out).mono ?_
        rintro e w2 ⟨rfl, b2⟩
        have B2 := Lib.hid (B1.out.trans (b2.mono B1.out.size))
        have Q2 := Lib.hid (Q1.out.next b2)
        have z2 : w.heap.size ≤ w2.heap.size := Nat.le_trans B1.out.size b2.size
        clear b2
        go_wp2_with fail
        go_ret
        exact ⟨rfl, B2.out⟩
    · have G2 := Lib.hid (great_yes a2 l2 c2 hF2)
      clear hF1 hF2
      go_enter Tryd.func9, Tryd.ntmps9
      go_wp2_with fail
      refine K.out.mono ?_
      rintro e w1 ⟨rfl, b1⟩
      have B1 := Lib.hid b1
      have T1 := Lib.hid (HT.out.next b1)
      have P1 := Lib.hid (HA1.out.next b1)
      have Q1 := Lib.hid (HA2.out.next b1)
      clear b1
      go_wp2_with fail
      refine (G1.out _ P1.out).mono ?_
      rintro e w2 ⟨rfl, rfl⟩
      go_wp2_with fail
      refine (G2.out _ Q1.out).mono ?_
      rintro e w2 ⟨rfl, rfl⟩
      go_wp2_with fail
      go_ret
      exact ⟨rfl, B1.out⟩
  · have G1 := Lib.hid (great_yes a1 l1 c1 hF1)
    clear hF1
    go_enter Tryd.func9, Tryd.ntmps9
    go_wp2_with fail
    refine K.out.mono ?_
    rintro e w1 ⟨rfl, b1⟩
    have B1 := Lib.hid b1
    have T1 := Lib.hid (HT.out.next b1)
    have P1 := Lib.hid (HA1.out.next b1)
    have Q1 := Lib.hid (HA2.out.next b1)
    clear b1
    go_wp2_with fail
    refine (G1.out _ P1.out).mono ?_
    rintro e w2 ⟨rfl, rfl⟩
    go_wp2_with fail
    go_ret
    exact ⟨rfl, B1.out⟩
set_option maxRecDepth 100000 in
theorem lifted (os : Os) (started : os.Started) (H : Type) (enc : TypeId × Value → H) :
    ReturnsInHanded {} Tryd.checked os 9 .any (fun w args => (Rows.pathJoinsSpec.pre enc Tryd.prog Tryd.f9 Rows.pathJoinsRow.domain false w args ∧ laidMetH Tryd.prog laid8 w) ∧ sizedMet enc Tryd.prog Tryd.f9 (OpenSpec.ofChange Rows.pathJoinsSpec) false w args)
      (Rows.pathJoinsSpec.post enc Tryd.prog Tryd.f9 false true false false) := by
  refine wrap_laid (C := Tryd.checked) (X := fun w _ => laidMetH Tryd.prog laid8 w) (fun _ _ _ hh h => h.of_heap hh) own started (by kernel_rfl) Tryd.func9
    (ChangeSpec.witness_shaped (enc := enc) (C := Tryd.checked) (os := os) (X := fun w _ => laidMetH Tryd.prog laid8 w) false (World.laidAll Tryd.prog os laid8) #[.slice none 0 0, .slice none 0 0] 8 (World.laidAll_os _ _ _)
      (World.shaped_of_ZipB (by kernel_rfl) (by kernel_rfl)) (by kernel_rfl) (by kernel_rfl) (by kernel_rfl)
      (by rw [MakeChecks.laidMetH_plain _ _ _ (by kernel_rfl)]; exact laidMet_laidAll _ (by kernel_rfl) (by kernel_rfl))) ?_
  intro W base args ds gs before hval0 hW hcnd _ hL hS _
  have hval : ∀ (j : Nat) t v, Tryd.f9.params[j]? = some t → args[j]? = some v → Value.okWide Tryd.prog W .any base t v := hval0
  have hW' := hW
  obtain ⟨p, q, hA0, hV, rfl, hfz, hnd⟩ := hW
  have hA : DataW.TrodAll enc Tryd.prog W 0 (fun _ => true) true Tryd.f9.params.toList args.toList ds p := hA0
  rw [Tryd.params9] at hA hval
  obtain ⟨v0, v1, d0, d1, p0, p1, rfl, rfl, rfl, h0, h1⟩ := trodAll_two hA
  obtain ⟨rfl, rfl⟩ := trodVars_none hV
  obtain ⟨a0, z0, k0, rfl, l0, i0⟩ := cmds_of_trod (P := Tryd.prog) (e := 2) Tryd.underlying23 Tryd.underlying36 (by kernel_rfl) rfl rfl (by kernel_rfl) (by kernel_rfl) (by kernel_rfl) (by kernel_rfl) (by kernel_rfl) (by kernel_rfl) (hval 0 23 v0 rfl rfl) h0
  obtain ⟨a1, z1, k1, rfl, l1, i1⟩ := cmds_of_trod (P := Tryd.prog) (e := 2) Tryd.underlying23 Tryd.underlying36 (by kernel_rfl) rfl rfl (by kernel_rfl) (by kernel_rfl) (by kernel_rfl) (by kernel_rfl) (by kernel_rfl) (by kernel_rfl) (hval 1 23 v1 rfl rfl) h1
  clear hA0 hval0
  simp only [List.append_nil] at hW'
  have lt0 : ∀ x ∈ p0, x.block < W.heap.size := fun x hx => hW'.lt x (by simp [hx])
  have lt1 : ∀ x ∈ p1, x.block < W.heap.size := fun x hx => hW'.lt x (by simp [hx])
  refine (walk a0 z0 k0 l0 a1 z1 k1 l1 W i0 i1 (ptabs8_of hL hS)).mono fun e W' ⟨he, hg⟩ => ?_
  subst he
  have h0' := Below.trod laidOut (by kernel_rfl) (of_decide_eq_true (by kernel_rfl)) h0 hg lt0
  have h1' := Below.trod laidOut (by kernel_rfl) (of_decide_eq_true (by kernel_rfl)) h1 hg lt1
  exact ⟨_, rfl, ⟨_, _, _, [], _, [], hW', trodAll_mk1 (shut_bool Tryd.underlying4 _), trodAll_mk2 h0' h1', rfl, hg.frame _, fun h => by cases h⟩⟩

/-- The row's statement. -/
theorem row_holds : Rows.PathJoinsSaid :=
  OpenClaim.holds_of_wide 9 Tryd.f9 rfl rfl rfl rfl rfl rfl rfl ⟨rfl, rfl, rfl, rfl, rfl⟩ rfl rfl rfl rfl rfl (by kernel_rfl) Tryd.func9 (by kernel_rfl)
    (of_decide_eq_true (by kernel_rfl)) (by unfold Func.isWrapper; first | (rw [if_pos (by decide +kernel)]; kernel_rfl) | (rw [if_neg (by decide +kernel)]; exact ⟨rfl, rfl⟩))
    (fun os started H enc _ => lifted os started H enc)
/-- The given statement: the card. -/
theorem proved : Rows.PathJoinsCardSaid :=
  Claim7.holds_tied_plain_at .later [] [.data, .data, .data, .data, .data, .data, .data, .pinned] true (true, "a2f9e4236b97a93f752a6656de1a2521f3938fee15b2255bd59542caf6cf3f5e") false row_holds (fun _ h => by cases h) (by kernel_rfl) (fun _ h => by cases h) pathJoins_row_tie rfl ⟨rfl, rfl⟩ (by kernel_rfl) rfl
    (fun f fn hf hfn => by
      obtain rfl : f = 9 := Option.some.inj ((show Tryd.prog.funcNamed "pointillist/pointillistlaw06.PathJoins" = some 9 by kernel_rfl).symm.trans hf) |>.symm
      obtain rfl : fn = Tryd.f9 := (Option.some.inj (Tryd.func9.symm.trans hfn)).symm
      exact ⟨by kernel_rfl, fun j t ht => by
        rw [Tryd.params9] at ht
        have hm : t ∈ [23, 23] := by simpa using Array.mem_of_getElem? ht
        have hall : ([23, 23].all fun u => !Tryd.prog.wantsStandIn u) = true := by kernel_rfl
        exact (show Tryd.prog.wantsStandIn t = false by simpa using List.all_eq_true.1 hall t hm)⟩)
    (by kernel_rfl)
end Go.Proofs.YtchngbdkgfjpcaaDoor.pathJoins
