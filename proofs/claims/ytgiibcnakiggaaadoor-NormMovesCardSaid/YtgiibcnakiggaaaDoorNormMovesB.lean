/-
  The walk of NormMoves, of any other slice.
-/
import Derived.Test.YtgiibcnakiggaaaDoorJMove
import Derived.Test.YtgiibcnakiggaaaDoorRef6Great
import Derived.Test.YtgiibcnakiggaaaDoorNormWakes
import Derived.Test.YtgiibcnakiggaaaDoorNormTrod
import Derived.Test.YtgiibcnakiggaaaDoorPathLaid
namespace Go.Proofs.YtgiibcnakiggaaaDoor.normMoves
open Go.ChangeShapes Go.WideShapes Go.ChangeAt Go.RowKit Go.Shelf

set_option maxHeartbeats 16000000 in
set_option maxRecDepth 100000 in
theorem walk_more (a : Option Addr) (l : List Cmd) (cap : Nat) (_hl : l.length ≤ maxLen) (x y : Int) (hx : -2147483648 ≤ x ∧ x ≤ 2147483647) (hy : -2147483648 ≤ y ∧ y ≤ 2147483647) (w : World) (hI : RdC a l w) (hC : CapC a l w) (hcap : l.length ≤ cap) (hc1 : (cap = 1) = False) (T : PTabs w) :
    Calls Tryd.prog 4 #[.slice a l.length cap, .agg #[.int .i32 x, .int .i32 y]] w fun e w' => e = .returned (.bool true) ∧ Below w.heap.size w w' := by
  have b0 := (Below.refl w.heap.size w).alloc (Nat.le_refl _) (.cells #[.int .i32 x, .int .i32 y] 30)
  have n0 : (w.alloc (.cells #[.int .i32 x, .int .i32 y] 30)).heap[w.heap.size]? = some (.cells #[.int .i32 x, .int .i32 y] 30 (0, 0)) := World.alloc_heap_new w _
  have hs0 : w.heap.size < (w.alloc (.cells #[.int .i32 x, .int .i32 y] 30)).heap.size := by simp
  have hI0 := hI.next b0
  have hC0 := capC_next hI hC b0
  have T0 := T.next b0
  have K := Lib.hid (wakes7 _ T0)
  clear hI hC T
  go_enter Tryd.func4, Tryd.ntmps4
  go_wp2_with fail
  generalize w.alloc (.cells #[.int .i32 x, .int .i32 y] 30) = W0 at *
  have FIN := Lib.hid (show ∀ W, Below W0.heap.size W0 W → Below w.heap.size w W from fun W b => b0.trans (b.mono b0.size))
  have BOX := Lib.hid (show ∀ W, Below W0.heap.size W0 W → W.cell? ⟨w.heap.size, 0, none⟩ = some (.int .i32 x) ∧ W.cell? ⟨w.heap.size, 1, none⟩ = some (.int .i32 y) ∧ w.heap.size < W.heap.size from fun W b => by
    have h := (b.block _ hs0).trans n0
    exact ⟨by unfold World.cell?; rw [h]; rfl, by unfold World.cell?; rw [h]; rfl, Nat.lt_of_lt_of_le hs0 b.size⟩)
  have HI := Lib.hid (show ∀ W, Below W0.heap.size W0 W → RdC a l W from fun W b => hI0.next b)
  have HC := Lib.hid (show ∀ W, Below W0.heap.size W0 W → CapC a l W from fun W b => capC_next hI0 hC0 b)
  have HT := Lib.hid (show ∀ W, Below W0.heap.size W0 W → PTabs W from fun W b => T0.next b)
  clear b0 n0 hs0 hI0 hC0 T0
  refine K.out.mono ?_
  rintro e w1 ⟨rfl, b1⟩
  have B1 := Lib.hid b1
  clear K b1
  obtain ⟨g, hg1, hg2, GR⟩ := great_any a l cap 30 w1 (HI.out _ B1.out) (by decide)
  have HGR := Lib.hid GR
  clear GR hg2
  go_wp2_with fail
  refine HGR.out.mono ?_
  rintro e w2 ⟨rfl, rfl⟩
  cases g with
  | true =>
    as_aux_lemma =>
      go_wp2_with fail
      go_ret
      exact ⟨rfl, FIN.out _ B1.out⟩
  | false =>
    have hF := hg1 rfl
    have hl30 : l.length ≤ 30 := hF.1
    have NF := Lib.hid (show ∀ i, i < l.length → (ars l i).length ≤ 1000000000 from fun i hi => by have := hF.2 i hi; omega)
    clear hg1 HGR hF
    by_cases hl0 : l.length = 0
    · have e0 : ((l.length : Int) == 0) = true := by rw [beq_iff_eq]; omega
      as_aux_lemma =>
        go_wp2_with fail
        go_ret
        exact ⟨rfl, FIN.out _ B1.out⟩
    have e0 : ((l.length : Int) == 0) = false := by rw [beq_eq_false_iff_ne]; omega
    have hlI : (0 : Int) < (l.length : Int) := by omega
    obtain ⟨b, off, rfl, hb, hc⟩ := (HI.out _ (Below.refl _ _)).pos (by omega)
    obtain ⟨aa, ac, C0⟩ := hc 0 (by omega)
    have HCC := Lib.hid (show ∀ W, Below W0.heap.size W0 W → ∀ i, i < l.length → ∃ aa ac, CmdAt b (off + i * 2) l i aa ac W from fun W t i hi => by obtain ⟨aa, ac, h⟩ := hc i hi; exact ⟨aa, ac, h.below t hb⟩)
    have HC0 := Lib.hid (show ∀ W, Below W0.heap.size W0 W → CmdAt b off l 0 aa ac W from fun W t => C0.below t hb)
    have c0 := (HC0.out _ B1.out).c0
    have c1 := (HC0.out _ B1.out).c1
    clear hc C0
    by_cases h2 : (ars l 0).length = 2
    case neg =>
      have e2 : (((ars l 0).length : Int) != 2) = true := by rw [bne_iff_ne]; omega
      as_aux_lemma =>
        go_wp2_with fail
        go_ret
        exact ⟨rfl, FIN.out _ B1.out⟩
    have e2 : (((ars l 0).length : Int) != 2) = false := by rw [bne_eq_false_iff_eq]; omega
    by_cases h77 : ltr l 0 = 77
    case neg =>
      have e77 : ((ltr l 0 : Int) != 77) = true := by rw [bne_iff_ne]; omega
      as_aux_lemma =>
        go_wp2_with fail
        go_ret
        exact ⟨rfl, FIN.out _ B1.out⟩
    have e77 : ((ltr l 0 : Int) != 77) = false := by rw [bne_eq_false_iff_eq]; omega
    have h1I : (1 : Int) ≤ (l.length : Int) := by omega
    have hcI : (l.length : Int) ≤ (cap : Int) := by omega
    go_wp2_with fail
    go_loopw [45] (fun u45 wr => ∃ i : Nat, u45 = .int .i64 (i : Int) ∧ i ≤ l.length - 1 ∧ Below W0.heap.size W0 wr ∧ Hid (∀ j, j < i → 97 ≤ ltr l (j + 1))) (fun u45 _ => l.length - 1 - (intOf u45).toNat)
    case atStart => exact ⟨0, rfl, Nat.zero_le _, B1.out, Lib.hid (fun j hj => absurd hj (Nat.not_lt_zero _))⟩
    case round =>
      obtain ⟨i, rfl, hi, hbel, hS⟩ := hrel
      by_cases hlt : i < l.length - 1
      · try (exfalso; omega)
        all_goals
          obtain ⟨ab, acb, CI⟩ := HCC.out _ hbel (i + 1) (by omega)
          have x0 : wr.cell? ⟨b, off + 2 + i * 2, none⟩ = some (.int .u8 (ltr l (i + 1) : Int)) := by rw [show off + 2 + i * 2 = off + (i + 1) * 2 by omega]; exact CI.c0
          have x1 : wr.cell? ⟨b, off + 2 + i * 2 + 1, none⟩ = some (.slice ab (ars l (i + 1)).length acb) := by rw [show off + 2 + i * 2 + 1 = off + (i + 1) * 2 + 1 by omega]; exact CI.c1
          have hltI : (i : Int) < ((l.length - 1 : Nat) : Int) := by omega
          have e1 : IntKind.i64.wrap ((i : Int) + 1) = ((i + 1 : Nat) : Int) := by rw [IntWalk.i64_in _ (by omega)]; omega
          have BL := Lib.hid hbel
          clear CI hbel c0 c1
          by_cases h97 : ltr l (i + 1) < 97
          · have e97 : ((ltr l (i + 1) : Int) < 97) := by omega
            as_aux_lemma =>
              go_wp2_with fail
              go_ret
              exact ⟨rfl, FIN.out _ (BL.out.alloc BL.out.size _)⟩
          · have e97 : ¬ ((ltr l (i + 1) : Int) < 97) := by omega
            have hS2 := Lib.hid (show ∀ j, j < i + 1 → 97 ≤ ltr l (j + 1) from fun j hj => by
              rcases Nat.lt_succ_iff_lt_or_eq.1 hj with k | rfl
              · exact hS.out j k
              · omega)
            go_wp2_with fail
            go_roundw
            case rel => exact ⟨i + 1, by go_num, by omega, BL.out.alloc BL.out.size _, hS2⟩
            case measure => simp [intOf]; omega
      · have hnl : ¬ (i : Int) < ((l.length - 1 : Nat) : Int) := by omega
        have hsm := Lib.hid (tail_small (fun j hj => hS.out j (by omega)))
        obtain ⟨z0, z1, hz⟩ := ars_two h2
        have B2 := Lib.hid hbel
        obtain ⟨vs, E1, D1, hne0⟩ := (HI.out _ hbel).elem
        clear hne0
        have bal := (Below.refl wr.heap.size wr).alloc (Nat.le_refl _) (.cells #[] 34)
        have OW0 := Lib.hid (show (wr.alloc (.cells #[] 34)).ownsRow wr.heap.size 34 2 (.slice (some ⟨wr.heap.size, 0, none⟩) 0 0) 0 [] from World.ownsRow_made wr #[] 0 (Nat.le_refl _) (by unfold maxLen; omega) rfl)
        have HD1 := Lib.hid (show ∀ W, Below wr.heap.size wr W → ∀ j u, (flatC l vs)[j]? = some u → W.cell? ⟨b, off + j, none⟩ = some u from fun W t j u hu => by
          have h := D1 b off rfl j u hu
          exact (t.cell (p := ⟨b, off + j, none⟩) (World.block_lt_of_cell? _ _ h)).trans h)
        have HCV := Lib.hid (caps_of (HC.out _ hbel) D1 ⟨b, off, rfl⟩ E1.1)
        have HE1 := Lib.hid E1
        have BAL := Lib.hid bal
        have hw0 : wr.heap.size ≤ (wr.alloc (.cells #[] 34)).heap.size := bal.size
        have HCA := Lib.hid (show ∀ W, Below wr.heap.size wr W → W.cell? ⟨b, off, none⟩ = some (.int .u8 77) ∧ W.cell? ⟨b, off + 1, none⟩ = some (.slice aa 2 ac) ∧ IntsK .i64 aa [z0, z1] W from fun W t => by
          have C := HC0.out W (B2.out.trans (t.mono B2.out.size))
          have k0 := C.c0
          have k1 := C.c1
          have k2 := C.row
          rw [h77] at k0
          rw [h2] at k1
          rw [hz] at k2
          exact ⟨k0, k1, k2⟩)
        have RR := Lib.hid (show ∀ W, IntsK .i64 aa [z0, z1] W → Calls Tryd.prog 12 #[.agg #[.int .u8 77, .slice aa 2 ac]] W fun e w' => e = .returned (.bool (okB ⟨77, [z0, z1]⟩)) ∧ Below W.heap.size W w' from fun W h => rright_any 77 aa [z0, z1] ac W (by decide) (by simp) h)
        clear D1 E1 bal hbel c0 c1
        go_wp2_with (first | (at_builtin; refine append_cmds _ (by rfl) (.tmp 53) (.tmp 54) rfl b off l.length cap (flatC l vs) OW0.out rfl rfl (flatC_len _ _ HE1.out.1) (HD1.out _ BAL.out) (flat_one HE1.out) (by omega) hw0 ?_; intro x1 wA hwA hgA; obtain ⟨g1, k1, rfl, hk1⟩ := own_some hwA (by omega); rw [Nat.zero_add, List.nil_append] at hwA; have tA := Lib.hid (BAL.out.trans (grown_below OW0.out hw0 hgA)); have HOA := Lib.hid hwA; have kA0 := (HCA.out _ tA.out).1; have kA1 := (HCA.out _ tA.out).2.1; have kAI := Lib.hid (HCA.out _ tA.out).2.2; clear hwA hgA))
        refine (RR.out _ kAI.out).mono ?_
        rintro e w5 ⟨rfl, b5⟩
        have T5 := Lib.hid (tA.out.trans (b5.mono tA.out.size))
        have G5 := Lib.hid (B2.out.trans (T5.out.mono B2.out.size))
        cases hok : okB ⟨77, [z0, z1]⟩ with
        | false =>
          as_aux_lemma =>
            go_wp2_with fail
            go_ret
            exact ⟨rfl, FIN.out _ G5.out⟩
        | true =>
          obtain ⟨m0, m1⟩ := moves_ok (okB_iff.1 hok)
          have hl : l = ⟨77, [z0, z1]⟩ :: l.tail := by rw [← h77, ← hz]; exact head_of (by omega)
          obtain ⟨v0, vt, rfl⟩ : ∃ v0 vt, vs = v0 :: vt := by
            cases vs with
            | nil => exact absurd HE1.out.1 (by simp; omega)
            | cons v0 vt => exact ⟨v0, vt, rfl⟩
          have O5 : w5.ownsRow wr.heap.size 34 2 (.slice (some ⟨g1, 0, none⟩) l.length k1) l.length (flatC (⟨77, [z0, z1]⟩ :: l.tail) (v0 :: vt)) := by rw [← hl]; exact own_next HOA.out b5
          have HE5 : Elem (⟨77, [z0, z1]⟩ :: l.tail) (v0 :: vt) wr := by rw [← hl]; exact HE1.out
          have DR := Lib.hid (moved_drow (s0 := z0 + x) (s1 := z1 + y) T5.out O5 (by simp; omega) HE5 HCV.out)
          obtain ⟨k50, k51, k5I⟩ := HCA.out _ T5.out
          have k0I := (HC0.out _ (Below.refl _ _)).row
          rw [hz] at k0I
          obtain ⟨ab, ao, rfl, hab, hai⟩ := k0I.pos (j := 0) (by simp)
          have y0 : w5.cell? ⟨ab, ao, none⟩ = some (.int .i64 z0) := (G5.out.cell (p := ⟨ab, ao, none⟩) hab).trans (hai 0 (by simp))
          have y1 : w5.cell? ⟨ab, ao + 1, none⟩ = some (.int .i64 z1) := (G5.out.cell (p := ⟨ab, ao + 1, none⟩) hab).trans (hai 1 (by simp))
          have hgo := own_type O5 g1 rfl
          have hg1s := hgo.1
          have hg1o := hgo.2.1
          have sz0 := B2.out.size
          have sz5 := G5.out.size
          have hb5 : b < w5.heap.size := by omega
          have hab5 : ab < w5.heap.size := by omega
          have hw5 : w.heap.size < w5.heap.size := (BOX.out _ G5.out).2.2
          have hw00 := (BOX.out _ (Below.refl _ _)).2.2
          have nb1 : ¬ b = g1 := by omega
          have nb2 : ¬ g1 = b := by omega
          have nb3 : ¬ ab = g1 := by omega
          have nb4 : ¬ g1 = ab := by omega
          have nb5 : ¬ w.heap.size = g1 := by omega
          have nb6 : ¬ g1 = w.heap.size := by omega
          have hlN : 0 < l.length := by omega
          have hnn : ¬ l = [] := fun h => hl0 (by rw [h]; rfl)
          have q0 := (BOX.out _ G5.out).1
          have q1 := (BOX.out _ G5.out).2.1
          have d1 : w5.cell? ⟨g1, 1, none⟩ = some v0 := by rw [O5.cellAt 1 (by omega)]; rfl
          have dz := O5.frozenAt 1
          have ex : IntKind.i64.wrap x = x := IntWalk.i64_in _ (by omega)
          have ey : IntKind.i64.wrap y = y := IntWalk.i64_in _ (by omega)
          have es0 : IntKind.i64.wrap (z0 + x) = z0 + x := IntWalk.i64_in _ (by omega)
          have es1 : IntKind.i64.wrap (z1 + y) = z1 + y := IntWalk.i64_in _ (by omega)
          obtain ⟨X, hX⟩ : ∃ X, normS l = X := ⟨_, rfl⟩
          obtain ⟨Y, hY⟩ : ∃ Y, normS (⟨77, [z0 + x, z1 + y]⟩ :: l.tail) = Y := ⟨_, rfl⟩
          have NA := Lib.hid (show ∀ W, Below W0.heap.size W0 W → Calls Tryd.prog 13 #[.slice (some ⟨b, off, none⟩) l.length cap] W (SegPost X W) from fun W t => by
            have h := Normal_any (some ⟨b, off, none⟩) l cap W (by omega) (HI.out _ t) (HC.out _ t) NF.out (HT.out _ t)
            rw [hX] at h
            exact h)
          have ND := Lib.hid (show ∀ W, RdC (some ⟨g1, 0, none⟩) (⟨77, [z0 + x, z1 + y]⟩ :: l.tail) W → CapC (some ⟨g1, 0, none⟩) (⟨77, [z0 + x, z1 + y]⟩ :: l.tail) W → PTabs W → Calls Tryd.prog 13 #[.slice (some ⟨g1, 0, none⟩) l.length k1] W (SegPost Y W) from fun W h1 h2 t => by
            have hlen : (⟨77, [z0 + x, z1 + y]⟩ :: l.tail : List Cmd).length = l.length := by simp; omega
            have h := Normal_any (some ⟨g1, 0, none⟩) (⟨77, [z0 + x, z1 + y]⟩ :: l.tail) k1 W (by rw [hlen]; omega) h1 h2 (fun i hi => by
              cases i with
              | zero => show [z0 + x, z1 + y].length ≤ _; simp
              | succ i =>
                have h := NF.out (i + 1) (by rw [hlen] at hi; exact hi)
                rw [hl] at h
                exact h) t
            rw [hY, hlen] at h
            exact h)
          obtain ⟨A, zA, eA⟩ := X
          obtain ⟨B, zB, eB⟩ := Y
          have hAl := norm_len2 l
          rw [hX] at hAl
          have hA60 : A.length ≤ 60 := by have h : A.length ≤ 2 * l.length := hAl; omega
          have HMV := Lib.hid (show eA = 0 → eB = 0 → B = A.map (mvS x y) ∧ RightR A from fun h1 h2 => by
            have n1 : (normS (⟨77, [z0, z1]⟩ :: l.tail)).2.2 = 0 := by rw [← hl, hX]; exact h1
            have n2 : (normS (⟨77, [z0 + x, z1 + y]⟩ :: l.tail)).2.2 = 0 := by rw [hY]; exact h2
            have m := norm_moved hsm.out n1 n2
            rw [← hl, hX, hY] at m
            have r := norm_right l (by rw [hX]; exact h1)
            rw [hX] at r
            exact ⟨m, r⟩)
          clear hgo hg1o sz0 sz5 hw00 k0I hl O5 HE5 k5I hai hX hY hAl hok h2 e2 h77 e77 HCV HE1 HD1 OW0 BAL HOA tA kA0 kA1 kAI RR HC0 HCC b5
          go_wp2_with fail
          go_region_held3 (fun w' => w'.cell? ⟨b, off + 1, none⟩ = some (.slice (some ⟨ab, ao, none⟩) 2 ac) ∧ w'.cell? ⟨ab, ao, none⟩ = some (.int .i64 z0) ∧ w'.cell? ⟨ab, ao + 1, none⟩ = some (.int .i64 z1) ∧ w'.cell? ⟨w.heap.size, 0, none⟩ = some (.int .i32 x) ∧ w'.cell? ⟨w.heap.size, 1, none⟩ = some (.int .i32 y)) (first | (simp [go_sem, *]; done) | (exact ⟨by assumption, by assumption, by assumption, by assumption, by assumption⟩)) (fail)
          change Exit.then _ _ _ _ (movedW w5 g1 (z0 + x) (z1 + y))
          as_aux_lemma =>
            obtain ⟨rdD, capD, tD⟩ := DR.out
            clear DR y0 y1 q0 q1 d1 dz k50 k51 es0 es1 m0 m1
            generalize movedW w5 g1 (z0 + x) (z1 + y) = WD at *
            have GD := Lib.hid (B2.out.trans (tD.mono B2.out.size))
            have RDD := Lib.hid rdD
            have CAPD := Lib.hid capD
            clear rdD capD tD T5 G5 B2
            go_wp2_with fail
            refine (NA.out _ GD.out).mono ?_
            rintro e w6 ⟨aA, cA, rfl, rA, kA, b6⟩
            have G6 := Lib.hid (GD.out.trans (b6.mono GD.out.size))
            have RA := Lib.hid rA
            have ND6 := Lib.hid (ND.out w6 (RDD.out.next b6) (capC_next RDD.out CAPD.out b6) (HT.out _ G6.out))
            clear rA b6 NA ND RDD CAPD GD
            go_wp2_with fail
            refine ND6.out.mono ?_
            rintro e w7 ⟨aB, cB, rfl, rB, kB, b7⟩
            have G7 := Lib.hid (G6.out.trans (b7.mono G6.out.size))
            have RA7 := Lib.hid (RA.out.next b7)
            have RB7 := Lib.hid rB
            clear rB b7 ND6 RA G6
            by_cases hea : eA = 0
            case neg =>
              have hb : (eA != 0) = true := by rw [bne_iff_ne]; exact hea
              as_aux_lemma =>
                go_wp2_with fail
                go_ret
                exact ⟨rfl, FIN.out _ G7.out⟩
            by_cases heb : eB = 0
            case neg =>
              have hb : (eB != 0) = true := by rw [bne_iff_ne]; exact heb
              subst hea
              as_aux_lemma =>
                go_wp2_with fail
                go_ret
                exact ⟨rfl, FIN.out _ G7.out⟩
            obtain ⟨rfl, hR⟩ := HMV.out hea heb
            have HR := Lib.hid hR
            subst hea heb
            have q0 := (BOX.out _ G7.out).1
            have q1 := (BOX.out _ G7.out).2.1
            have al := (Below.refl w7.heap.size w7).alloc (Nat.le_refl _) (.cells #[.int .i64 x, .int .i64 y] 41)
            have RA8 := Lib.hid (RA7.out.next al)
            have RB8 := Lib.hid (RB7.out.next al)
            have G8 := Lib.hid (G7.out.alloc G7.out.size (.cells #[.int .i64 x, .int .i64 y] 41))
            have P8 := Lib.hid (PtAt.new w7 x y)
            have hneq : ((A.length : Int) != (A.length : Int)) = false := by simp
            clear hR HMV RA7 RB7 al
            go_wp2_with fail
            generalize w7.alloc (.cells #[.int .i64 x, .int .i64 y] 41) = w8 at *
            generalize w7.heap.size = np at *
            clear q0 q1
            go_loopw [117] (fun u117 wr => ∃ i : Nat, u117 = .int .i64 (i : Int) ∧ i ≤ A.length ∧ Below w8.heap.size w8 wr) (fun u117 _ => A.length - (intOf u117).toNat)
            case atStart => exact ⟨0, rfl, Nat.zero_le _, Below.refl _ _⟩
            case round =>
              obtain ⟨j, rfl, hj, hbel⟩ := hrel
              by_cases hlj : j < A.length
              · obtain ⟨ba, oa, rfl, hba, hca⟩ := (RA8.out.next hbel).pos (by omega)
                obtain ⟨bb, ob, rfl, hbb, hcb⟩ := (RB8.out.next hbel).pos (by rw [List.length_map]; omega)
                obtain ⟨x0, x1, x2, x3, x4, x5, x6, x7, x8, x9, x10, x11⟩ := hca j hlj
                have hcbj := hcb j (by rw [List.length_map]; exact hlj)
                rw [map_at hlj] at hcbj
                obtain ⟨y0, y1, y2, y3, y4, y5, y6, y7, y8, y9, y10, y11⟩ := hcbj
                have hljI : (j : Int) < (A.length : Int) := by omega
                have ej : IntKind.i64.wrap ((j : Int) + 1) = ((j + 1 : Nat) : Int) := by rw [IntWalk.i64_in _ (by omega)]; omega
                obtain ⟨⟨_, _, ⟨s1, s2⟩, ⟨s3, s4⟩, ⟨s5, s6⟩, _⟩, _⟩ := HR.out j hlj
                clear hca hcb
                generalize A.getD j zeroS = g at *
                obtain ⟨k, tx, ty, ax, ay, cx, cy, rx, ry, tu, lg, sw⟩ := g
                unfold In32 at s1 s2 s3 s4 s5 s6
                dsimp only [mvS] at x0 x1 x2 x3 x4 x5 x6 x7 x8 x9 x10 x11 y0 y1 y2 y3 y4 y5 y6 y7 y8 y9 y10 y11 s1 s2 s3 s4 s5 s6
                have e1 : IntKind.i64.wrap (tx + x) = tx + x := IntWalk.i64_in _ (by omega)
                have e2 : IntKind.i64.wrap (ty + y) = ty + y := IntWalk.i64_in _ (by omega)
                have e3 : IntKind.i64.wrap (ax + x) = ax + x := IntWalk.i64_in _ (by omega)
                have e4 : IntKind.i64.wrap (ay + y) = ay + y := IntWalk.i64_in _ (by omega)
                have e5 : IntKind.i64.wrap (cx + x) = cx + x := IntWalk.i64_in _ (by omega)
                have e6 : IntKind.i64.wrap (cy + y) = cy + y := IntWalk.i64_in _ (by omega)
                have p0 := (P8.out.next hbel).c0
                have p1 := (P8.out.next hbel).c1
                have hnp : np < wr.heap.size := (P8.out.next hbel).lt
                have HBJ := Lib.hid hbel
                clear s1 s2 s3 s4 s5 s6 hbel
                by_cases k3 : k = 3
                · subst k3
                  rw [if_pos (Or.inl rfl)] at y3 y4
                  rw [if_pos rfl] at y5 y6
                  as_aux_lemma =>
                    go_wp2_with fail
                    go_region_held3 (fun w' => w'.cell? ⟨ba, oa + j * 12, none⟩ = some (.int .i64 3) ∧ w'.cell? ⟨ba, oa + j * 12 + 1, none⟩ = some (.int .i64 tx) ∧ w'.cell? ⟨ba, oa + j * 12 + 2, none⟩ = some (.int .i64 ty) ∧ w'.cell? ⟨ba, oa + j * 12 + 3, none⟩ = some (.int .i64 ax) ∧ w'.cell? ⟨ba, oa + j * 12 + 4, none⟩ = some (.int .i64 ay) ∧ w'.cell? ⟨ba, oa + j * 12 + 5, none⟩ = some (.int .i64 cx) ∧ w'.cell? ⟨ba, oa + j * 12 + 6, none⟩ = some (.int .i64 cy) ∧ w'.cell? ⟨ba, oa + j * 12 + 7, none⟩ = some (.int .i64 rx) ∧ w'.cell? ⟨ba, oa + j * 12 + 8, none⟩ = some (.int .i64 ry) ∧ w'.cell? ⟨ba, oa + j * 12 + 9, none⟩ = some (.int .i64 tu) ∧ w'.cell? ⟨ba, oa + j * 12 + 10, none⟩ = some (.bool lg) ∧ w'.cell? ⟨ba, oa + j * 12 + 11, none⟩ = some (.bool sw) ∧ w'.cell? ⟨bb, ob + j * 12, none⟩ = some (.int .i64 3) ∧ w'.cell? ⟨bb, ob + j * 12 + 1, none⟩ = some (.int .i64 (tx + x)) ∧ w'.cell? ⟨bb, ob + j * 12 + 2, none⟩ = some (.int .i64 (ty + y)) ∧ w'.cell? ⟨bb, ob + j * 12 + 3, none⟩ = some (.int .i64 (ax + x)) ∧ w'.cell? ⟨bb, ob + j * 12 + 4, none⟩ = some (.int .i64 (ay + y)) ∧ w'.cell? ⟨bb, ob + j * 12 + 5, none⟩ = some (.int .i64 (cx + x)) ∧ w'.cell? ⟨bb, ob + j * 12 + 6, none⟩ = some (.int .i64 (cy + y)) ∧ w'.cell? ⟨bb, ob + j * 12 + 7, none⟩ = some (.int .i64 rx) ∧ w'.cell? ⟨bb, ob + j * 12 + 8, none⟩ = some (.int .i64 ry) ∧ w'.cell? ⟨bb, ob + j * 12 + 9, none⟩ = some (.int .i64 tu) ∧ w'.cell? ⟨bb, ob + j * 12 + 10, none⟩ = some (.bool lg) ∧ w'.cell? ⟨bb, ob + j * 12 + 11, none⟩ = some (.bool sw)) (first | (simp [go_sem, *]; done) | (exact ⟨by assumption, by assumption, by assumption, by assumption, by assumption, by assumption, by assumption, by assumption, by assumption, by assumption, by assumption, by assumption, by assumption, by assumption, by assumption, by assumption, by assumption, by assumption, by assumption, by assumption, by assumption, by assumption, by assumption, by assumption⟩)) (fail)
                    all_goals
                      go_wp2_with fail
                      go_roundw
                      case rel => exact ⟨j + 1, by go_num, by omega, ((HBJ.out.alloc HBJ.out.size _).alloc (Nat.le_trans HBJ.out.size (by simp)) _).drew⟩
                      case measure => simp [intOf]; omega
                · by_cases k4 : k = 4
                  · subst k4
                    rw [if_pos (Or.inr rfl)] at y3 y4
                    rw [if_neg k3] at y5 y6
                    as_aux_lemma =>
                      go_wp2_with fail
                      go_region_held3 (fun w' => w'.cell? ⟨ba, oa + j * 12, none⟩ = some (.int .i64 4) ∧ w'.cell? ⟨ba, oa + j * 12 + 1, none⟩ = some (.int .i64 tx) ∧ w'.cell? ⟨ba, oa + j * 12 + 2, none⟩ = some (.int .i64 ty) ∧ w'.cell? ⟨ba, oa + j * 12 + 3, none⟩ = some (.int .i64 ax) ∧ w'.cell? ⟨ba, oa + j * 12 + 4, none⟩ = some (.int .i64 ay) ∧ w'.cell? ⟨ba, oa + j * 12 + 5, none⟩ = some (.int .i64 cx) ∧ w'.cell? ⟨ba, oa + j * 12 + 6, none⟩ = some (.int .i64 cy) ∧ w'.cell? ⟨ba, oa + j * 12 + 7, none⟩ = some (.int .i64 rx) ∧ w'.cell? ⟨ba, oa + j * 12 + 8, none⟩ = some (.int .i64 ry) ∧ w'.cell? ⟨ba, oa + j * 12 + 9, none⟩ = some (.int .i64 tu) ∧ w'.cell? ⟨ba, oa + j * 12 + 10, none⟩ = some (.bool lg) ∧ w'.cell? ⟨ba, oa + j * 12 + 11, none⟩ = some (.bool sw) ∧ w'.cell? ⟨bb, ob + j * 12, none⟩ = some (.int .i64 4) ∧ w'.cell? ⟨bb, ob + j * 12 + 1, none⟩ = some (.int .i64 (tx + x)) ∧ w'.cell? ⟨bb, ob + j * 12 + 2, none⟩ = some (.int .i64 (ty + y)) ∧ w'.cell? ⟨bb, ob + j * 12 + 3, none⟩ = some (.int .i64 (ax + x)) ∧ w'.cell? ⟨bb, ob + j * 12 + 4, none⟩ = some (.int .i64 (ay + y)) ∧ w'.cell? ⟨bb, ob + j * 12 + 5, none⟩ = some (.int .i64 cx) ∧ w'.cell? ⟨bb, ob + j * 12 + 6, none⟩ = some (.int .i64 cy) ∧ w'.cell? ⟨bb, ob + j * 12 + 7, none⟩ = some (.int .i64 rx) ∧ w'.cell? ⟨bb, ob + j * 12 + 8, none⟩ = some (.int .i64 ry) ∧ w'.cell? ⟨bb, ob + j * 12 + 9, none⟩ = some (.int .i64 tu) ∧ w'.cell? ⟨bb, ob + j * 12 + 10, none⟩ = some (.bool lg) ∧ w'.cell? ⟨bb, ob + j * 12 + 11, none⟩ = some (.bool sw)) (first | (simp [go_sem, *]; done) | (exact ⟨by assumption, by assumption, by assumption, by assumption, by assumption, by assumption, by assumption, by assumption, by assumption, by assumption, by assumption, by assumption, by assumption, by assumption, by assumption, by assumption, by assumption, by assumption, by assumption, by assumption, by assumption, by assumption, by assumption, by assumption⟩)) (fail)
                      all_goals
                        go_wp2_with fail
                        go_roundw
                        case rel => exact ⟨j + 1, by go_num, by omega, ((HBJ.out.alloc HBJ.out.size _).alloc (Nat.le_trans HBJ.out.size (by simp)) _).drew⟩
                        case measure => simp [intOf]; omega
                  · rw [if_neg (fun h => h.elim k3 k4)] at y3 y4
                    rw [if_neg k3] at y5 y6
                    have k3b : (k == 3) = false := by rw [beq_eq_false_iff_ne]; exact k3
                    have k4b : (k == 4) = false := by rw [beq_eq_false_iff_ne]; exact k4
                    as_aux_lemma =>
                      go_wp2_with fail
                      go_region_held3 (fun w' => w'.cell? ⟨ba, oa + j * 12, none⟩ = some (.int .i64 k) ∧ w'.cell? ⟨ba, oa + j * 12 + 1, none⟩ = some (.int .i64 tx) ∧ w'.cell? ⟨ba, oa + j * 12 + 2, none⟩ = some (.int .i64 ty) ∧ w'.cell? ⟨ba, oa + j * 12 + 3, none⟩ = some (.int .i64 ax) ∧ w'.cell? ⟨ba, oa + j * 12 + 4, none⟩ = some (.int .i64 ay) ∧ w'.cell? ⟨ba, oa + j * 12 + 5, none⟩ = some (.int .i64 cx) ∧ w'.cell? ⟨ba, oa + j * 12 + 6, none⟩ = some (.int .i64 cy) ∧ w'.cell? ⟨ba, oa + j * 12 + 7, none⟩ = some (.int .i64 rx) ∧ w'.cell? ⟨ba, oa + j * 12 + 8, none⟩ = some (.int .i64 ry) ∧ w'.cell? ⟨ba, oa + j * 12 + 9, none⟩ = some (.int .i64 tu) ∧ w'.cell? ⟨ba, oa + j * 12 + 10, none⟩ = some (.bool lg) ∧ w'.cell? ⟨ba, oa + j * 12 + 11, none⟩ = some (.bool sw) ∧ w'.cell? ⟨bb, ob + j * 12, none⟩ = some (.int .i64 k) ∧ w'.cell? ⟨bb, ob + j * 12 + 1, none⟩ = some (.int .i64 (tx + x)) ∧ w'.cell? ⟨bb, ob + j * 12 + 2, none⟩ = some (.int .i64 (ty + y)) ∧ w'.cell? ⟨bb, ob + j * 12 + 3, none⟩ = some (.int .i64 ax) ∧ w'.cell? ⟨bb, ob + j * 12 + 4, none⟩ = some (.int .i64 ay) ∧ w'.cell? ⟨bb, ob + j * 12 + 5, none⟩ = some (.int .i64 cx) ∧ w'.cell? ⟨bb, ob + j * 12 + 6, none⟩ = some (.int .i64 cy) ∧ w'.cell? ⟨bb, ob + j * 12 + 7, none⟩ = some (.int .i64 rx) ∧ w'.cell? ⟨bb, ob + j * 12 + 8, none⟩ = some (.int .i64 ry) ∧ w'.cell? ⟨bb, ob + j * 12 + 9, none⟩ = some (.int .i64 tu) ∧ w'.cell? ⟨bb, ob + j * 12 + 10, none⟩ = some (.bool lg) ∧ w'.cell? ⟨bb, ob + j * 12 + 11, none⟩ = some (.bool sw)) (first | (simp [go_sem, *]; done) | (exact ⟨by assumption, by assumption, by assumption, by assumption, by assumption, by assumption, by assumption, by assumption, by assumption, by assumption, by assumption, by assumption, by assumption, by assumption, by assumption, by assumption, by assumption, by assumption, by assumption, by assumption, by assumption, by assumption, by assumption, by assumption⟩)) (fail)
                      all_goals
                        go_wp2_with fail
                        go_roundw
                        case rel => exact ⟨j + 1, by go_num, by omega, ((HBJ.out.alloc HBJ.out.size _).alloc (Nat.le_trans HBJ.out.size (by simp)) _).drew⟩
                        case measure => simp [intOf]; omega
              · have hnl : ¬ (j : Int) < (A.length : Int) := by omega
                as_aux_lemma =>
                  go_wp2_with fail
                  go_ret
                  exact ⟨rfl, FIN.out _ (G8.out.trans (hbel.mono G8.out.size))⟩
end Go.Proofs.YtgiibcnakiggaaaDoor.normMoves
