/-
  The contracts of package norm's wrongCommand and Normal.
-/
import Derived.Test.YtgiibcnakiggaaaDoorNormParse
import Derived.Test.YtgiibcnakiggaaaDoorPathRight
namespace Go.Proofs.YtgiibcnakiggaaaDoor
open Go.RowKit Go.Shelf

/-- The place of the first command that isn't right there, or -1. -/
noncomputable def wrongL : List Cmd → Nat → Int
  | [], _ => -1
  | x :: t, i => if okB x = false ∨ (i = 0 ∧ capL x.letter ≠ 77) then (i : Int) else wrongL t (i + 1)
set_option maxRecDepth 100000 in
set_option maxHeartbeats 8000000 in
theorem wrong_any (a : Option Addr) (l : List Cmd) (cap : Nat) (w : World) (hl : l.length ≤ 1000) (hA : RdC a l w) (hargs : ∀ i, i < l.length → (ars l i).length ≤ 1000000000) (T : PTabs w) :
    Calls Tryd.prog 25 #[.slice a l.length cap] w fun e w' => e = .returned (.int .i64 (wrongL l 0)) ∧ Below w.heap.size w w' := by
  have HA := Lib.hid hA
  have HT := Lib.hid T
  have HG := Lib.hid hargs
  obtain ⟨RES, hR⟩ : ∃ R, wrongL l 0 = R := ⟨_, rfl⟩
  rw [hR]
  have HR0 := Lib.hid (show wrongL (l.drop 0) 0 = RES from hR)
  clear hA T hargs hR
  go_enter Tryd.func25, Tryd.ntmps25
  go_wp2_with fail
  go_loopw [7] (fun u7 wr => ∃ i : Nat, u7 = .int .i64 (i : Int) ∧ i ≤ l.length ∧ Below w.heap.size w wr ∧ Hid (wrongL (l.drop i) i = RES)) (fun u7 _ => l.length - (intOf u7).toNat)
  case atStart => exact ⟨0, rfl, Nat.zero_le _, Below.refl _ _, HR0⟩
  case round =>
    clear HR0
    obtain ⟨i, rfl, hi, hbel, hE⟩ := hrel
    by_cases hlt : i < l.length
    · obtain ⟨b, off, rfl, hb, hcs⟩ := (HA.out.next hbel).pos (by omega)
      obtain ⟨aa, ac, A⟩ := hcs i hlt
      have x0 := A.c0
      have x1 := A.c1
      have hltr := A.lt
      have hargi := HG.out i hlt
      have hE' := hE.out
      rw [drop_cons7 hlt] at hE'
      unfold wrongL at hE'
      have HE := Lib.hid hE'
      have hltI : (i : Int) < (l.length : Int) := by omega
      have e1 : IntKind.i64.wrap ((i : Int) + 1) = ((i + 1 : Nat) : Int) := by rw [IntWalk.i64_in _ (by omega)]; omega
      have bb := (Below.refl wr.heap.size wr).alloc (Nat.le_refl _) (.cells #[.int .u8 (ltr l i : Int), .slice aa (ars l i).length ac] 34)
      have RT := Lib.hid (Right_any (ltr l i) aa (ars l i) ac (wr.alloc (.cells #[.int .u8 (ltr l i : Int), .slice aa (ars l i).length ac] 34)) hltr hargi (A.row.below bb (Nat.le_refl _)) ((HT.out.next hbel).next bb))
      have BX : BoxC7 wr.heap.size (ltr l i) (.slice aa (ars l i).length ac) (wr.alloc (.cells #[.int .u8 (ltr l i : Int), .slice aa (ars l i).length ac] 34)) := World.alloc_heap_new wr _
      have HX := Lib.hid BX
      have HB := Lib.hid (hbel.trans (bb.mono hbel.size))
      clear hE hE' A hcs hbel bb BX
      go_wp2_with fail
      generalize hW5 : wr.alloc (.cells #[.int .u8 (ltr l i : Int), .slice aa (ars l i).length ac] 34) = W5 at *
      refine RT.out.mono ?_
      rintro e w6 ⟨rfl, b6⟩
      have HX6 := Lib.hid (HX.out.next b6)
      have HB6 := Lib.hid (HB.out.trans (b6.mono HB.out.size))
      have c0 := HX6.out.c0
      clear b6 RT HX HB x0 x1 hW5
      by_cases hr : okB ⟨ltr l i, ars l i⟩ = true
      · have hw := (okB_iff.1 hr).2.1
        have HE2 := HE.out
        rw [hr] at HE2 ⊢
        have CA := Lib.hid (fun w => capital_any (ltr l i) hw w)
        by_cases hi0 : i = 0
        · have hbe : ((i : Int) == 0) = true := by rw [beq_iff_eq]; omega
          by_cases h77 : capL (ltr l i) = 77
          · rw [if_neg (by rintro (h | h); exact absurd h (by decide); exact h.2 h77)] at HE2
            have HE3 := Lib.hid HE2
            have hbn : ((capL (ltr l i) : Int) != 77) = false := by rw [h77]; rfl
            clear HE HE2 hr hw
            subst hi0
            go_wp2_with fail
            refine (CA.out _).mono ?_
            rintro e w7 ⟨rfl, rfl⟩
            go_wp2_with fail
            go_roundw
            case rel => exact ⟨1, by go_num, by omega, HB6.out, HE3⟩
            case measure => simp [intOf]; omega
          · rw [if_pos (Or.inr ⟨hi0, h77⟩)] at HE2
            have hbn : ((capL (ltr l i) : Int) != 77) = true := by rw [bne_iff_ne]; omega
            subst HE2
            clear HE hr hw
            subst hi0
            go_wp2_with fail
            refine (CA.out _).mono ?_
            rintro e w7 ⟨rfl, rfl⟩
            go_wp2_with fail
            go_ret
            exact ⟨rfl, HB6.out⟩
        · have hbe : ((i : Int) == 0) = false := by rw [beq_eq_false_iff_ne]; omega
          rw [if_neg (by rintro (h | h); exact absurd h (by decide); exact hi0 h.1)] at HE2
          have HE3 := Lib.hid HE2
          clear HE HE2 hr hw CA
          go_wp2_with fail
          go_roundw
          case rel => exact ⟨i + 1, by go_num, by omega, HB6.out, HE3⟩
          case measure => simp [intOf]; omega
      · have hr' : okB ⟨ltr l i, ars l i⟩ = false := by simpa using hr
        have HE2 := HE.out
        rw [hr'] at HE2 ⊢
        rw [if_pos (Or.inl rfl)] at HE2
        subst HE2
        clear HE hr hr'
        go_wp2_with fail
        go_ret
        exact ⟨rfl, HB6.out⟩
    · have hil : i = l.length := by omega
      have hE' := hE.out
      rw [hil, List.drop_length] at hE'
      unfold wrongL at hE'
      subst hE'
      have hnl : ¬ (i : Int) < (l.length : Int) := by omega
      clear hE
      go_wp2_with fail
      go_ret
      exact ⟨rfl, hbel⟩
/-- What Normal answers: by what is wrong first, or goes too far. -/
noncomputable def normS (l : List Cmd) : List Seg × Int × Int :=
  if 0 ≤ wrongL l 0 then ([], wrongL l 0, 1) else if 0 ≤ (bringL NS.zero l 0).2 then ([], (bringL NS.zero l 0).2, 2) else ((bringL NS.zero l 0).1, -1, 0)
theorem wrong_may : ∀ (l : List Cmd) (i : Nat), ¬ 0 ≤ wrongL l i → (∀ x ∈ l, CmdOk x) ∧ (i = 0 → HeadM l) := by
  intro l
  induction l with
  | nil => intro i _; exact ⟨fun x h => (by cases h), fun _ x r h => by cases h⟩
  | cons y t ih =>
    intro i h
    unfold wrongL at h
    split at h
    · exact absurd (Int.natCast_nonneg i) h
    · rename_i hn
      have hy : CmdOk y := okB_iff.1 (by cases hb : okB y; exact absurd (Or.inl hb) hn; rfl)
      obtain ⟨h1, _⟩ := ih _ h
      refine ⟨fun x hx => ?_, fun hi x r e => ?_⟩
      · rcases List.mem_cons.1 hx with rfl | hx
        · exact hy
        · exact h1 x hx
      · obtain ⟨rfl, rfl⟩ : y = x ∧ t = r := by simpa using e
        exact Classical.byContradiction fun k => hn (Or.inr ⟨hi, k⟩)
set_option maxRecDepth 100000 in
theorem Normal_any (a : Option Addr) (l : List Cmd) (cap : Nat) (w : World) (hl : l.length ≤ 1000) (hA : RdC a l w) (hC : CapC a l w) (hargs : ∀ i, i < l.length → (ars l i).length ≤ 1000000000) (T : PTabs w) :
    Calls Tryd.prog 13 #[.slice a l.length cap] w (SegPost (normS l) w) := by
  have WR := Lib.hid (wrong_any a l cap w hl hA hargs T)
  unfold normS
  by_cases h1 : 0 ≤ wrongL l 0
  · rw [if_pos h1]
    generalize wrongL l 0 = z at *
    clear hA hC T hargs
    go_enter Tryd.func13, Tryd.ntmps13
    go_wp2_with fail
    refine WR.out.mono ?_
    rintro e w1 ⟨rfl, b1⟩
    go_wp2_with fail
    go_ret3
    exact ⟨none, 0, rfl, .inl rfl, Nat.le_refl _, b1⟩
  · rw [if_neg h1]
    obtain ⟨m1, m2⟩ := wrong_may l 0 h1
    have BG := Lib.hid (fun w h1 h2 => bring_any a l cap w hl h1 h2 (fun x hx => (m1 x hx).w) (m2 rfl))
    have HA := Lib.hid hA
    have HC := Lib.hid hC
    clear m1 m2
    generalize wrongL l 0 = z at *
    obtain ⟨BR, hBR⟩ : ∃ B, bringL NS.zero l 0 = B := ⟨_, rfl⟩
    rw [hBR]
    rw [hBR] at BG
    clear hBR
    obtain ⟨g, far⟩ := BR
    have hstay : ∀ w', Below w.heap.size w w' → CapC a l w' := fun w' b => by
      rcases HA.out with h | ⟨b0, o0, rfl, hlt, _⟩
      · subst h; intro _ _ _ i hi; exact absurd hi (by simp)
      · intro b1 o1 e i hi aa n ac hc
        cases e
        exact HC.out b0 o0 rfl i hi aa n ac ((b.cell (p := ⟨b0, o0 + i * 2 + 1, none⟩) (by exact hlt)).symm.trans hc)
    have HCC := Lib.hid hstay
    clear hA hC T hargs hstay
    by_cases hf : 0 ≤ far
    · rw [if_pos hf]
      go_enter Tryd.func13, Tryd.ntmps13
      go_wp2_with fail
      refine WR.out.mono ?_
      rintro e w1 ⟨rfl, b1⟩
      have B1 := Lib.hid b1
      have BG1 := Lib.hid (BG.out w1 (HA.out.next b1) (HCC.out _ b1))
      clear b1 WR BG
      go_wp2_with fail
      refine BG1.out.mono ?_
      rintro e w2 ⟨a2, cap2, rfl, _, _, b2⟩
      have B2 := Lib.hid (B1.out.trans (b2.mono B1.out.size))
      clear b2
      go_wp2_with fail
      go_ret3
      exact ⟨none, 0, rfl, .inl rfl, Nat.le_refl _, B2.out⟩
    · rw [if_neg hf]
      go_enter Tryd.func13, Tryd.ntmps13
      go_wp2_with fail
      refine WR.out.mono ?_
      rintro e w1 ⟨rfl, b1⟩
      have B1 := Lib.hid b1
      have BG1 := Lib.hid (BG.out w1 (HA.out.next b1) (HCC.out _ b1))
      clear b1 WR BG
      go_wp2_with fail
      refine BG1.out.mono ?_
      rintro e w2 ⟨a2, cap2, rfl, hrd, hcap, b2⟩
      have R2 := Lib.hid hrd
      have C2 := Lib.hid hcap
      have B2 := Lib.hid (B1.out.trans (b2.mono B1.out.size))
      clear hrd hcap b2
      go_wp2_with fail
      go_ret3
      exact ⟨a2, cap2, rfl, R2.out, C2.out, B2.out⟩
end Go.Proofs.YtgiibcnakiggaaaDoor
