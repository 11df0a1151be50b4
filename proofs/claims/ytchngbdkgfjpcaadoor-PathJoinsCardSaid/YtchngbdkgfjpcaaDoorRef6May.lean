/-
  The document's Great and May.
-/
import Derived.Test.YtchngbdkgfjpcaaDoorRef6Right
import Derived.Test.YtchngbdkgfjpcaaDoorPathPr2
namespace Go.Proofs.YtchngbdkgfjpcaaDoor
open Go.RowKit Go.Shelf

/-- Not more commands, nor longer ones, than so many. -/
def Few (l : List Cmd) (most : Nat) : Prop := l.length ≤ most ∧ ∀ i, i < l.length → (ars l i).length ≤ 20
theorem great_any (a : Option Addr) (l : List Cmd) (cap most : Nat) (w : World) (hA : RdC a l w) (hl : most ≤ 1000) :
    ∃ g : Bool, (g = false → Few l most) ∧ (g = true → ¬ Few l most) ∧ Calls Tryd.prog 19 #[.slice a l.length cap, .int .i64 (most : Int)] w fun e w' => e = .returned (.bool g) ∧ w = w' := by
  by_cases h0 : most < l.length
  · refine ⟨true, (fun h => by cases h), fun _ h => by have := h.1; omega, ?_⟩
    have hI : (most : Int) < (l.length : Int) := by omega
    go_enter Tryd.func19, Tryd.ntmps19
    go_wp2_with fail
    go_ret
    exact ⟨rfl, rfl⟩
  · have hI : ¬ (most : Int) < (l.length : Int) := by omega
    by_cases hF : ∀ i, i < l.length → (ars l i).length ≤ 20
    · refine ⟨false, fun _ => ⟨by omega, hF⟩, (fun h => by cases h), ?_⟩
      have HF := Lib.hid hF
      have HA := Lib.hid hA
      clear hF hA
      go_enter Tryd.func19, Tryd.ntmps19
      go_wp2_with fail
      go_loop [5] (fun v => ∃ i : Nat, v = .int .i64 (i : Int) ∧ i ≤ l.length) (fun v => l.length - (intOf v).toNat)
      case atStart => exact ⟨0, rfl, Nat.zero_le _⟩
      case round =>
        obtain ⟨i, rfl, hi⟩ := hrel
        by_cases hlt : i < l.length
        · obtain ⟨b, off, rfl, hb, hc⟩ := HA.out.pos (by omega)
          obtain ⟨aa, ac, A⟩ := hc i hlt
          have x1 := A.c1
          have hltI : (i : Int) < (l.length : Int) := by omega
          have h20 : ¬ (20 : Int) < ((ars l i).length : Int) := by have := HF.out i hlt; omega
          have e1 : IntKind.i64.wrap ((i : Int) + 1) = ((i + 1 : Nat) : Int) := by rw [IntWalk.i64_in _ (by omega)]; omega
          clear hc A
          go_wp2_with fail
          go_round
          case rel => exact ⟨i + 1, by go_num, by omega⟩
          case measure => simp [intOf]; omega
        · have hnl : ¬ (i : Int) < (l.length : Int) := by omega
          go_wp2_with fail
          go_ret
          exact ⟨rfl, rfl⟩
    · refine ⟨true, (fun h => by cases h), fun _ h => hF h.2, ?_⟩
      have HF := Lib.hid hF
      have HA := Lib.hid hA
      clear hF hA
      go_enter Tryd.func19, Tryd.ntmps19
      go_wp2_with fail
      go_loop [5] (fun v => ∃ i : Nat, v = .int .i64 (i : Int) ∧ i ≤ l.length ∧ Hid (∀ j, j < i → (ars l j).length ≤ 20)) (fun v => l.length - (intOf v).toNat)
      case atStart => exact ⟨0, rfl, Nat.zero_le _, Lib.hid (fun j hj => absurd hj (by omega))⟩
      case round =>
        obtain ⟨i, rfl, hi, hO⟩ := hrel
        by_cases hlt : i < l.length
        · obtain ⟨b, off, rfl, hb, hc⟩ := HA.out.pos (by omega)
          obtain ⟨aa, ac, A⟩ := hc i hlt
          have x1 := A.c1
          have hltI : (i : Int) < (l.length : Int) := by omega
          have e1 : IntKind.i64.wrap ((i : Int) + 1) = ((i + 1 : Nat) : Int) := by rw [IntWalk.i64_in _ (by omega)]; omega
          clear hc A
          by_cases h2 : 20 < (ars l i).length
          · have h20 : (20 : Int) < ((ars l i).length : Int) := by omega
            go_wp2_with fail
            go_ret
            exact ⟨rfl, rfl⟩
          · have h20 : ¬ (20 : Int) < ((ars l i).length : Int) := by omega
            have HO2 := Lib.hid (show ∀ j, j < i + 1 → (ars l j).length ≤ 20 from fun j hj => by
              by_cases h : j < i
              · exact hO.out j h
              · obtain rfl : j = i := by omega
                omega)
            go_wp2_with fail
            go_round
            case rel => exact ⟨i + 1, by go_num, by omega, HO2⟩
            case measure => simp [intOf]; omega
        · exact absurd (fun j hj => hO.out j (by omega)) HF.out

set_option maxHeartbeats 2000000 in
theorem rmay_any (a : Option Addr) (l : List Cmd) (cap : Nat) (w : World) (hl : l.length ≤ 1000) (hA : RdC a l w) (hargs : ∀ i, i < l.length → (ars l i).length ≤ 1000000000) :
    Calls Tryd.prog 21 #[.slice a l.length cap] w fun e w' => e = .returned (.bool (mayB l)) ∧ Below w.heap.size w w' := by
  have RR := Lib.hid (fun c a zs cap w hc hz hI => rright_any c a zs cap w hc hz hI)
  have HA := Lib.hid hA
  have HARG := Lib.hid hargs
  obtain ⟨mb, hmb⟩ : ∃ mb, mayB l = mb := ⟨_, rfl⟩
  rw [hmb]
  have HNO := Lib.hid (show ¬ MayL l → mb = false from fun h => by rw [← hmb]; exact mayB_false h)
  have HYES := Lib.hid (show MayL l → mb = true from fun h => by rw [← hmb]; exact mayB_true h)
  clear hA hargs hmb
  go_enter Tryd.func21, Tryd.ntmps21
  go_wp2_with fail
  go_loopw [3] (fun u3 wr => ∃ i : Nat, u3 = .int .i64 (i : Int) ∧ i ≤ l.length ∧ Below w.heap.size w wr ∧ Hid (∀ j, j < i → CmdOk ⟨ltr l j, ars l j⟩ ∧ (j = 0 → ltr l 0 = 77 ∨ ltr l 0 = 109))) (fun u3 _ => l.length - (intOf u3).toNat)
  case atStart => exact ⟨0, rfl, Nat.zero_le _, Below.refl _ _, Lib.hid (fun j hj => absurd hj (by omega))⟩
  case round =>
    obtain ⟨i, rfl, hi, hbel, hO⟩ := hrel
    by_cases hlt : i < l.length
    · obtain ⟨b, off, rfl, hb, hc⟩ := (HA.out.next hbel).pos (by omega)
      obtain ⟨aa, ac, A⟩ := hc i hlt
      have x0 := A.c0
      have x1 := A.c1
      have hcl := A.lt
      have hzl := HARG.out i hlt
      have HR := Lib.hid (RR.out (ltr l i) aa (ars l i) ac wr hcl hzl A.row)
      have hltI : (i : Int) < (l.length : Int) := by omega
      have e1 : IntKind.i64.wrap ((i : Int) + 1) = ((i + 1 : Nat) : Int) := by rw [IntWalk.i64_in _ (by omega)]; omega
      have HB := Lib.hid hbel
      have hwr := hbel.size
      have HX := Lib.hid (at_some l hlt)
      clear hc A hbel
      cases hok : okB ⟨ltr l i, ars l i⟩ with
      | false =>
        have hm : mb = false := HNO.out fun h => by
          have h0 := h.1 ⟨ltr l i, ars l i⟩ (List.mem_of_getElem? HX.out)
          rw [okB_true h0] at hok; cases hok
        subst hm
        rw [hok] at HR
        clear hok
        go_wp2_with fail
        refine HR.out.mono ?_
        rintro e w2 ⟨rfl, b2⟩
        have B2 := Lib.hid (HB.out.trans (b2.mono hwr))
        clear b2
        go_wp2_with fail
        go_ret
        exact ⟨rfl, B2.out⟩
      | true =>
        have HOK := Lib.hid (okB_iff.1 hok)
        rw [hok] at HR
        clear hok
        by_cases hi0 : i = 0
        · subst hi0
          have y0 : wr.cell? ⟨b, off, none⟩ = some (.int .u8 (ltr l 0 : Int)) := by simpa using x0
          have y1 : wr.cell? ⟨b, off + 1, none⟩ = some (.slice aa (ars l 0).length ac) := by simpa using x1
          by_cases h77 : ltr l 0 = 77
          · have HO2 := Lib.hid (show ∀ j, j < 0 + 1 → CmdOk ⟨ltr l j, ars l j⟩ ∧ (j = 0 → ltr l 0 = 77 ∨ ltr l 0 = 109) from fun j hj => by
              obtain rfl : j = 0 := by omega
              exact ⟨HOK.out, fun _ => Or.inl h77⟩)
            have e77 : ((ltr l 0 : Int) != 77) = false := by rw [h77]; rfl
            clear hO h77
            go_wp2_with fail
            refine HR.out.mono ?_
            rintro e w2 ⟨rfl, b2⟩
            have z0 := (b2.cell (p := ⟨b, off, none⟩) (by exact hb)).trans y0
            have B2 := Lib.hid (HB.out.trans (b2.mono hwr))
            clear b2
            go_wp2_with fail
            go_roundw
            case rel => exact ⟨1, by go_num, by omega, B2.out, HO2⟩
            case measure => simp [intOf]; omega
          · have f77 : ((ltr l 0 : Int) == 77) = false := by rw [beq_eq_false_iff_ne]; omega
            have e77 : ((ltr l 0 : Int) != 77) = true := by rw [bne, f77]; rfl
            by_cases h109 : ltr l 0 = 109
            · have HO2 := Lib.hid (show ∀ j, j < 0 + 1 → CmdOk ⟨ltr l j, ars l j⟩ ∧ (j = 0 → ltr l 0 = 77 ∨ ltr l 0 = 109) from fun j hj => by
                obtain rfl : j = 0 := by omega
                exact ⟨HOK.out, fun _ => Or.inr h109⟩)
              have e109 : ((ltr l 0 : Int) != 109) = false := by rw [h109]; rfl
              clear hO h109 h77
              go_wp2_with fail
              refine HR.out.mono ?_
              rintro e w2 ⟨rfl, b2⟩
              have z0 := (b2.cell (p := ⟨b, off, none⟩) (by exact hb)).trans y0
              have B2 := Lib.hid (HB.out.trans (b2.mono hwr))
              clear b2
              go_wp2_with fail
              go_roundw
              case rel => exact ⟨1, by go_num, by omega, B2.out, HO2⟩
              case measure => simp [intOf]; omega
            · have f109 : ((ltr l 0 : Int) == 109) = false := by rw [beq_eq_false_iff_ne]; omega
              have e109 : ((ltr l 0 : Int) != 109) = true := by rw [bne, f109]; rfl
              have hm : mb = false := HNO.out fun h => by
                cases l with
                | nil => simp at hlt
                | cons y r =>
                  have := h.2 y r rfl
                  have e : ltr (y :: r) 0 = y.letter := rfl
                  rw [e] at h77 h109
                  omega
              subst hm
              clear h77 h109
              go_wp2_with fail
              refine HR.out.mono ?_
              rintro e w2 ⟨rfl, b2⟩
              have z0 := (b2.cell (p := ⟨b, off, none⟩) (by exact hb)).trans y0
              have B2 := Lib.hid (HB.out.trans (b2.mono hwr))
              clear b2
              go_wp2_with fail
              go_ret
              exact ⟨rfl, B2.out⟩
        · have fi : ((i : Int) == 0) = false := by rw [beq_eq_false_iff_ne]; omega
          have HO2 := Lib.hid (show ∀ j, j < i + 1 → CmdOk ⟨ltr l j, ars l j⟩ ∧ (j = 0 → ltr l 0 = 77 ∨ ltr l 0 = 109) from fun j hj => by
            by_cases h : j < i
            · exact hO.out j h
            · obtain rfl : j = i := by omega
              exact ⟨HOK.out, fun h => absurd h hi0⟩)
          clear hi0
          go_wp2_with fail
          refine HR.out.mono ?_
          rintro e w2 ⟨rfl, b2⟩
          have B2 := Lib.hid (HB.out.trans (b2.mono hwr))
          clear b2
          go_wp2_with fail
          go_roundw
          case rel => exact ⟨i + 1, by go_num, by omega, B2.out, HO2⟩
          case measure => simp [intOf]; omega
    · have hm : mb = true := HYES.out (may_of (fun j hj => (hO.out j (by omega)).1) (fun h => (hO.out 0 (by omega)).2 rfl))
      subst hm
      have hnl : ¬ (i : Int) < (l.length : Int) := by omega
      clear hO
      go_wp2_with fail
      go_ret
      exact ⟨rfl, hbel⟩
end Go.Proofs.YtchngbdkgfjpcaaDoor
