/-
  The document's Great.
-/
import Derived.Test.YtgiibcnakiggaaaDoorPathRd
namespace Go.Proofs.YtgiibcnakiggaaaDoor
open Go.RowKit Go.Shelf

/-- Not more commands, nor longer ones, than so many. -/
def Few (l : List Cmd) (most : Nat) : Prop := l.length ≤ most ∧ ∀ i, i < l.length → (ars l i).length ≤ 20
theorem great_any (a : Option Addr) (l : List Cmd) (cap most : Nat) (w : World) (hA : RdC a l w) (hl : most ≤ 1000) :
    ∃ g : Bool, (g = false → Few l most) ∧ (g = true → ¬ Few l most) ∧ Calls Tryd.prog 11 #[.slice a l.length cap, .int .i64 (most : Int)] w fun e w' => e = .returned (.bool g) ∧ w = w' := by
  by_cases h0 : most < l.length
  · refine ⟨true, (fun h => by cases h), fun _ h => by have := h.1; omega, ?_⟩
    have hI : (most : Int) < (l.length : Int) := by omega
    go_enter Tryd.func11, Tryd.ntmps11
    go_wp2_with fail
    go_ret
    exact ⟨rfl, rfl⟩
  · have hI : ¬ (most : Int) < (l.length : Int) := by omega
    by_cases hF : ∀ i, i < l.length → (ars l i).length ≤ 20
    · refine ⟨false, fun _ => ⟨by omega, hF⟩, (fun h => by cases h), ?_⟩
      have HF := Lib.hid hF
      have HA := Lib.hid hA
      clear hF hA
      go_enter Tryd.func11, Tryd.ntmps11
      go_wp2_with fail
      go_loop [5] (fun v => ∃ i : Nat, v = .int .i64 (i : Int) ∧ i ≤ l.length) (fun v => l.length - (intOf v).toNat)
      case atStart => exact ⟨0, rfl, Nat.zero_le _⟩
      case round =>
        obtain ⟨i, rfl, hi⟩ := hrel
        by_cases hlt : i < l.length
        · obtain ⟨b, off, rfl, hb, hc⟩ := HA.out.pos (by omega)
          obtain ⟨aa, ac, A⟩ := hc i hlt
          have x1 := A.c1
          have hltI : (i : Int) < (l.length : Int) := by omega
          have h20 : ¬ (20 : Int) < ((ars l i).length : Int) := by have := HF.out i hlt; omega
          have e1 : IntKind.i64.wrap ((i : Int) + 1) = ((i + 1 : Nat) : Int) := by rw [IntWalk.i64_in _ (by omega)]; omega
          clear hc A
          go_wp2_with fail
          go_round
          case rel => exact ⟨i + 1, by go_num, by omega⟩
          case measure => simp [intOf]; omega
        · have hnl : ¬ (i : Int) < (l.length : Int) := by omega
          go_wp2_with fail
          go_ret
          exact ⟨rfl, rfl⟩
    · refine ⟨true, (fun h => by cases h), fun _ h => hF h.2, ?_⟩
      have HF := Lib.hid hF
      have HA := Lib.hid hA
      clear hF hA
      go_enter Tryd.func11, Tryd.ntmps11
      go_wp2_with fail
      go_loop [5] (fun v => ∃ i : Nat, v = .int .i64 (i : Int) ∧ i ≤ l.length ∧ Hid (∀ j, j < i → (ars l j).length ≤ 20)) (fun v => l.length - (intOf v).toNat)
      case atStart => exact ⟨0, rfl, Nat.zero_le _, Lib.hid (fun j hj => absurd hj (by omega))⟩
      case round =>
        obtain ⟨i, rfl, hi, hO⟩ := hrel
        by_cases hlt : i < l.length
        · obtain ⟨b, off, rfl, hb, hc⟩ := HA.out.pos (by omega)
          obtain ⟨aa, ac, A⟩ := hc i hlt
          have x1 := A.c1
          have hltI : (i : Int) < (l.length : Int) := by omega
          have e1 : IntKind.i64.wrap ((i : Int) + 1) = ((i + 1 : Nat) : Int) := by rw [IntWalk.i64_in _ (by omega)]; omega
          clear hc A
          by_cases h2 : 20 < (ars l i).length
          · have h20 : (20 : Int) < ((ars l i).length : Int) := by omega
            go_wp2_with fail
            go_ret
            exact ⟨rfl, rfl⟩
          · have h20 : ¬ (20 : Int) < ((ars l i).length : Int) := by omega
            have HO2 := Lib.hid (show ∀ j, j < i + 1 → (ars l j).length ≤ 20 from fun j hj => by
              by_cases h : j < i
              · exact hO.out j h
              · obtain rfl : j = i := by omega
                omega)
            go_wp2_with fail
            go_round
            case rel => exact ⟨i + 1, by go_num, by omega, HO2⟩
            case measure => simp [intOf]; omega
        · exact absurd (fun j hj => hO.out j (by omega)) HF.out
end Go.Proofs.YtgiibcnakiggaaaDoor
