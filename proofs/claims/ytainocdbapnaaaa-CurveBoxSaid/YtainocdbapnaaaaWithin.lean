/-
  The contract of wide.Within.
-/
import Derived.Test.YtainocdbapnaaaaRowK
namespace Go.Proofs.Ytainocdbapnaaaa
open Go.RowKit Go.Shelf

/-- Is it within the bound? -/
def wiB (bound n : Int) : Bool := decide (n < bound ∧ -bound < n)
theorem all_snoc (p : Int → Bool) (zs : List Int) (k : Nat) (hk : k < zs.length) : (zs.take (k + 1)).all p = ((zs.take k).all p && p (zs.getD k 0)) := by
  rw [List.take_succ_eq_append_getElem hk, List.all_append]
  simp [List.getD, List.getElem?_eq_getElem hk]

theorem all_false (p : Int → Bool) (zs : List Int) (k : Nat) (hk : k < zs.length) (h : p (zs.getD k 0) = false) : zs.all p = false := by
  rw [List.all_eq_false]
  refine ⟨zs[k], List.getElem_mem hk, ?_⟩
  simpa [List.getD, List.getElem?_eq_getElem hk] using h

theorem getD_mem7 (zs : List Int) (k : Nat) (hk : k < zs.length) : zs.getD k 0 ∈ zs := by
  simp [List.getD, List.getElem?_eq_getElem hk]

set_option maxHeartbeats 1000000 in
theorem within_any (bound : Int) (a : Option Addr) (zs : List Int) (cap : Nat) (w : World) (hb : I64 bound) (hz : ∀ z ∈ zs, I64 z) (hl : zs.length ≤ maxLen) (h : IntsK .i64 a zs w) :
    Calls Try.prog 23 #[.int .i64 bound, .slice a zs.length cap] w fun e w' => e = .returned (.bool (zs.all (wiB bound))) ∧ w = w' := by
  unfold maxLen at hl
  have HZ := Lib.hid hz
  have HI := Lib.hid h
  clear hz h
  go_enter Try.func23, Try.ntmps23
  go_wp2_with fail
  go_loop [6, 9] (fun _ i => ∃ k : Nat, k ≤ zs.length ∧ i = .int .i64 k ∧ Hid ((zs.take k).all (wiB bound) = true)) (fun _ i => zs.length - (intOf i).toNat)
  case atStart => exact ⟨0, Nat.zero_le _, rfl, by unfold Hid; simp⟩
  case round =>
    obtain ⟨k, hk, rfl, hall⟩ := hrel
    by_cases hlt : k < zs.length
    · obtain ⟨b, off, rfl, hbl, hc⟩ := HI.out.pos hlt
      have hcell := hc k hlt
      have hz := HZ.out _ (getD_mem7 zs k hlt)
      have HS := Lib.hid (all_snoc (wiB bound) zs k hlt)
      have HF := Lib.hid (all_false (wiB bound) zs k hlt)
      clear hc
      generalize zs.getD k 0 = z at *
      unfold I64 at hz hb
      obtain ⟨hz1, hz2⟩ := hz
      obtain ⟨hb1, hb2⟩ := hb
      by_cases h1 : bound ≤ z
      · have hf := HF.out (by unfold wiB; simp; omega)
        have HF2 := Lib.hid hf
        clear hf
        go_wp2_with fail
        go_ret
        exact ⟨by rw [HF2.out]; rfl, rfl⟩
      · by_cases h2 : z ≤ -bound
        · have hf := HF.out (by unfold wiB; simp; omega)
          have HF2 := Lib.hid hf
          clear hf
          go_wp2_with fail
          go_ret
          exact ⟨by rw [HF2.out]; rfl, rfl⟩
        · go_wp2_with fail
          go_round
          case rel => exact ⟨k + 1, by omega, by go_num, by unfold Hid; rw [HS.out, hall.out]; unfold wiB; simp; omega⟩
          case measure => simp [intOf]; omega
    · obtain rfl : k = zs.length := by omega
      have hf : zs.all (wiB bound) = true := by have := hall.out; rwa [List.take_length] at this
      have HF2 := Lib.hid hf
      clear hf
      go_wp2_with fail
      go_ret
      exact ⟨by rw [HF2.out]; rfl, rfl⟩
end Go.Proofs.Ytainocdbapnaaaa
