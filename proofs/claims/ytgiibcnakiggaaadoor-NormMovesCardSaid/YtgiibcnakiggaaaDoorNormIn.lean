/-
  The contracts of wide.Within and of package norm's inBound.
-/
import Derived.Test.YtgiibcnakiggaaaDoorNormTake
namespace Go.Proofs.YtgiibcnakiggaaaDoor
open Go.RowKit Go.Shelf

/-- Is it within the bound? -/
def wiB (bound n : Int) : Bool := decide (n < bound ∧ -bound < n)
theorem all_snoc (p : Int → Bool) (zs : List Int) (k : Nat) (hk : k < zs.length) : (zs.take (k + 1)).all p = ((zs.take k).all p && p (zs.getD k 0)) := by
  rw [List.take_succ_eq_append_getElem hk, List.all_append]
  simp [List.getD, List.getElem?_eq_getElem hk]

theorem all_false (p : Int → Bool) (zs : List Int) (k : Nat) (hk : k < zs.length) (h : p (zs.getD k 0) = false) : zs.all p = false := by
  rw [List.all_eq_false]
  refine ⟨zs[k], List.getElem_mem hk, ?_⟩
  simpa [List.getD, List.getElem?_eq_getElem hk] using h

theorem getD_mem7 (zs : List Int) (k : Nat) (hk : k < zs.length) : zs.getD k 0 ∈ zs := by
  simp [List.getD, List.getElem?_eq_getElem hk]

set_option maxHeartbeats 1000000 in
theorem within_any (bound : Int) (a : Option Addr) (zs : List Int) (cap : Nat) (w : World) (hb : I64 bound) (hz : ∀ z ∈ zs, I64 z) (hl : zs.length ≤ maxLen) (h : IntsK .i64 a zs w) :
    Calls Tryd.prog 61 #[.int .i64 bound, .slice a zs.length cap] w fun e w' => e = .returned (.bool (zs.all (wiB bound))) ∧ w = w' := by
  unfold maxLen at hl
  have HZ := Lib.hid hz
  have HI := Lib.hid h
  clear hz h
  go_enter Tryd.func61, Tryd.ntmps61
  go_wp2_with fail
  go_loop [6, 9] (fun _ i => ∃ k : Nat, k ≤ zs.length ∧ i = .int .i64 k ∧ Hid ((zs.take k).all (wiB bound) = true)) (fun _ i => zs.length - (intOf i).toNat)
  case atStart => exact ⟨0, Nat.zero_le _, rfl, by unfold Hid; simp⟩
  case round =>
    obtain ⟨k, hk, rfl, hall⟩ := hrel
    by_cases hlt : k < zs.length
    · obtain ⟨b, off, rfl, hbl, hc⟩ := HI.out.pos hlt
      have hcell := hc k hlt
      have hz := HZ.out _ (getD_mem7 zs k hlt)
      have HS := Lib.hid (all_snoc (wiB bound) zs k hlt)
      have HF := Lib.hid (all_false (wiB bound) zs k hlt)
      clear hc
      generalize zs.getD k 0 = z at *
      unfold I64 at hz hb
      obtain ⟨hz1, hz2⟩ := hz
      obtain ⟨hb1, hb2⟩ := hb
      by_cases h1 : bound ≤ z
      · have hf := HF.out (by unfold wiB; simp; omega)
        have HF2 := Lib.hid hf
        clear hf
        go_wp2_with fail
        go_ret
        exact ⟨by rw [HF2.out]; rfl, rfl⟩
      · by_cases h2 : z ≤ -bound
        · have hf := HF.out (by unfold wiB; simp; omega)
          have HF2 := Lib.hid hf
          clear hf
          go_wp2_with fail
          go_ret
          exact ⟨by rw [HF2.out]; rfl, rfl⟩
        · go_wp2_with fail
          go_round
          case rel => exact ⟨k + 1, by omega, by go_num, by unfold Hid; rw [HS.out, hall.out]; unfold wiB; simp; omega⟩
          case measure => simp [intOf]; omega
    · obtain rfl : k = zs.length := by omega
      have hf : zs.all (wiB bound) = true := by have := hall.out; rwa [List.take_length] at this
      have HF2 := Lib.hid hf
      clear hf
      go_wp2_with fail
      go_ret
      exact ⟨by rw [HF2.out]; rfl, rfl⟩
theorem wi_in (n : Int) : wiB 4294967296 n = decide (In32 n) := by
  unfold wiB In32
  exact decide_eq_decide.2 ⟨fun h => ⟨h.2, h.1⟩, fun h => ⟨h.2, h.1⟩⟩
theorem in_list (g : Seg) : [g.tx, g.ty, g.ax, g.ay, g.cx, g.cy, g.rx, g.ry, g.turn].all (wiB 4294967296) = decide (inB g) := by
  simp only [List.all_cons, List.all_nil, wi_in, Bool.and_true]
  rw [Bool.eq_iff_iff]
  simp only [Bool.and_eq_true, decide_eq_true_eq]
  unfold inB
  exact Iff.rfl
/-- The segment's numbers are such as may lie in memory. -/
def SegI (g : Seg) : Prop := I64 g.kind ∧ I64 g.tx ∧ I64 g.ty ∧ I64 g.ax ∧ I64 g.ay ∧ I64 g.cx ∧ I64 g.cy ∧ I64 g.rx ∧ I64 g.ry ∧ I64 g.turn
set_option maxHeartbeats 4000000 in
set_option maxRecDepth 100000 in
theorem inBound_any (g : Seg) (w : World) (hg : SegI g) : Calls Tryd.prog 37 #[g.val] w fun e w' => e = .returned (.bool (decide (inB g))) ∧ Below w.heap.size w w' := by
  obtain ⟨_, h1, h2, h3, h4, h5, h6, h7, h8, h9⟩ := hg
  have HZ : ∀ z ∈ [g.tx, g.ty, g.ax, g.ay, g.cx, g.cy, g.rx, g.ry, g.turn], I64 z := by
    intro z hz
    simp only [List.mem_cons, List.not_mem_nil, or_false] at hz
    rcases hz with rfl | rfl | rfl | rfl | rfl | rfl | rfl | rfl | rfl <;> assumption
  have hl9 : [g.tx, g.ty, g.ax, g.ay, g.cx, g.cy, g.rx, g.ry, g.turn].length = 9 := rfl
  have WI := Lib.hid (show ∀ (w : World) (n : Nat), IntsK .i64 (some ⟨n, 0, none⟩) [g.tx, g.ty, g.ax, g.ay, g.cx, g.cy, g.rx, g.ry, g.turn] w → Calls Tryd.prog 61 #[.int .i64 4294967296, .slice (some ⟨n, 0, none⟩) 9 9] w fun e w' => e = .returned (.bool (decide (inB g))) ∧ w = w' from fun w n h => by
    have := within_any 4294967296 (some ⟨n, 0, none⟩) [g.tx, g.ty, g.ax, g.ay, g.cx, g.cy, g.rx, g.ry, g.turn] 9 w ⟨by omega, by omega⟩ HZ (by rw [hl9]; unfold maxLen; omega) h
    rw [in_list, hl9] at this; exact this)
  generalize hd : decide (inB g) = d at *
  clear h1 h2 h3 h4 h5 h6 h7 h8 h9 HZ hd hl9
  unfold Seg.val
  go_enter Tryd.func37, Tryd.ntmps37
  go_wp2_with fail
  have b1 := (Below.refl w.heap.size w).alloc (Nat.le_refl _) (.cells #[.int .i64 g.kind, .int .i64 g.tx, .int .i64 g.ty, .int .i64 g.ax, .int .i64 g.ay, .int .i64 g.cx, .int .i64 g.cy, .int .i64 g.rx, .int .i64 g.ry, .int .i64 g.turn, .bool g.lg, .bool g.sw] 43)
  have hs1 : (w.alloc (.cells #[.int .i64 g.kind, .int .i64 g.tx, .int .i64 g.ty, .int .i64 g.ax, .int .i64 g.ay, .int .i64 g.cx, .int .i64 g.cy, .int .i64 g.rx, .int .i64 g.ry, .int .i64 g.turn, .bool g.lg, .bool g.sw] 43)).heap.size = w.heap.size + 1 := by simp
  generalize w.alloc (.cells #[.int .i64 g.kind, .int .i64 g.tx, .int .i64 g.ty, .int .i64 g.ax, .int .i64 g.ay, .int .i64 g.cx, .int .i64 g.cy, .int .i64 g.rx, .int .i64 g.ry, .int .i64 g.turn, .bool g.lg, .bool g.sw] 43) = W1 at *
  have b2 := b1.alloc b1.size (.cells #[.int .i64 g.tx, .int .i64 g.ty, .int .i64 g.ax, .int .i64 g.ay, .int .i64 g.cx, .int .i64 g.cy, .int .i64 g.rx, .int .i64 g.ry, .int .i64 g.turn] 2)
  have hn := World.alloc_heap_new W1 (.cells #[.int .i64 g.tx, .int .i64 g.ty, .int .i64 g.ax, .int .i64 g.ay, .int .i64 g.cx, .int .i64 g.cy, .int .i64 g.rx, .int .i64 g.ry, .int .i64 g.turn] 2)
  have HI : IntsK .i64 (some ⟨w.heap.size + 1, 0, none⟩) [g.tx, g.ty, g.ax, g.ay, g.cx, g.cy, g.rx, g.ry, g.turn] (W1.alloc (.cells #[.int .i64 g.tx, .int .i64 g.ty, .int .i64 g.ax, .int .i64 g.ay, .int .i64 g.cx, .int .i64 g.cy, .int .i64 g.rx, .int .i64 g.ry, .int .i64 g.turn] 2)) := by
    rw [hs1] at hn
    refine Or.inr ⟨w.heap.size + 1, 0, rfl, by simp; omega, fun i hi => ?_⟩
    rw [Nat.zero_add]
    unfold World.cell?
    rw [hn]
    have hi' : i < 9 := hi
    match i, hi' with
    | 0, _ => rfl
    | 1, _ => rfl
    | 2, _ => rfl
    | 3, _ => rfl
    | 4, _ => rfl
    | 5, _ => rfl
    | 6, _ => rfl
    | 7, _ => rfl
    | 8, _ => rfl
  refine (WI.out _ _ HI).mono ?_
  rintro e w3 ⟨rfl, rfl⟩
  clear HI hn WI
  go_wp2_with fail
  go_ret
  exact ⟨rfl, b2⟩
end Go.Proofs.YtgiibcnakiggaaaDoor
