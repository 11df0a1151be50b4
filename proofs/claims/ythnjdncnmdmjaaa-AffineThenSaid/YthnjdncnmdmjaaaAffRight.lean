/-
  Package affine: Right and Same.
-/
import Derived.Test.YthnjdncnmdmjaaaAffMust
namespace Go.Proofs.Ythnjdncnmdmjaaa
open Go.RowKit Go.Shelf

set_option maxHeartbeats 2000000 in
set_option maxRecDepth 100000 in
theorem aright8 (m : Mtx) (w : World) (h : MI64 m) : Calls Try.prog 14 #[m.val] w fun e w' => e = .returned (.bool (decide m.right)) ∧ Below w.heap.size w w' := by
  obtain ⟨h1, h2, h3, h4, h5, h6⟩ := h
  obtain ⟨a, b, c, d, e0, f⟩ := m
  have ed : [a, b, c, d, e0, f].all (wiB 4294967296) = decide (Mtx.right ⟨a, b, c, d, e0, f⟩) := by
    simp only [List.all_cons, List.all_nil, wi_in, Bool.and_true]
    rw [right_dec]
  have hl6 : [a, b, c, d, e0, f].length = 6 := rfl
  have WI := Lib.hid (show ∀ (w : World) (n : Nat), IntsK .i64 (some ⟨n, 0, none⟩) [a, b, c, d, e0, f] w → Calls Try.prog 39 #[.int .i64 4294967296, .slice (some ⟨n, 0, none⟩) 6 6] w fun e w' => e = .returned (.bool (decide (Mtx.right ⟨a, b, c, d, e0, f⟩))) ∧ w = w' from fun w n h => by
    have := within_any 4294967296 (some ⟨n, 0, none⟩) [a, b, c, d, e0, f] 6 w i64_bound (by intro z hz; simp only [List.mem_cons, List.not_mem_nil, or_false] at hz; rcases hz with rfl | rfl | rfl | rfl | rfl | rfl <;> assumption) (by rw [hl6]; unfold maxLen; omega) h
    rw [ed, hl6] at this; exact this)
  generalize decide (Mtx.right ⟨a, b, c, d, e0, f⟩) = D at *
  clear ed hl6 h1 h2 h3 h4 h5 h6
  show Calls _ _ #[.agg #[.int .i64 a, .int .i64 b, .int .i64 c, .int .i64 d, .int .i64 e0, .int .i64 f]] w _
  go_enter Try.func14, Try.ntmps14
  go_wp2_with fail
  have b1 := (Below.refl w.heap.size w).alloc (Nat.le_refl _) (.cells #[.int .i64 a, .int .i64 b, .int .i64 c, .int .i64 d, .int .i64 e0, .int .i64 f] 23)
  have s1 : (w.alloc (.cells #[.int .i64 a, .int .i64 b, .int .i64 c, .int .i64 d, .int .i64 e0, .int .i64 f] 23)).heap.size = w.heap.size + 1 := by simp
  generalize w.alloc (.cells #[.int .i64 a, .int .i64 b, .int .i64 c, .int .i64 d, .int .i64 e0, .int .i64 f] 23) = W1 at *
  have b2 := b1.alloc b1.size (.cells #[.int .i64 a, .int .i64 b, .int .i64 c, .int .i64 d, .int .i64 e0, .int .i64 f] 2)
  have hn := World.alloc_heap_new W1 (.cells #[.int .i64 a, .int .i64 b, .int .i64 c, .int .i64 d, .int .i64 e0, .int .i64 f] 2)
  have HI : IntsK .i64 (some ⟨w.heap.size + 1, 0, none⟩) [a, b, c, d, e0, f] (W1.alloc (.cells #[.int .i64 a, .int .i64 b, .int .i64 c, .int .i64 d, .int .i64 e0, .int .i64 f] 2)) := by
    rw [s1] at hn
    refine Or.inr ⟨w.heap.size + 1, 0, rfl, by simp; omega, fun i hi => ?_⟩
    rw [Nat.zero_add]
    unfold World.cell?
    rw [hn]
    have hi' : i < 6 := hi
    match i, hi' with
    | 0, _ => rfl
    | 1, _ => rfl
    | 2, _ => rfl
    | 3, _ => rfl
    | 4, _ => rfl
    | 5, _ => rfl
  refine (WI.out _ _ HI).mono ?_
  rintro e w3 ⟨rfl, rfl⟩
  clear HI hn WI
  go_wp2_with fail
  go_ret
  exact ⟨rfl, b2⟩
end Go.Proofs.Ythnjdncnmdmjaaa
