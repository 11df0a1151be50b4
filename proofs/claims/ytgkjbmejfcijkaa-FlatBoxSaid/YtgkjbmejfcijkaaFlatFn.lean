/-
  Package flat: what Pieces, Count and Chords answer.
-/
import Derived.Test.YtgkjbmejfcijkaaFlatFeed
import Derived.Test.YtgkjbmejfcijkaaFlatCount
import Derived.Test.YtgkjbmejfcijkaaFlatChords0
namespace Go.Proofs.Ytgkjbmejfcijkaa
open Go.RowKit Go.Shelf
attribute [local go_sem] Oper.semAt_some

set_option maxHeartbeats 4000000 in
set_option maxRecDepth 100000 in
theorem pieces_ok : PiecesOk := by
  intro c w hc
  have HC := Lib.hid (CBox.new w 25 c.arr)
  have HB := Lib.hid ((Below.refl w.heap.size w).alloc (Nat.le_refl _) (.cells c.arr 25))
  have hF : ∀ W, CBox w.heap.size 25 c.arr W → FeedsO Try.prog T12 w.heap.size (w.heap.size + 1) encC (pieces12 20 c) Fence.wide 6 24 #[.pointer (some ⟨w.heap.size, 0, none⟩)] W :=
    fun W h => flat_feed c hc w.heap.size _ _ W h (Nat.le_refl _) (Nat.lt_succ_self _) h.lt
  have HF := Lib.hid (hF _ HC.out)
  clear hF
  generalize (pieces12 20 c) = RES at *
  obtain ⟨px, py, qx, qy, rx, ry, sx, sy⟩ := c
  unfold Crv.val
  unfold Crv.arr at *
  dsimp only at *
  go_enter Try.func17, Try.ntmps17
  go_wp2_with fail
  go_ret
  refine ⟨_, _, w.heap.size, w.heap.size + 1, rfl, enters_of Try.func24 (by kernel_rfl) rfl, HB.out, Nat.le_refl _, HC.out.lt, ⟨fun k h1 h2 => ?_, HF.out⟩⟩
  obtain rfl : k = w.heap.size := Nat.le_antisymm (Nat.lt_succ_iff.1 h2) h1
  exact ⟨_, _, HC.out⟩
theorem count_ok : CountOk := count_any pieces_ok
theorem chords_ok : ChordsOk := chords_any pieces_ok
end Go.Proofs.Ytgkjbmejfcijkaa
