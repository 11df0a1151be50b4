/-
  The contract of wide.MulShift.
-/
import Derived.Test.YtainocdbapnaaaaOpsDot
namespace Go.Proofs.Ytainocdbapnaaaa
open Go.RowKit Go.Shelf

theorem mulshift_any (a b : Int) (s : Nat) (w : World) (ha : I64 a) (hb : I64 b) (hs : s ≤ 62) :
    Calls Try.prog 36 #[.int .i64 a, .int .i64 b, .int .i64 s] w fun e w' => e = .returned (Pair (dot a b 0 0 s)) ∧ Below w.heap.size w w' := by
  have D := Lib.hid (dot_any a b 0 0 s w ha hb (by unfold I64; omega) (by unfold I64; omega) hs)
  unfold Pair at D ⊢
  generalize dot a b 0 0 s = x at *
  go_enter Try.func36, Try.ntmps36
  go_wp2_with fail
  refine D.out.mono ?_
  rintro e w1 ⟨rfl, b1⟩
  go_wp2_with fail
  go_ret2
  exact ⟨rfl, b1⟩

theorem mulshift_bad (a b s : Int) (w : World) (hs : s < 0 ∨ 62 < s) :
    Calls Try.prog 36 #[.int .i64 a, .int .i64 b, .int .i64 s] w fun e w' => e = .returned (.tuple #[.int .i64 0, .bool false]) ∧ w = w' := by
  have D := Lib.hid (dot_bad a b 0 0 s w hs)
  clear hs
  go_enter Try.func36, Try.ntmps36
  go_wp2_with fail
  refine D.out.mono ?_
  rintro e w1 ⟨rfl, rfl⟩
  go_wp2_with fail
  go_ret2
  exact ⟨rfl, rfl⟩
end Go.Proofs.Ytainocdbapnaaaa
