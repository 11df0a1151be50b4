/-
  The contracts of math/bits.Mul64, Len64, LeadingZeros64 and Div64, by walking the library's own text in this translation.
-/
import Derived.Test.YtgkjbmejfcijkaaNum
import Derived.Test.YtgkjbmejfcijkaaMath
import Derived.Test.YtgkjbmejfcijkaaLen
import Derived.Test.YtgkjbmejfcijkaaMul64
import Derived.Lib.Hide
import Derived.Lib.Mul64
import Derived.Lib.BitFns
import Derived.Laws.Bits64b
import Derived.Laws.Shifts
import Derived.Lib.Strings
import Derived.Lib.Slices
import Derived.Lib.Small
import Derived.Lib.Walk
import Derived.Deep.CutBlock
import Derived.Deep.DeepCutAuto
import Derived.Deep.LoopGhost
namespace Go.Proofs.Ytgkjbmejfcijkaa
open Go.RowKit Go.Shelf

theorem lz64_any (x : Nat) (hx : x < 18446744073709551616) (w : World) :
    Calls Try.prog 67 #[.int .u64 x] w fun e w' => e = .returned (.int .i64 ((64 - Lib.bitLen x : Nat) : Int)) ∧ w = w' := by
  have c := len64_any (x : Int) w (by omega) (by omega)
  rw [Int.toNat_natCast] at c
  have l := Lib.bitLen_le x 64 (Nat.le_refl _) hx
  have C := Lib.hid c; clear c
  generalize Lib.bitLen x = n at *
  go_enter Try.func67, Try.ntmps67
  go_wp2_with (go_at_call 68; refine C.out.mono ?_; rintro e w' ⟨rfl, rfl⟩)
  go_ret
  exact ⟨congrArg Ending.returned (congrArg (Value.int IntKind.i64) (by omega)), rfl⟩

end Go.Proofs.Ytgkjbmejfcijkaa
