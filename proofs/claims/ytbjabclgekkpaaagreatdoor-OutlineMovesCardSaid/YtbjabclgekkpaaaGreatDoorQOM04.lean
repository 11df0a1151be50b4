/- Joined: Len. -/
import Derived.Test.YtbjabclgekkpaaaGreatDoorProg
import Derived.Lib.BitFns
import Derived.Lib.Slices
import Derived.Lib.Small
import Derived.Lib.Strings
import Derived.Lib.Walk
namespace Go.Proofs.YtbjabclgekkpaaaGreatDoor
/-- One way through Len64: the byte that is looked up, and by how much it was shifted. -/
theorem len_way (x b : Int) (k : Nat) (hb : b = ((x.toNat / 2 ^ k : Nat) : Int)) (h : 2 ^ k ≤ x.toNat) (h2 : b ≤ 255) (hx : x.toNat < 2 ^ 64) : (k : Int) + Lib.len8 b = (Lib.bitLen x.toNat : Int) := by
  subst hb
  rw [Lib.len8_of _ (Int.natCast_nonneg _) h2, Lib.bitLen_shift k x.toNat h hx]
  rw [Int.toNat_natCast]; omega
theorem len_close (x b c : Int) (k : Nat) (hc : c = (k : Int)) (hk : k ≤ 64) (hb : b = ((x.toNat / 2 ^ k : Nat) : Int)) (h : 2 ^ k ≤ x.toNat) (h2 : b ≤ 255) (hx : x.toNat < 2 ^ 64) :
    (c + ((Lib.len8 b + 9223372036854775808) % 18446744073709551616 - 9223372036854775808) + 9223372036854775808) % 18446744073709551616 - 9223372036854775808 = (Lib.bitLen x.toNat : Int) := by
  have e := len_way x b k hb h h2 hx
  have b0 : 0 ≤ b := by rw [hb]; exact Int.natCast_nonneg _
  have l := Lib.bitLen_le8' b b0 h2
  have := Lib.len8_of b b0 h2
  omega
theorem len_close0 (x : Int) (h0 : 0 ≤ x) (h2 : x < 256) :
    (Lib.len8 (x % 256) + 9223372036854775808) % 18446744073709551616 - 9223372036854775808 = (Lib.bitLen x.toNat : Int) := by
  rw [show x % 256 = x from by omega]
  have l := Lib.bitLen_le8' x h0 (by omega)
  have := Lib.len8_of x h0 (by omega)
  omega
set_option maxHeartbeats 4000000 in
set_option maxRecDepth 100000 in
theorem len64_any (x : Int) (w : World) (h0 : 0 ≤ x) (h1 : x ≤ 18446744073709551615) :
    Calls Tryz.prog 251 #[.int .u64 x] w fun e w' => e = .returned (.int .i64 (Lib.bitLen x.toNat)) ∧ w = w' := by
  go_enter Tryz.func251, Tryz.ntmps251
  go_wp2
  all_goals (go_ret; refine ⟨congrArg Ending.returned (congrArg (Value.int IntKind.i64) ?_), rfl⟩)
  · exact len_close x _ 56 56 rfl (by omega) (by omega) (by omega) (by omega) (by omega)
  · exact len_close x _ 48 48 rfl (by omega) (by omega) (by omega) (by omega) (by omega)
  · exact len_close x _ 40 40 rfl (by omega) (by omega) (by omega) (by omega) (by omega)
  · exact len_close x _ 32 32 rfl (by omega) (by omega) (by omega) (by omega) (by omega)
  · exact len_close x _ 24 24 rfl (by omega) (by omega) (by omega) (by omega) (by omega)
  · exact len_close x _ 16 16 rfl (by omega) (by omega) (by omega) (by omega) (by omega)
  · exact len_close x _ 8 8 rfl (by omega) (by omega) (by omega) (by omega) (by omega)
  · exact len_close0 x h0 (by omega)
end Go.Proofs.YtbjabclgekkpaaaGreatDoor
