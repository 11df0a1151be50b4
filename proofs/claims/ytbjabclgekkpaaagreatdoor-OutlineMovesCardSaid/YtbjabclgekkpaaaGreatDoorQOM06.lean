/- Joined: Bits, Div, Wide, Divide, Pair, Calls, OpsDot, AffTake. -/
import Derived.Test.YtbjabclgekkpaaaGreatDoorQOM01
import Derived.Test.YtbjabclgekkpaaaGreatDoorQOM02
import Derived.Test.YtbjabclgekkpaaaGreatDoorQOM03
import Derived.Test.YtbjabclgekkpaaaGreatDoorQOM04
import Derived.Test.YtbjabclgekkpaaaGreatDoorQOM05
import Derived.Deep.CutBlock
import Derived.Deep.DeepCutAuto
import Derived.Deep.LoopGhost
import Derived.Deep.QuietTactic
import Derived.Laws.Bits64b
import Derived.Laws.Shifts
import Derived.Lib.BitFns
import Derived.Lib.Hide
import Derived.Lib.Mul64
import Derived.Lib.Slices
import Derived.Lib.Small
import Derived.Lib.Strings
import Derived.Lib.Walk
namespace Go.Proofs.YtbjabclgekkpaaaGreatDoor
open Go.RowKit Go.Shelf
theorem lz64_any (x : Nat) (hx : x < 18446744073709551616) (w : World) :
    Calls Tryz.prog 234 #[.int .u64 x] w fun e w' => e = .returned (.int .i64 ((64 - Lib.bitLen x : Nat) : Int)) ∧ w = w' := by
  have c := len64_any (x : Int) w (by omega) (by omega)
  rw [Int.toNat_natCast] at c
  have l := Lib.bitLen_le x 64 (Nat.le_refl _) hx
  have C := Lib.hid c; clear c
  generalize Lib.bitLen x = n at *
  go_enter Tryz.func234, Tryz.ntmps234
  go_wp2_with (go_at_call 251; refine C.out.mono ?_; rintro e w' ⟨rfl, rfl⟩)
  go_ret
  exact ⟨congrArg Ending.returned (congrArg (Value.int IntKind.i64) (by omega)), rfl⟩
end Go.Proofs.YtbjabclgekkpaaaGreatDoor
namespace Go.Proofs.YtbjabclgekkpaaaGreatDoor
open Go.RowKit Go.Shelf
theorem slot_y (y s : Nat) (h : y * 2 ^ s < 18446744073709551616) : IntKind.u64.wrap ((y : Int) * 2 ^ s) = ((y * 2 ^ s : Nat) : Int) := by
  have e : (y : Int) * 2 ^ s = ((y * 2 ^ s : Nat) : Int) := by simp
  rw [e, Mul64.wrapN _ h]
theorem slot_lo (lo s : Nat) : IntKind.u64.wrap ((lo : Int) * 2 ^ s) = ((lo * 2 ^ s % 18446744073709551616 : Nat) : Int) := by
  have e : (lo : Int) * 2 ^ s = ((lo * 2 ^ s : Nat) : Int) := by simp
  rw [e, Mul64.wrapM]
theorem slot_or (hi lo s U : Nat) (hU : U < 18446744073709551616) (h1 : hi * 2 ^ s + lo / 2 ^ (64 - s) < U) (h2 : lo / 2 ^ (64 - s) < 2 ^ s) :
    bits BinOp.or IntKind.u64 (IntKind.u64.wrap ((hi : Int) * 2 ^ s)) ((lo : Int) / 2 ^ (64 - s)) = ((hi * 2 ^ s + lo / 2 ^ (64 - s) : Nat) : Int) := by
  have e : (lo : Int) / 2 ^ (64 - s) = ((lo / 2 ^ (64 - s) : Nat) : Int) := by simp
  have b1 : hi * 2 ^ s < 18446744073709551616 := Nat.lt_trans (Nat.lt_of_le_of_lt (Nat.le_add_right _ _) h1) hU
  have b2 : lo / 2 ^ (64 - s) < 18446744073709551616 := Nat.lt_trans (Nat.lt_of_le_of_lt (Nat.le_add_left _ _) h1) hU
  rw [slot_y hi s b1, e, bits_or_u64_nat _ _ b1 b2, or_add _ _ _ h2]
theorem slot_q (u v : Nat) (hu : u < 18446744073709551616) : IntKind.u64.wrap ((u : Int) / (v : Int)) = ((u / v : Nat) : Int) := by
  have e : (u : Int) / (v : Int) = ((u / v : Nat) : Int) := by simp
  rw [e, Mul64.wrapN _ (Nat.lt_of_le_of_lt (Nat.div_le_self _ _) hu)]
theorem slot_r (u v : Nat) (hu : u < 18446744073709551616) : IntKind.u64.wrap ((u : Int) - IntKind.u64.wrap (((u / v : Nat) : Int) * (v : Int))) = ((u % v : Nat) : Int) := by
  have e : ((u / v : Nat) : Int) * (v : Int) = ((v * (u / v) : Nat) : Int) := by simp [Int.mul_comm]
  have d := Nat.div_add_mod u v
  rw [e]
  generalize v * (u / v) = k at *
  generalize u % v = m at *
  rw [IntKind.wrap_u64, IntKind.wrap_u64]
  omega
theorem slot_u (u v q Y R : Nat) (h : u * 4294967296 + v = q * Y + R) (hR : R < 18446744073709551616) :
    IntKind.u64.wrap (IntKind.u64.wrap (IntKind.u64.wrap ((u : Int) * 4294967296) + v) - IntKind.u64.wrap ((q : Int) * Y)) = (R : Int) := by
  rw [Mul64.mulN q Y]
  generalize q * Y = k at *
  rw [IntKind.wrap_u64, IntKind.wrap_u64, IntKind.wrap_u64, IntKind.wrap_u64]
  omega
theorem slot_shr (r s : Nat) : (r : Int) / 2 ^ s = ((r / 2 ^ s : Nat) : Int) := by simp
/-- What one digit's loop keeps. -/
def Digit (y1 u32 Q : Nat) (a b : Value) : Prop := ∃ q r : Nat, a = .int .u64 (q : Int) ∧ b = .int .u64 (r : Int) ∧ q * y1 + r = u32 ∧ Q ≤ q ∧ r < 4294967296 ∧ q ≤ 4294967297
theorem dec_mul (q y1 r u32 : Nat) (h : 0 < q) (e : q * y1 + r = u32) : (q - 1) * y1 + (r + y1) = u32 := by
  obtain ⟨p, rfl⟩ : ∃ p, q = p + 1 := ⟨q - 1, by omega⟩
  rw [Nat.add_sub_cancel]
  rw [Nat.add_mul] at e
  omega
/-- The digit was too great, and goes down by one; the rest stays below 2^32. -/
theorem digit_next (y1 y0 u32 v1 Y Q q r : Nat) (hQ : (u32 * 4294967296 + v1) / Y = Q) (hY : Y = y1 * 4294967296 + y0) (b4 : v1 < 4294967296) (hu : u32 < Y) (e : q * y1 + r = u32)
    (hq2 : q ≤ 4294967297) (t : 4294967296 ≤ q ∨ 4294967296 * r + v1 < q * y0) (hb : r + y1 < 4294967296) :
    Digit y1 u32 Q (.int .u64 ((q : Int) - 1)) (.int .u64 ((r : Int) + y1)) := by
  subst hY
  have d := knuth_down y1 y0 u32 v1 q r b4 hu e t
  rw [hQ] at d
  refine ⟨q - 1, r + y1, ?_, ?_, dec_mul q y1 r u32 (by omega) e, by omega, hb, by omega⟩
  · rw [show (q : Int) - 1 = ((q - 1 : Nat) : Int) from by omega]
  · rw [show (r : Int) + y1 = ((r + y1 : Nat) : Int) from by omega]
/-- The digit goes down by one for the last time. -/
theorem digit_end (y1 y0 u32 v1 Y Q q r : Nat) (hQ : (u32 * 4294967296 + v1) / Y = Q) (hY : Y = y1 * 4294967296 + y0) (hy1 : 0 < y1) (b3 : y0 < 4294967296) (b4 : v1 < 4294967296) (hu : u32 < Y) (e : q * y1 + r = u32)
    (t : 4294967296 ≤ q ∨ 4294967296 * r + v1 < q * y0) (hb : 4294967296 ≤ r + y1) : (q : Int) - 1 = (Q : Int) := by
  subst hY
  have d := knuth_down y1 y0 u32 v1 q r b4 hu e t
  have k := knuth_break y1 y0 u32 v1 (q - 1) (r + y1) hy1 b3 hu (dec_mul q y1 r u32 (Nat.lt_of_le_of_lt (Nat.zero_le _) d) e) hb
  rw [hQ] at d k
  omega
/-- The digit is the right one. -/
theorem digit_stop (y1 y0 u32 v1 Y Q q r : Nat) (hQ : (u32 * 4294967296 + v1) / Y = Q) (hY : Y = y1 * 4294967296 + y0) (hy1 : 0 < y1) (e : q * y1 + r = u32) (hq : Q ≤ q)
    (t : q * y0 ≤ 4294967296 * r + v1) : (q : Int) = (Q : Int) := by
  subst hY
  have k := knuth_stop y1 y0 u32 v1 q r hy1 e t
  rw [hQ] at k
  omega
theorem digit_test (q y0 r v1 : Nat) : 4294967296 * (r : Int) + v1 < (q : Int) * y0 ↔ 4294967296 * r + v1 < q * y0 := by
  rw [Mul64.mulN]
  generalize q * y0 = k
  omega
theorem digit_pos (q y0 r v1 : Nat) (h : 4294967296 * r + v1 < q * y0) : 1 ≤ q := by
  rcases Nat.eq_zero_or_pos q with e | e
  · subst e; simp at h
  · exact e
theorem u64_prod (q y0 : Nat) (h1 : q < 4294967296) (h2 : y0 < 4294967296) : IntKind.u64.wrap ((q : Int) * y0) = (q : Int) * y0 := by
  have hm : q * y0 ≤ 4294967295 * 4294967295 := Nat.mul_le_mul (by omega) (by omega)
  rw [Mul64.mulN, Mul64.wrapN _ (by omega)]
set_option maxRecDepth 100000 in
set_option maxHeartbeats 2000000 in
theorem div64_gen (hi lo y qq rr : Nat) (hqq : (hi * 18446744073709551616 + lo) / y = qq) (hrr : (hi * 18446744073709551616 + lo) % y = rr) (hy : hi < y) (hlo : lo < 18446744073709551616) (hy2 : y < 18446744073709551616) (h0 : 0 < hi) (w : World) :
    Calls Tryz.prog 210 #[.int .u64 hi, .int .u64 lo, .int .u64 y] w fun e w' => e = .returned (.tuple #[.int .u64 (qq : Int), .int .u64 (rr : Int)]) ∧ w = w' := by
  have HQR := Lib.hid (And.intro hqq hrr)
  clear hqq hrr
  have c := lz64_any y hy2 w
  obtain ⟨s1, s2, s3⟩ := norm_y y (by omega) hy2
  generalize 64 - Lib.bitLen y = s at *
  have C := Lib.hid c; clear c
  have t1 : ((y : Int) == 0) = false := by rw [beq_eq_false_iff_ne]; omega
  have t2 : ((hi : Int) == 0) = false := by rw [beq_eq_false_iff_ne]; omega
  have t3 : decide (y ≤ hi) = false := by simp; omega
  go_enter Tryz.func210, Tryz.ntmps210
  go_upto_region 15 with (go_at_call 234; refine C.out.mono ?_; rintro e w' ⟨rfl, rfl⟩)
  obtain ⟨u1, u2⟩ := norm_u hi lo y s hy hlo s1
  have this := div_digits hi lo y s s1 _ _ _ rfl rfl rfl
  rw [HQR.out.1, HQR.out.2] at this
  have HF := Lib.hid this
  clear this HQR
  simp only [slot_or hi lo s _ s3 u1 u2, slot_y y s s3, slot_lo lo s, Mul64.divN, Mul64.maskN _ s3, Mul64.maskN _ (Nat.mod_lt (lo * 2 ^ s) (show 18446744073709551616 > 0 by decide))]
  have g10 : lo * 2 ^ s % 18446744073709551616 < 18446744073709551616 := Nat.mod_lt _ (by decide)
  clear C t1 t2 t3 hy hlo hy2 h0 u2
  generalize hi * 2 ^ s + lo / 2 ^ (64 - s) = u32 at *
  generalize lo * 2 ^ s % 18446744073709551616 = u10 at *
  generalize y * 2 ^ s = Y at *
  have HY := Lib.hid (show Y = Y / 4294967296 * 4294967296 + Y % 4294967296 by omega)
  have b1 : 2147483648 ≤ Y / 4294967296 := by omega
  have b2 : Y / 4294967296 < 4294967296 := by omega
  have b3 : Y % 4294967296 < 4294967296 := by omega
  have b4 : u10 / 4294967296 < 4294967296 := by omega
  have b5 : u10 % 4294967296 < 4294967296 := by omega
  generalize Y / 4294967296 = y1 at *
  generalize Y % 4294967296 = y0 at *
  generalize u10 / 4294967296 = v1 at *
  generalize u10 % 4294967296 = v0 at *
  have u3 : u32 < 18446744073709551616 := by omega
  have z1 : ¬ y1 = 0 := by omega
  obtain ⟨Q, R1, hQ, hN, hR⟩ := div_names (u32 * 4294967296 + v1) Y (by omega)
  have HQ := Lib.hid hQ
  have HN := Lib.hid hN
  clear hQ hN
  go_upto_block 0 with fail
  simp only [slot_q u32 y1 u3, slot_r u32 y1 u3]
  go_cut [15, 16] (fun s15 s16 wc => s15 = .int .u64 (Q : Int) ∧ w = wc)
  case first =>
    go_wp2_with fail
    go_loop [15, 16] (fun a b => Digit y1 u32 Q a b) (fun a _ => (intOf a).toNat)
    case atStart =>
      refine ⟨_, _, rfl, rfl, ?_, ?_, ?_, ?_⟩
      · rw [Nat.mul_comm]; exact Nat.div_add_mod u32 y1
      · rw [← HQ.out, HY.out]; exact knuth_init y1 y0 u32 v1 (by omega) b4
      · exact Nat.lt_trans (Nat.mod_lt _ (by omega)) b2
      · exact knuth_guess y1 y0 u32 b1 b3 (by have := HY.out; omega)
    case round =>
      obtain ⟨q, r, rfl, rfl, e, hq, hr, hq2⟩ := hrel
      have E := Lib.hid e; clear e
      have i1 : (r : Int) ≤ 4294967295 := by omega
      have i2 : (y1 : Int) ≤ 4294967295 := by omega
      have i3 : (y0 : Int) ≤ 4294967295 := by omega
      have i4 : (v1 : Int) ≤ 4294967295 := by omega
      have i5 : (q : Int) ≤ 4294967297 := by omega
      have HA := Lib.hid (And.intro s2 (And.intro s3 (And.intro u1 (And.intro g10 (And.intro b1 (And.intro b2 (And.intro b3 (And.intro b4 (And.intro b5 (And.intro u3 (And.intro hr (And.intro hq hq2))))))))))))
      clear s1 s2 s3 u1 hR g10 b1 b2 b3 b4 b5 u3 hr hq hq2
      by_cases hB : (q : Int) < 4294967296
      · have hp : IntKind.u64.wrap ((q : Int) * y0) = (q : Int) * y0 := u64_prod q y0 (by omega) (by omega)
        have hB' : ¬ 4294967296 ≤ (q : Int) := by omega
        by_cases ht : 4294967296 * (r : Int) + v1 < (q : Int) * y0
        · have HT := Lib.hid ((digit_test q y0 r v1).1 ht)
          have q1 : 1 ≤ (q : Int) := by have := digit_pos q y0 r v1 HT.out; omega
          by_cases hb : 4294967296 ≤ (r : Int) + y1
          · go_wp2
            go_meet
            have ⟨a1, a2, a3, a4, a5, a6, a7, a8, a9, a10, a11, a12, a13⟩ := HA.out
            rw [digit_end y1 y0 u32 v1 Y Q q r HQ.out HY.out (by omega) a7 a8 a3 E.out (Or.inr HT.out) (by omega)]
            exact ⟨rfl, rfl⟩
          · go_wp2
            go_round
            case rel =>
              have ⟨a1, a2, a3, a4, a5, a6, a7, a8, a9, a10, a11, a12, a13⟩ := HA.out
              exact digit_next y1 y0 u32 v1 Y Q q r HQ.out HY.out a8 a3 E.out a13 (Or.inr HT.out) (by omega)
            case measure => simp [intOf]; omega
        · have HN := Lib.hid (Nat.le_of_not_lt fun h => ht ((digit_test q y0 r v1).2 h))
          go_wp2
          go_meet
          have ⟨a1, a2, a3, a4, a5, a6, a7, a8, a9, a10, a11, a12, a13⟩ := HA.out
          rw [digit_stop y1 y0 u32 v1 Y Q q r HQ.out HY.out (by omega) E.out a12 HN.out]
          exact ⟨rfl, rfl⟩
      · have hB' : 4294967296 ≤ (q : Int) := by omega
        clear hB
        by_cases hb : 4294967296 ≤ (r : Int) + y1
        · go_wp2
          go_meet
          have ⟨a1, a2, a3, a4, a5, a6, a7, a8, a9, a10, a11, a12, a13⟩ := HA.out
          rw [digit_end y1 y0 u32 v1 Y Q q r HQ.out HY.out (by omega) a7 a8 a3 E.out (Or.inl (by omega)) (by omega)]
          exact ⟨rfl, rfl⟩
        · go_wp2
          go_round
          case rel =>
            have ⟨a1, a2, a3, a4, a5, a6, a7, a8, a9, a10, a11, a12, a13⟩ := HA.out
            exact digit_next y1 y0 u32 v1 Y Q q r HQ.out HY.out a8 a3 E.out a13 (Or.inl (by omega)) (by omega)
          case measure => simp [intOf]; omega
  case rest =>
    obtain ⟨rfl, rfl⟩ := hcut
    have q1 : Q < 4294967296 := by rw [← HQ.out]; exact knuth_lt Y u32 v1 b4 u1
    have HQB := Lib.hid q1; clear q1
    go_upto_region 22 with fail
    simp only [slot_u u32 v1 Q Y R1 HN.out (by omega)]
    have r3 : R1 < 18446744073709551616 := by omega
    go_upto_block 2 with fail
    simp only [slot_q R1 y1 r3, slot_r R1 y1 r3]
    obtain ⟨Q2, R0, hQ2, hN2, hR2⟩ := div_names (R1 * 4294967296 + v0) Y (by omega)
    have HQ2 := Lib.hid hQ2
    have HN2 := Lib.hid hN2
    clear hQ2 hN2
    go_cut [18, 16] (fun s18 s16 wc => s18 = .int .u64 (Q2 : Int) ∧ w = wc)
    case first =>
      go_wp2_with fail
      go_loop [18, 16] (fun a b => Digit y1 R1 Q2 a b) (fun a _ => (intOf a).toNat)
      case atStart =>
        refine ⟨_, _, rfl, rfl, ?_, ?_, ?_, ?_⟩
        · rw [Nat.mul_comm]; exact Nat.div_add_mod R1 y1
        · rw [← HQ2.out, HY.out]; exact knuth_init y1 y0 R1 v0 (by omega) b5
        · exact Nat.lt_trans (Nat.mod_lt _ (by omega)) b2
        · exact knuth_guess y1 y0 R1 b1 b3 (by have := HY.out; omega)
      case round =>
        obtain ⟨q, r, rfl, rfl, e, hq, hr, hq2⟩ := hrel
        have E := Lib.hid e; clear e
        have i1 : (r : Int) ≤ 4294967295 := by omega
        have i2 : (y1 : Int) ≤ 4294967295 := by omega
        have i3 : (y0 : Int) ≤ 4294967295 := by omega
        have i4 : (v0 : Int) ≤ 4294967295 := by omega
        have i5 : (q : Int) ≤ 4294967297 := by omega
        have HA := Lib.hid (And.intro s2 (And.intro s3 (And.intro hR (And.intro g10 (And.intro b1 (And.intro b2 (And.intro b3 (And.intro b5 (And.intro b4 (And.intro r3 (And.intro hr (And.intro hq hq2))))))))))))
        clear s1 s2 s3 u1 hR hR2 g10 b1 b2 b3 b4 b5 u3 r3 hr hq hq2
        by_cases hB : (q : Int) < 4294967296
        · have hp : IntKind.u64.wrap ((q : Int) * y0) = (q : Int) * y0 := u64_prod q y0 (by omega) (by omega)
          have hB' : ¬ 4294967296 ≤ (q : Int) := by omega
          by_cases ht : 4294967296 * (r : Int) + v0 < (q : Int) * y0
          · have HT := Lib.hid ((digit_test q y0 r v0).1 ht)
            have q1 : 1 ≤ (q : Int) := by have := digit_pos q y0 r v0 HT.out; omega
            by_cases hb : 4294967296 ≤ (r : Int) + y1
            · go_wp2
              go_meet
              have ⟨a1, a2, a3, a4, a5, a6, a7, a8, a9, a10, a11, a12, a13⟩ := HA.out
              rw [digit_end y1 y0 R1 v0 Y Q2 q r HQ2.out HY.out (by omega) a7 a8 a3 E.out (Or.inr HT.out) (by omega)]
              exact ⟨rfl, rfl⟩
            · go_wp2
              go_round
              case rel =>
                have ⟨a1, a2, a3, a4, a5, a6, a7, a8, a9, a10, a11, a12, a13⟩ := HA.out
                exact digit_next y1 y0 R1 v0 Y Q2 q r HQ2.out HY.out a8 a3 E.out a13 (Or.inr HT.out) (by omega)
              case measure => simp [intOf]; omega
          · have HN := Lib.hid (Nat.le_of_not_lt fun h => ht ((digit_test q y0 r v0).2 h))
            go_wp2
            go_meet
            have ⟨a1, a2, a3, a4, a5, a6, a7, a8, a9, a10, a11, a12, a13⟩ := HA.out
            rw [digit_stop y1 y0 R1 v0 Y Q2 q r HQ2.out HY.out (by omega) E.out a12 HN.out]
            exact ⟨rfl, rfl⟩
        · have hB' : 4294967296 ≤ (q : Int) := by omega
          clear hB
          by_cases hb : 4294967296 ≤ (r : Int) + y1
          · go_wp2
            go_meet
            have ⟨a1, a2, a3, a4, a5, a6, a7, a8, a9, a10, a11, a12, a13⟩ := HA.out
            rw [digit_end y1 y0 R1 v0 Y Q2 q r HQ2.out HY.out (by omega) a7 a8 a3 E.out (Or.inl (by omega)) (by omega)]
            exact ⟨rfl, rfl⟩
          · go_wp2
            go_round
            case rel =>
              have ⟨a1, a2, a3, a4, a5, a6, a7, a8, a9, a10, a11, a12, a13⟩ := HA.out
              exact digit_next y1 y0 R1 v0 Y Q2 q r HQ2.out HY.out a8 a3 E.out a13 (Or.inl (by omega)) (by omega)
            case measure => simp [intOf]; omega
    case rest =>
      obtain ⟨rfl, rfl⟩ := hcut
      have q2 : Q2 < 4294967296 := by rw [← HQ2.out]; exact knuth_lt Y R1 v0 b5 hR
      have q1 := HQB.out
      go_wp2
      simp only [slot_u R1 v0 Q2 Y R0 HN2.out (by omega), slot_shr]
      have F := HF.out Q R1 Q2 R0 HN.out hR HN2.out hR2
      rw [show (Q : Int) * 4294967296 + (Q2 : Int) = (qq : Int) from by have := F.1; omega, F.2]
      go_ret2
      exact ⟨rfl, rfl⟩
theorem div64_zero (lo y : Nat) (hy : 0 < y) (hlo : lo < 18446744073709551616) (w : World) :
    Calls Tryz.prog 210 #[.int .u64 0, .int .u64 lo, .int .u64 y] w fun e w' => e = .returned (.tuple #[.int .u64 ((lo / y : Nat) : Int), .int .u64 ((lo % y : Nat) : Int)]) ∧ ∃ n, w' = w.drewN n := by
  have t1 : ((y : Int) == 0) = false := by rw [beq_eq_false_iff_ne]; omega
  have t3 : ¬ (y : Int) ≤ 0 := by omega
  have t4 : ¬ y = 0 := by omega
  have e1 := slot_q lo y hlo
  go_enter Tryz.func210, Tryz.ntmps210
  go_wp2
  go_quiet (fail)
  go_wp2
  rw [show (lo : Int) / (y : Int) = ((lo / y : Nat) : Int) from by simp, show (lo : Int) % (y : Int) = ((lo % y : Nat) : Int) from by simp]
  go_ret2
  exact ⟨rfl, _, rfl⟩
/-- Div64, for every divisor above the high word. -/
theorem div64_any (hi lo y : Nat) (hy : hi < y) (hlo : lo < 18446744073709551616) (hy2 : y < 18446744073709551616) (w : World) :
    Calls Tryz.prog 210 #[.int .u64 hi, .int .u64 lo, .int .u64 y] w fun e w' => e = .returned (.tuple #[.int .u64 (((hi * 18446744073709551616 + lo) / y : Nat) : Int), .int .u64 (((hi * 18446744073709551616 + lo) % y : Nat) : Int)]) ∧ ∃ n, w' = w.drewN n := by
  by_cases h : 0 < hi
  · exact (div64_gen hi lo y _ _ rfl rfl hy hlo hy2 h w).mono fun e w' ⟨he, hw⟩ => ⟨he, 0, hw.symm⟩
  · obtain rfl : hi = 0 := by omega
    have k := div64_zero lo y hy hlo w
    simp only [Nat.zero_mul, Nat.zero_add]
    exact k
end Go.Proofs.YtbjabclgekkpaaaGreatDoor
namespace Go.Proofs.YtbjabclgekkpaaaGreatDoor
open Go.RowKit Go.Shelf
/-- The high and the low word of a whole number, in two's complement. -/
def hw (v : Int) : Int := v / 18446744073709551616 % 18446744073709551616
def lw (v : Int) : Int := v % 18446744073709551616
theorem hw_word (v : Int) : Word (hw v) := by unfold Word hw; omega
theorem lw_word (v : Int) : Word (lw v) := by unfold Word lw; omega
theorem hw_add (v u : Int) : (hw v + hw u + (lw v + lw u) / 18446744073709551616) % 18446744073709551616 = hw (v + u) := by unfold hw lw; omega
theorem lw_add (v u : Int) : (lw v + lw u) % 18446744073709551616 = lw (v + u) := by unfold lw; omega
theorem hw_inv (v : Int) : 18446744073709551615 - hw v = hw (-1 - v) := by unfold hw; omega
theorem lw_inv (v : Int) : 18446744073709551615 - lw v = lw (-1 - v) := by unfold lw; omega
theorem hw_one : hw 1 = 0 := by decide
theorem lw_one : lw 1 = 1 := by decide
/-- The number that lies in block b. -/
def Num (b : Nat) (v : Int) (w : World) : Prop := Two b (hw v) (lw v) w
def AggN (v : Int) : Value := .agg #[.int .u64 (hw v), .int .u64 (lw v)]
theorem add_num (b : Nat) (v u : Int) (w : World) (H : Num b v w) :
    Calls Tryz.prog 209 #[.pointer (some ⟨b, 0, none⟩), AggN u] w fun e w' => e = .returned (.tuple #[]) ∧ Turn b w w' ∧ Num b (v + u) w' := by
  have k := add_any b (hw v) (lw v) (hw u) (lw u) w (hw_word v) (lw_word v) (hw_word u) (lw_word u) H
  rw [hw_add, lw_add] at k
  exact k
theorem invert_num (b : Nat) (v : Int) (w : World) (H : Num b v w) :
    Calls Tryz.prog 208 #[.pointer (some ⟨b, 0, none⟩)] w fun e w' => e = .returned (.tuple #[]) ∧ Turn b w w' ∧ Num b (-1 - v) w' := by
  have k := invert_any b (hw v) (lw v) w (hw_word v) (lw_word v) H
  rw [hw_inv, lw_inv] at k
  exact k
theorem negate_num (b : Nat) (v : Int) (w : World) (H : Num b v w) :
    Calls Tryz.prog 178 #[.pointer (some ⟨b, 0, none⟩)] w fun e w' => e = .returned (.tuple #[]) ∧ Turn b w w' ∧ Num b (-v) w' := by
  have C := Lib.hid (invert_num b v w H)
  have D := Lib.hid (fun w => add_num b (-1 - v) 1 w)
  unfold AggN at D
  rw [hw_one, lw_one, show -1 - v + 1 = -v from by omega] at D
  go_enter Tryz.func178, Tryz.ntmps178
  go_wp2_with fail
  refine C.out.mono ?_
  rintro e w1 ⟨rfl, t1, n1⟩
  have N1 := Lib.hid n1; clear n1
  go_wp2_with fail
  refine (D.out _ N1.out).mono ?_
  rintro e w2 ⟨rfl, t2, n2⟩
  go_wp2_with fail
  go_end0
  exact ⟨rfl, t1.trans t2, n2⟩
theorem hw_nat (n : Nat) (h : n < 18446744073709551616 * 18446744073709551616) : ((n / 18446744073709551616 : Nat) : Int) = hw (n : Int) := by unfold hw; omega
theorem lw_nat (n : Nat) : ((n % 18446744073709551616 : Nat) : Int) = lw (n : Int) := by unfold lw; omega
theorem mul_words (na nb : Nat) (h1 : na ≤ 9223372036854775808) (h2 : nb ≤ 9223372036854775808) (w : World) :
    Calls Tryz.prog 207 #[.int .u64 na, .int .u64 nb] w fun e w' => e = .returned (.tuple #[.int .u64 (hw ((na * nb : Nat) : Int)), .int .u64 (lw ((na * nb : Nat) : Int))]) ∧ w = w' := by
  have k := mul64_any na nb (by omega) (by omega) w
  have hm : na * nb ≤ 9223372036854775808 * 9223372036854775808 := Nat.mul_le_mul h1 h2
  rw [hw_nat _ (by omega), lw_nat] at k
  exact k
/-- The cells of a fresh number. -/
theorem Two.mk1 (w : World) (h l : Int) : Two w.heap.size h l (w.alloc (.cells #[.int .u64 h, .int .u64 l] 234)) := by
  show (w.heap.push _)[w.heap.size]? = _
  rw [Array.getElem?_push, if_pos rfl]
theorem Two.mk0 (w : World) (o : Obj) (h l : Int) : Two w.heap.size h l ((w.alloc (.cells #[.int .u64 h, .int .u64 l] 234)).alloc o) := (Two.mk1 w h l).alloc o
theorem Two.mk2 (w : World) (o : Obj) (h l : Int) : Two (w.heap.size + 1) h l ((w.alloc o).alloc (.cells #[.int .u64 h, .int .u64 l] 234)) := by
  have := Two.mk1 (w.alloc o) h l
  rwa [show (w.alloc o).heap.size = w.heap.size + 1 from by simp] at this
theorem product_same (a b : Int) (na nb : Nat) (w : World) (ha0 : -9223372036854775808 ≤ a) (ha1 : a ≤ 9223372036854775807) (hb0 : -9223372036854775808 ≤ b) (hb1 : b ≤ 9223372036854775807)
    (ha : a.natAbs = na) (hb : b.natAbs = nb) (hs : (decide (a < 0) = true ∧ decide (b < 0) = true) ∨ (decide (a < 0) = false ∧ decide (b < 0) = false)) :
    Calls Tryz.prog 177 #[.int .i64 a, .int .i64 b] w fun e w' => e = .returned (AggN ((na * nb : Nat) : Int)) ∧ Below w.heap.size w w' := by
  have A := Lib.hid (fun w => size_any a w ha0 ha1)
  have B := Lib.hid (fun w => size_any b w hb0 hb1)
  have M := Lib.hid (fun w => mul_words na nb (by omega) (by omega) w)
  rw [ha] at A
  rw [hb] at B
  clear ha hb
  generalize ((na * nb : Nat) : Int) = v at *
  unfold AggN
  rcases hs with ⟨s1, s2⟩ | ⟨s1, s2⟩
  all_goals
    go_enter Tryz.func177, Tryz.ntmps177
    go_wp2_with fail
    refine (A.out _).mono ?_
    rintro e w1 ⟨rfl, rfl⟩
    go_wp2_with fail
    refine (B.out _).mono ?_
    rintro e w1 ⟨rfl, rfl⟩
    go_wp2_with fail
    refine (M.out _).mono ?_
    rintro e w1 ⟨rfl, rfl⟩
    go_wp2_with fail
    exact bodyPost_ret (v := .agg #[.int .u64 (hw v), .int .u64 (lw v)]) (by simp [results, Tryz.results177, go_sem]) rfl ⟨rfl, ((Below.refl _ _).alloc (Nat.le_refl _) _).alloc (by simp) _⟩
theorem product_other (a b : Int) (na nb : Nat) (w : World) (ha0 : -9223372036854775808 ≤ a) (ha1 : a ≤ 9223372036854775807) (hb0 : -9223372036854775808 ≤ b) (hb1 : b ≤ 9223372036854775807)
    (ha : a.natAbs = na) (hb : b.natAbs = nb) (hs : (decide (a < 0) = true ∧ decide (b < 0) = false) ∨ (decide (a < 0) = false ∧ decide (b < 0) = true)) :
    Calls Tryz.prog 177 #[.int .i64 a, .int .i64 b] w fun e w' => e = .returned (AggN (-((na * nb : Nat) : Int))) ∧ Below w.heap.size w w' := by
  have A := Lib.hid (fun w => size_any a w ha0 ha1)
  have B := Lib.hid (fun w => size_any b w hb0 hb1)
  have M := Lib.hid (fun w => mul_words na nb (by omega) (by omega) w)
  rw [ha] at A
  rw [hb] at B
  clear ha hb
  generalize ((na * nb : Nat) : Int) = v at *
  unfold AggN
  rcases hs with ⟨s1, s2⟩ | ⟨s1, s2⟩
  all_goals
    go_enter Tryz.func177, Tryz.ntmps177
    go_wp2_with fail
    refine (A.out _).mono ?_
    rintro e w1 ⟨rfl, rfl⟩
    go_wp2_with fail
    refine (B.out _).mono ?_
    rintro e w1 ⟨rfl, rfl⟩
    go_wp2_with fail
    refine (M.out _).mono ?_
    rintro e w1 ⟨rfl, rfl⟩
    go_wp2_with fail
    refine (negate_num (w.heap.size + 1) v _ (by exact Two.mk2 w _ _ _)).mono ?_
    rintro e w1 ⟨rfl, t, n⟩
    have R := (Two.mk0 w (.cells #[.int .u64 (hw v), .int .u64 (lw v)] 234) 0 0).kept t (by omega)
    have c0 := n.c0; have c1 := n.c1
    have r0 := R.c0; have r1 := R.c1; have z0 := R.z0; have z1 := R.z1
    go_wp2_with fail
    have F : Two w.heap.size (hw (-v)) (lw (-v)) ((w1.setCell ⟨w.heap.size, 0, none⟩ (.int .u64 (hw (-v)))).setCell ⟨w.heap.size, 1, none⟩ (.int .u64 (lw (-v)))) := heap_set 1 _ (heap_set 0 _ R)
    refine bodyPost_ret (v := .agg #[.int .u64 (hw (-v)), .int .u64 (lw (-v))]) (by simp [results, Tryz.results177, go_sem, F.c0, F.c1]) rfl ⟨rfl, ?_⟩
    refine Below.setCell (Below.setCell (Below.trans (((Below.refl _ _).alloc (Nat.le_refl _) _).alloc (by simp) _) (t.below (by omega) (by simp; omega))) (Nat.le_refl _) _) (Nat.le_refl _) _
theorem natAbs_mul_same (a b : Int) (h : (a < 0 ∧ b < 0) ∨ (0 ≤ a ∧ 0 ≤ b)) : ((a.natAbs * b.natAbs : Nat) : Int) = a * b := by
  rw [Int.natCast_mul]
  rcases h with ⟨h1, h2⟩ | ⟨h1, h2⟩
  · rw [show (a.natAbs : Int) = -a from by omega, show (b.natAbs : Int) = -b from by omega, Int.neg_mul_neg]
  · rw [show (a.natAbs : Int) = a from by omega, show (b.natAbs : Int) = b from by omega]
theorem natAbs_mul_other (a b : Int) (h : (a < 0 ∧ 0 ≤ b) ∨ (0 ≤ a ∧ b < 0)) : -((a.natAbs * b.natAbs : Nat) : Int) = a * b := by
  rw [Int.natCast_mul]
  rcases h with ⟨h1, h2⟩ | ⟨h1, h2⟩
  · rw [show (a.natAbs : Int) = -a from by omega, show (b.natAbs : Int) = b from by omega, Int.neg_mul, Int.neg_neg]
  · rw [show (a.natAbs : Int) = a from by omega, show (b.natAbs : Int) = -b from by omega, Int.mul_neg, Int.neg_neg]
/-- product: the two words of the product. -/
theorem product_any (a b : Int) (w : World) (ha0 : -9223372036854775808 ≤ a) (ha1 : a ≤ 9223372036854775807) (hb0 : -9223372036854775808 ≤ b) (hb1 : b ≤ 9223372036854775807) :
    Calls Tryz.prog 177 #[.int .i64 a, .int .i64 b] w fun e w' => e = .returned (AggN (a * b)) ∧ Below w.heap.size w w' := by
  by_cases h1 : a < 0 <;> by_cases h2 : b < 0
  · rw [← natAbs_mul_same a b (by omega)]
    exact product_same a b _ _ w ha0 ha1 hb0 hb1 rfl rfl (by simp [h1, h2])
  · rw [← natAbs_mul_other a b (by omega)]
    exact product_other a b _ _ w ha0 ha1 hb0 hb1 rfl rfl (by simp [h1, h2])
  · rw [← natAbs_mul_other a b (by omega)]
    exact product_other a b _ _ w ha0 ha1 hb0 hb1 rfl rfl (by simp [h1, h2])
  · rw [← natAbs_mul_same a b (by omega)]
    exact product_same a b _ _ w ha0 ha1 hb0 hb1 rfl rfl (by simp [h1, h2])
end Go.Proofs.YtbjabclgekkpaaaGreatDoor
namespace Go.Proofs.YtbjabclgekkpaaaGreatDoor
open Go.RowKit Go.Shelf
theorem hw_half (d : Nat) (hd : d < 18446744073709551616) : hw ((d : Int) / 2) = 0 := by unfold hw; omega
theorem lw_half (d : Nat) (hd : d < 18446744073709551616) : lw ((d : Int) / 2) = (d : Int) / 2 := by unfold lw; omega
/-- The words of a number that is not below 0, as whole numbers. -/
theorem words_nat (u : Int) (h0 : 0 ≤ u) (h1 : u < 170141183460469231731687303715884105728) :
    ∃ H L : Nat, hw u = (H : Int) ∧ lw u = (L : Int) ∧ L < 18446744073709551616 ∧ H < 9223372036854775808 ∧ u = ((H * 18446744073709551616 + L : Nat) : Int) := by
  refine ⟨(u / 18446744073709551616).toNat, (u % 18446744073709551616).toNat, ?_, ?_, ?_, ?_, ?_⟩ <;> (try unfold hw) <;> (try unfold lw) <;> omega
/-- The two quotients are the words of the quotient. -/
theorem quot_words (H L d : Nat) (hd : 0 < d) (hL : L < 18446744073709551616) (hH : H < 9223372036854775808) :
    ((H / d : Nat) : Int) = hw (((H * 18446744073709551616 + L : Nat) : Int) / (d : Int)) ∧ (((H % d * 18446744073709551616 + L) / d : Nat) : Int) = lw (((H * 18446744073709551616 + L : Nat) : Int) / (d : Int)) := by
  have k := div_words H L d hd hL
  have q : H / d ≤ H := Nat.div_le_self _ _
  have e : ((H * 18446744073709551616 + L : Nat) : Int) / (d : Int) = (((H * 18446744073709551616 + L) / d : Nat) : Int) := rfl
  rw [e, k.1]
  have k2 := k.2
  clear k e
  generalize (H % d * 18446744073709551616 + L) / d = x at *
  generalize H / d = y at *
  unfold hw lw
  omega
theorem sign_word (v : Int) (h0 : -170141183460469231731687303715884105728 ≤ v) (h1 : v < 170141183460469231731687303715884105728) : wrap64 (hw v) < 0 ↔ v < 0 := by
  unfold wrap64
  unfold hw
  omega
/-- Rounding down, from the other side. -/
theorem div_mirror (u d : Int) (hd : 0 < d) : u / d = -1 - (-1 - u) / d := by
  have e := Int.mul_ediv_add_emod (-1 - u) d
  have l0 := Int.emod_nonneg (-1 - u) (show d ≠ 0 by omega)
  have l1 := Int.emod_lt_of_pos (-1 - u) hd
  generalize (-1 - u) / d = q at *
  generalize (-1 - u) % d = r at *
  have k : u = (d - 1 - r) + d * (-1 - q) := by rw [Int.mul_sub]; omega
  rw [k, Int.add_mul_ediv_left _ _ (by omega), Int.ediv_eq_zero_of_lt (by omega) (by omega)]
  omega
theorem Turn.drewN {b : Nat} {u w : World} (h : Turn b u w) (n : Nat) : Turn b u (w.drewN n) := ⟨h.os, h.tape, h.output, h.size, h.block⟩
theorem heap_drewN {b : Nat} {o : Obj} {w : World} (n : Nat) (h : w.heap[b]? = some o) : (w.drewN n).heap[b]? = some o := h
theorem divide_pos (b d : Nat) (v : Int) (w : World) (hd : 0 < d) (hd2 : d < 18446744073709551616) (h0 : 0 ≤ v + (d : Int) / 2) (h1 : v + (d : Int) / 2 < 170141183460469231731687303715884105728) (H : Num b v w) :
    Calls Tryz.prog 179 #[.pointer (some ⟨b, 0, none⟩), .int .u64 d] w fun e w' => e = .returned (.tuple #[]) ∧ Turn b w w' ∧ Num b ((v + (d : Int) / 2) / (d : Int)) w' := by
  have A := Lib.hid (add_num b v ((d : Int) / 2) w H)
  unfold AggN at A
  rw [hw_half d hd2, lw_half d hd2] at A
  have sg : 0 ≤ wrap64 (hw (v + (d : Int) / 2)) := by
    have := sign_word (v + (d : Int) / 2) (by omega) h1
    omega
  generalize v + (d : Int) / 2 = u at *
  obtain ⟨HH, LL, e1, e2, hL, hH, e3⟩ := words_nat u h0 h1
  have Q := quot_words HH LL d hd hL hH
  rw [← e3] at Q
  have D1 := Lib.hid (fun w => div64_zero HH d hd (by omega) w)
  have D2 := Lib.hid (fun w => div64_any (HH % d) LL d (Nat.mod_lt _ hd) hL hd2 w)
  rw [Q.1] at D1
  rw [Q.2] at D2
  have E := Lib.hid (And.intro e1 e2)
  clear e1 e2 e3 hL hH h0 h1 Q
  generalize u / (d : Int) = q at *
  go_enter Tryz.func179, Tryz.ntmps179
  go_wp2_with fail
  refine A.out.mono ?_
  rintro e w1 ⟨rfl, t1, n1⟩
  have c0 := n1.c0; have c1 := n1.c1; have z0 := n1.z0; have z1 := n1.z1
  rw [E.out.1] at c0 sg
  rw [E.out.2] at c1
  go_wp2_with fail
  refine (D1.out _).mono ?_
  rintro e w2 ⟨rfl, n, rfl⟩
  go_wp2_with fail
  refine (D2.out _).mono ?_
  rintro e w2 ⟨rfl, m, rfl⟩
  go_wp2_with fail
  go_end0
  exact ⟨rfl, (((t1.drewN n).set 0 _).drewN m).set 1 _, heap_set 1 _ (heap_drewN m (heap_set 0 _ (heap_drewN n n1)))⟩
theorem divide_neg (b d : Nat) (v : Int) (w : World) (hd : 0 < d) (hd2 : d < 18446744073709551616) (h0 : v + (d : Int) / 2 < 0) (h1 : -170141183460469231731687303715884105728 ≤ v + (d : Int) / 2) (H : Num b v w) :
    Calls Tryz.prog 179 #[.pointer (some ⟨b, 0, none⟩), .int .u64 d] w fun e w' => e = .returned (.tuple #[]) ∧ Turn b w w' ∧ Num b ((v + (d : Int) / 2) / (d : Int)) w' := by
  have A := Lib.hid (add_num b v ((d : Int) / 2) w H)
  unfold AggN at A
  rw [hw_half d hd2, lw_half d hd2] at A
  have sg : wrap64 (hw (v + (d : Int) / 2)) < 0 := (sign_word (v + (d : Int) / 2) h1 (by omega)).2 h0
  have eq : (v + (d : Int) / 2) / (d : Int) = -1 - (-1 - (v + (d : Int) / 2)) / (d : Int) := div_mirror _ _ (by omega)
  rw [eq]
  clear eq
  generalize v + (d : Int) / 2 = u at *
  obtain ⟨HH, LL, e1, e2, hL, hH, e3⟩ := words_nat (-1 - u) (by omega) (by omega)
  have Q := quot_words HH LL d hd hL hH
  rw [← e3] at Q
  have D1 := Lib.hid (fun w => div64_zero HH d hd (by omega) w)
  have D2 := Lib.hid (fun w => div64_any (HH % d) LL d (Nat.mod_lt _ hd) hL hd2 w)
  rw [Q.1] at D1
  rw [Q.2] at D2
  have E := Lib.hid (And.intro e1 e2)
  clear e1 e2 e3 hL hH h0 h1 Q
  generalize (-1 - u) / (d : Int) = q at *
  go_enter Tryz.func179, Tryz.ntmps179
  go_wp2_with fail
  refine A.out.mono ?_
  rintro e w1 ⟨rfl, t1, n1⟩
  have c0 := n1.c0
  go_wp2_with fail
  refine (invert_num b u _ (by exact n1)).mono ?_
  rintro e w3 ⟨rfl, t3, n3⟩
  clear c0
  have c0 := n3.c0; have c1 := n3.c1; have z0 := n3.z0; have z1 := n3.z1
  rw [E.out.1] at c0
  rw [E.out.2] at c1
  go_wp2_with fail
  refine (D1.out _).mono ?_
  rintro e w2 ⟨rfl, n, rfl⟩
  go_wp2_with fail
  refine (D2.out _).mono ?_
  rintro e w2 ⟨rfl, m, rfl⟩
  go_wp2_with fail
  refine (invert_num b q _ (by exact heap_set 1 _ (heap_drewN m (heap_set 0 _ (heap_drewN n n3))))).mono ?_
  rintro e w4 ⟨rfl, t4, n4⟩
  go_wp2_with fail
  go_end0
  exact ⟨rfl, (((((t1.trans t3).drewN n).set 0 _).drewN m).set 1 _).trans t4, n4⟩
/-- divide: the nearest whole number to v / d; of two that are as near the greater one. -/
theorem divide_any (b d : Nat) (v : Int) (w : World) (hd : 0 < d) (hd2 : d < 18446744073709551616) (h0 : -170141183460469231731687303715884105728 ≤ v + (d : Int) / 2) (h1 : v + (d : Int) / 2 < 170141183460469231731687303715884105728) (H : Num b v w) :
    Calls Tryz.prog 179 #[.pointer (some ⟨b, 0, none⟩), .int .u64 d] w fun e w' => e = .returned (.tuple #[]) ∧ Turn b w w' ∧ Num b ((v + (d : Int) / 2) / (d : Int)) w' := by
  by_cases h : v + (d : Int) / 2 < 0
  · exact divide_neg b d v w hd hd2 h h0 H
  · exact divide_pos b d v w hd hd2 (by omega) h1 H
end Go.Proofs.YtbjabclgekkpaaaGreatDoor
namespace Go.Proofs.YtbjabclgekkpaaaGreatDoor
open Go.RowKit Go.Shelf
/-- Does it fit? And the number that is told. -/
def fits (v : Int) : Bool := decide (-9223372036854775808 ≤ v ∧ v ≤ 9223372036854775807)
def told (v : Int) : Int := if fits v then v else 0
def Pair (v : Int) : Value := .tuple #[.int .i64 (told v), .bool (fits v)]
theorem near_bound (v : Int) (d : Nat) (hd : 0 < d) (h0 : -170141183460469231731687303715884105728 ≤ v) (h1 : v + (d : Int) / 2 < 170141183460469231731687303715884105728) :
    -170141183460469231731687303715884105728 ≤ near v d ∧ near v d < 170141183460469231731687303715884105728 := by
  unfold near
  generalize hu : v + (d : Int) / 2 = u at *
  have hu0 : -170141183460469231731687303715884105728 ≤ u := by omega
  constructor
  · rw [Int.le_ediv_iff_mul_le (by omega)]
    have : (-170141183460469231731687303715884105728 : Int) * d ≤ -170141183460469231731687303715884105728 * 1 := Int.mul_le_mul_of_nonpos_left (by decide) (by omega)
    omega
  · rw [Int.ediv_lt_iff_lt_mul (by omega)]
    have : (170141183460469231731687303715884105728 : Int) * 1 ≤ 170141183460469231731687303715884105728 * d := Int.mul_le_mul_of_nonneg_left (by omega) (by decide)
    omega
/-- The nearest whole number to the sum of two products by 2^s. -/
def dot (a b c d : Int) (s : Nat) : Int := near (a * b + c * d) (2 ^ s)
theorem pair_bad {x : Int} (h : fits x = false) : Pair x = .tuple #[.int .i64 0, .bool false] := by
  unfold Pair told; rw [h]; rfl
theorem fits_i64 {a : Int} (h : I64 a) : fits a = true := decide_eq_true h
theorem told_i64 {a : Int} (h : I64 a) : told a = a := by unfold told; rw [if_pos (fits_i64 h)]
theorem pair_i64 {a : Int} (h : I64 a) : Pair a = .tuple #[.int .i64 a, .bool true] := by unfold Pair; rw [told_i64 h, fits_i64 h]
end Go.Proofs.YtbjabclgekkpaaaGreatDoor
namespace Go.Proofs.YtbjabclgekkpaaaGreatDoor
open Go.RowKit Go.Shelf
theorem widen_num (a : Int) (w : World) (h0 : -9223372036854775808 ≤ a) (h1 : a ≤ 9223372036854775807) :
    Calls Tryz.prog 211 #[.int .i64 a] w fun e w' => e = .returned (.agg #[.int .u64 (hw a), .int .u64 (lw a)]) ∧ w' = w.alloc (.cells #[.int .u64 (hw a), .int .u64 (lw a)] 234) := widen_any a w h0 h1
theorem narrow_gen (v u : Int) (ok : Bool) (w : World) (h0 : -9223372036854775808 ≤ u) (h1 : u ≤ 9223372036854775807) (e1 : IntKind.i64.wrap (lw v) = u) (e2 : lw u = lw v) (e3 : (hw v == hw u) = ok) :
    Calls Tryz.prog 181 #[AggN v] w fun e w' => e = .returned (.tuple #[.int .i64 (if ok then u else 0), .bool ok]) ∧ Below w.heap.size w w' := by
  have C := Lib.hid (fun w => widen_num u w h0 h1)
  rw [e2] at C
  clear e2
  unfold AggN
  generalize hw v = x at *
  generalize hw u = y at *
  generalize lw v = z at *
  cases ok
  all_goals
    go_enter Tryz.func181, Tryz.ntmps181
    go_wp2_with fail
    go_region_held3 (fun w' => w'.cell? ⟨w.heap.size, 0, none⟩ = some (.int .u64 x) ∧ w'.cell? ⟨w.heap.size, 1, none⟩ = some (.int .u64 z)) (simp [go_sem, World.cell?_alloc_past])
      (first | (go_at_call 211; refine (C.out _).mono ?_; rintro e w' ⟨rfl, rfl⟩))
    go_wp2
    go_ret2
    exact ⟨rfl, Below.drew (((Below.refl _ _).alloc (Nat.le_refl _) _).alloc (by simp) _)⟩
theorem narrow_any (v : Int) (w : World) (h0 : -170141183460469231731687303715884105728 ≤ v) (h1 : v < 170141183460469231731687303715884105728) :
    Calls Tryz.prog 181 #[AggN v] w fun e w' => e = .returned (Pair v) ∧ Below w.heap.size w w' := by
  have k := narrow_gen v (wrap64 (lw v)) (fits v) w (by unfold wrap64; omega) (by unfold wrap64; omega) (by unfold wrap64; rw [IntKind.wrap_i64]) (by unfold wrap64 lw; omega) (by
    unfold fits
    rw [Bool.eq_iff_iff]
    simp only [beq_iff_eq, decide_eq_true_eq]
    unfold hw wrap64 lw
    omega)
  have e : (if fits v = true then wrap64 (lw v) else 0) = told v := by
    unfold told
    by_cases h : fits v = true
    · rw [if_pos h, if_pos h]
      unfold fits at h
      have := of_decide_eq_true h
      unfold wrap64 lw
      omega
    · rw [if_neg h, if_neg h]
  rw [e] at k
  exact k
end Go.Proofs.YtbjabclgekkpaaaGreatDoor
namespace Go.Proofs.YtbjabclgekkpaaaGreatDoor
open Go.RowKit Go.Shelf
/-- A product of two numbers of 64 bits. -/
theorem mul_bound (a b : Int) (ha : I64 a) (hb : I64 b) : -85070591730234615856620279821087277056 ≤ a * b ∧ a * b ≤ 85070591730234615865843651857942052864 := by
  have hn : (a * b).natAbs ≤ 9223372036854775808 * 9223372036854775808 := by
    rw [Int.natAbs_mul]
    exact Nat.mul_le_mul (by unfold I64 at ha; omega) (by unfold I64 at hb; omega)
  unfold I64 at ha hb
  refine ⟨?_, by omega⟩
  by_cases h1 : a < 0 <;> by_cases h2 : b < 0
  · have := Int.mul_nonneg_of_nonpos_of_nonpos (show a ≤ 0 by omega) (show b ≤ 0 by omega); omega
  · have e : (a * b).natAbs ≤ 9223372036854775808 * 9223372036854775807 := by
      rw [Int.natAbs_mul]; exact Nat.mul_le_mul (by omega) (by omega)
    omega
  · have e : (a * b).natAbs ≤ 9223372036854775807 * 9223372036854775808 := by
      rw [Int.natAbs_mul]; exact Nat.mul_le_mul (by omega) (by omega)
    omega
  · have := Int.mul_nonneg (show 0 ≤ a by omega) (show 0 ≤ b by omega); omega
theorem mul_top (a b : Int) (ha : I64 a) (hb : I64 b) : a * b = 85070591730234615865843651857942052864 ∨ a * b ≤ 85070591730234615856620279821087277056 := by
  unfold I64 at ha hb
  by_cases h1 : a = -9223372036854775808
  · by_cases h2 : b = -9223372036854775808
    · subst h1 h2; left; decide
    · right
      have hn : (a * b).natAbs ≤ 9223372036854775808 * 9223372036854775807 := by
        rw [Int.natAbs_mul]; exact Nat.mul_le_mul (by omega) (by omega)
      omega
  · right
    have hn : (a * b).natAbs ≤ 9223372036854775807 * 9223372036854775808 := by
      rw [Int.natAbs_mul]; exact Nat.mul_le_mul (by omega) (by omega)
    omega
theorem below_two {w w1 w2 w3 w4 : World} {o : Obj} (b1 : Below w.heap.size w w1) (b2 : Below (w1.alloc o).heap.size (w1.alloc o) w2) (t3 : Turn w1.heap.size w2 w3) (b4 : Below w3.heap.size w3 w4) : Below w.heap.size w w4 := by
  have s1 := b1.size
  have s2 := b2.size
  have s3 := t3.size
  simp at s2
  exact (((b1.alloc s1 o).trans (b2.mono (by simp; omega))).trans (t3.below s1 (by omega))).trans (b4.mono (by omega))
/-- The sum of two products, as it lies in two words: the one that goes over comes round. -/
def around (v : Int) : Int := if v = 170141183460469231731687303715884105728 then -170141183460469231731687303715884105728 else v
theorem dot_gen (a b c d : Int) (s k : Nat) (w : World) (ha : I64 a) (hb : I64 b) (hc : I64 c) (hd : I64 d) (hs : s ≤ 62) (hk : 2 ^ s = k) (hk1 : 0 < k) (hk2 : k ≤ 4611686018427387904) :
    Calls Tryz.prog 201 #[.int .i64 a, .int .i64 b, .int .i64 c, .int .i64 d, .int .i64 s] w fun e w' => e = .returned (Pair (near (around (a * b + c * d)) k)) ∧ Below w.heap.size w w' := by
  have B1 := mul_bound a b ha hb
  have B2 := mul_bound c d hc hd
  have T1 := mul_top a b ha hb
  have T2 := mul_top c d hc hd
  have A := Lib.hid (product_any a b w ha.1 ha.2 hb.1 hb.2)
  have C := Lib.hid (fun w => product_any c d w hc.1 hc.2 hd.1 hd.2)
  generalize a * b = v at *
  generalize c * d = u at *
  have G := Lib.hid (fun k w => add_num k v u w)
  have HA : hw (v + u) = hw (around (v + u)) ∧ lw (v + u) = lw (around (v + u)) := by unfold around hw lw; split <;> omega
  have R : -170141183460469231731687303715884105728 ≤ around (v + u) ∧ around (v + u) + (k : Int) / 2 < 170141183460469231731687303715884105728 := by unfold around; split <;> omega
  unfold Num at G
  rw [HA.1, HA.2] at G
  generalize around (v + u) = x at *
  have nb := near_bound x k hk1 R.1 R.2
  have D := Lib.hid (fun i w => divide_any i k x w hk1 (by omega) (by omega) R.2)
  have F := Lib.hid (fun w => narrow_any (near x k) w nb.1 nb.2)
  have sh : IntKind.u64.wrap (2 ^ s) = (k : Int) := by
    rw [IntKind.wrap_u64, ← hk]
    have e : ((2 ^ s : Nat) : Int) = (2 : Int) ^ s := by simp
    rw [← e, hk]
    omega
  unfold Pair at F ⊢
  unfold AggN at A C G F
  have s1 : ¬ (s : Int) < 0 := by omega
  have s2 : ¬ 62 < (s : Int) := by omega
  clear B1 B2 T1 T2 HA R nb ha hb hc hd hk hk1 hk2
  go_enter Tryz.func201, Tryz.ntmps201
  go_wp2_with fail
  refine A.out.mono ?_
  rintro e w1 ⟨rfl, b1⟩
  go_wp2_with fail
  refine (C.out _).mono ?_
  rintro e w2 ⟨rfl, b2⟩
  have n1 : Num w1.heap.size v w2 := (Two.mk1 w1 _ _).below b2 (by simp)
  go_wp2_with fail
  refine (G.out w1.heap.size _ (by exact n1)).mono ?_
  rintro e w3 ⟨rfl, t3, n3⟩
  go_wp2_with fail
  refine (D.out w1.heap.size _ (by exact n3)).mono ?_
  rintro e w4 ⟨rfl, t4, n4⟩
  have c0 := n4.c0; have c1 := n4.c1
  go_wp2_with fail
  refine (F.out _).mono ?_
  rintro e w5 ⟨rfl, b5⟩
  go_wp2_with fail
  go_ret2
  exact ⟨rfl, below_two b1 b2 (t3.trans t4) b5⟩
theorem dot_around (v : Int) (k : Nat) (hk1 : 0 < k) (hk2 : k ≤ 4611686018427387904) : Pair (near (around v) k) = Pair (near v k) := by
  unfold around
  by_cases h : v = 170141183460469231731687303715884105728
  · rw [if_pos h, h]
    have f1 : fits (near (-170141183460469231731687303715884105728) k) = false := by
      unfold fits near
      simp only [decide_eq_false_iff_not]
      rintro ⟨h1, _⟩
      rw [Int.le_ediv_iff_mul_le (by omega)] at h1
      have := Int.mul_le_mul_of_nonpos_left (show (-9223372036854775808 : Int) ≤ 0 by decide) (show (k : Int) ≤ 4611686018427387904 by omega)
      omega
    have f2 : fits (near 170141183460469231731687303715884105728 k) = false := by
      unfold fits near
      simp only [decide_eq_false_iff_not]
      rintro ⟨_, h1⟩
      have h2 := Int.lt_add_one_of_le h1
      rw [Int.ediv_lt_iff_lt_mul (by omega)] at h2
      have := Int.mul_le_mul_of_nonneg_left (show (k : Int) ≤ 4611686018427387904 by omega) (show (0 : Int) ≤ 9223372036854775807 + 1 by decide)
      omega
    rw [pair_bad f1, pair_bad f2]
  · rw [if_neg h]
theorem two_pow_le (s : Nat) (hs : s ≤ 62) : 2 ^ s ≤ 4611686018427387904 := Nat.pow_le_pow_right (n := 2) (by decide) hs
theorem dot_any (a b c d : Int) (s : Nat) (w : World) (ha : I64 a) (hb : I64 b) (hc : I64 c) (hd : I64 d) (hs : s ≤ 62) :
    Calls Tryz.prog 201 #[.int .i64 a, .int .i64 b, .int .i64 c, .int .i64 d, .int .i64 s] w fun e w' => e = .returned (Pair (dot a b c d s)) ∧ Below w.heap.size w w' := by
  have k := dot_gen a b c d s (2 ^ s) w ha hb hc hd hs rfl (Nat.two_pow_pos s) (two_pow_le s hs)
  rw [dot_around _ _ (Nat.two_pow_pos s) (two_pow_le s hs)] at k
  exact k
end Go.Proofs.YtbjabclgekkpaaaGreatDoor
namespace Go.Proofs.YtbjabclgekkpaaaGreatDoor
open Go.RowKit Go.Shelf
theorem PBox.set0 {n : Nat} {x y : Int} {w : World} (h : PBox n x y w) (x' : Int) : PBox n x' y (w.setCell ⟨n, 0, none⟩ (.int .i64 x')) := by
  unfold PBox at *
  simp only [World.setCell, Array.getElem?_modify, h]
  simp
theorem PBox.set1 {n : Nat} {x y : Int} {w : World} (h : PBox n x y w) (y' : Int) : PBox n x y' (w.setCell ⟨n, 1, none⟩ (.int .i64 y')) := by
  unfold PBox at *
  simp only [World.setCell, Array.getElem?_modify, h]
  simp
/-- One number without what is added. -/
def linA (a x b y : Int) : Int := near (a * x + b * y) (2 ^ 16)
theorem pair_lin {a x b y : Int} (ha : In32 a) (hx : In32 x) (hb : In32 b) (hy : In32 y) : Pair (dot a x b y 16) = .tuple #[.int .i64 (linA a x b y), .bool true] := by
  have hn := num_near ha hx hb hy
  exact pair_i64 ⟨by show _ ≤ near (a * x + b * y) (2 ^ 16); omega, by show near (a * x + b * y) (2 ^ 16) ≤ _; omega⟩
theorem lin_near {a x b y : Int} (ha : In32 a) (hx : In32 x) (hb : In32 b) (hy : In32 y) : -1125899906842624 ≤ linA a x b y ∧ linA a x b y ≤ 1125899906842624 := num_near ha hx hb hy
set_option maxHeartbeats 4000000 in
set_option maxRecDepth 100000 in
theorem stretch_any (m : Mtx) (x y : Int) (w : World) (hr : m.right) (hx : In32 x) (hy : In32 y) :
    Calls Tryz.prog 174 #[m.val, .agg #[.int .i64 x, .int .i64 y]] w fun e w' => e = .returned (.agg #[.int .i64 (linA m.a x m.c y), .int .i64 (linA m.b x m.d y)]) ∧ Below w.heap.size w w' := by
  obtain ⟨ra, rb, rc, rd, re, rf⟩ := hr
  have D1 := Lib.hid (fun w => dot_any m.a x m.c y 16 w ra.i hx.i rc.i hy.i (by decide))
  rw [pair_lin ra hx rc hy] at D1
  have D2 := Lib.hid (fun w => dot_any m.b x m.d y 16 w rb.i hx.i rd.i hy.i (by decide))
  rw [pair_lin rb hx rd hy] at D2
  clear ra rb rc rd re rf hx hy
  obtain ⟨hbm, hbp, hbz, hbb⟩ := boxes3 w m x y
  obtain ⟨a, b, c, d, e0, f⟩ := m
  simp only [Mtx.cells] at hbm hbp hbz hbb
  have HM1 := Lib.hid hbm
  have HP1 := Lib.hid hbp
  have HZ1 := Lib.hid hbz
  have HB1 := Lib.hid hbb
  clear hbm hbp hbz hbb
  dsimp only at D1 D2 ⊢
  generalize linA a x c y = X at *
  generalize linA b x d y = Y at *
  show Calls _ _ #[.agg #[.int .i64 a, .int .i64 b, .int .i64 c, .int .i64 d, .int .i64 e0, .int .i64 f], .agg #[.int .i64 x, .int .i64 y]] w _
  go_enter Tryz.func174, Tryz.ntmps174
  go_wp2_with fail
  generalize ((w.alloc (.cells #[.int .i64 a, .int .i64 b, .int .i64 c, .int .i64 d, .int .i64 e0, .int .i64 f] 23)).alloc (.cells #[.int .i64 x, .int .i64 y] 40)).alloc (.cells #[.int .i64 0, .int .i64 0] 40) = w1 at *
  have m1_0 : w1.cell? ⟨w.heap.size, 0, none⟩ = some (.int .i64 a) := HM1.out.c0
  have m1_1 : w1.cell? ⟨w.heap.size, 1, none⟩ = some (.int .i64 b) := HM1.out.c1
  have m1_2 : w1.cell? ⟨w.heap.size, 2, none⟩ = some (.int .i64 c) := HM1.out.c2
  have m1_3 : w1.cell? ⟨w.heap.size, 3, none⟩ = some (.int .i64 d) := HM1.out.c3
  have m1_4 : w1.cell? ⟨w.heap.size, 4, none⟩ = some (.int .i64 e0) := HM1.out.c4
  have m1_5 : w1.cell? ⟨w.heap.size, 5, none⟩ = some (.int .i64 f) := HM1.out.c5
  have p1_0 : w1.cell? ⟨w.heap.size + 1, 0, none⟩ = some (.int .i64 x) := HP1.out.c0
  have p1_1 : w1.cell? ⟨w.heap.size + 1, 1, none⟩ = some (.int .i64 y) := HP1.out.c1
  go_wp2_with fail
  refine (D1.out _).mono ?_
  rintro e w2 ⟨rfl, b2⟩
  have HB2 := Lib.hid (HB1.out.trans (b2.mono HB1.out.size))
  have HM2 := Lib.hid (HM1.out.next b2)
  have HP2 := Lib.hid (HP1.out.next b2)
  have HZ2 := Lib.hid (HZ1.out.next b2)
  clear b2
  clear m1_0 m1_1 m1_2 m1_3 m1_4 m1_5 p1_0 p1_1
  have m2_0 : w2.cell? ⟨w.heap.size, 0, none⟩ = some (.int .i64 a) := HM2.out.c0
  have m2_1 : w2.cell? ⟨w.heap.size, 1, none⟩ = some (.int .i64 b) := HM2.out.c1
  have m2_2 : w2.cell? ⟨w.heap.size, 2, none⟩ = some (.int .i64 c) := HM2.out.c2
  have m2_3 : w2.cell? ⟨w.heap.size, 3, none⟩ = some (.int .i64 d) := HM2.out.c3
  have m2_4 : w2.cell? ⟨w.heap.size, 4, none⟩ = some (.int .i64 e0) := HM2.out.c4
  have m2_5 : w2.cell? ⟨w.heap.size, 5, none⟩ = some (.int .i64 f) := HM2.out.c5
  have p2_0 : w2.cell? ⟨w.heap.size + 1, 0, none⟩ = some (.int .i64 x) := HP2.out.c0
  have p2_1 : w2.cell? ⟨w.heap.size + 1, 1, none⟩ = some (.int .i64 y) := HP2.out.c1
  go_wp2_with fail
  refine (D2.out _).mono ?_
  rintro e w3 ⟨rfl, b3⟩
  have HB3 := Lib.hid (HB2.out.trans (b3.mono HB2.out.size))
  have HM3 := Lib.hid (HM2.out.next b3)
  have HP3 := Lib.hid (HP2.out.next b3)
  have HZ3 := Lib.hid (HZ2.out.next b3)
  clear b3
  clear m2_0 m2_1 m2_2 m2_3 m2_4 m2_5 p2_0 p2_1
  have z3_0 : w3.cell? ⟨w.heap.size + 1 + 1, 0, none⟩ = some (.int .i64 0) := HZ3.out.c0
  have f3_0 := HZ3.out.z 0
  have z3_1 : w3.cell? ⟨w.heap.size + 1 + 1, 1, none⟩ = some (.int .i64 0) := HZ3.out.c1
  have f3_1 := HZ3.out.z 1
  go_wp2_with fail
  exact pe_ret Tryz.results174 (HZ3.out.set X Y) (below_pt8 HB3.out (by omega) (.int .i64 X) (.int .i64 Y)) rfl
/-- How take ends. -/
def takeE (r : (Int × Int) × Int) : Ending := if r.2 = 0 then .returned (.agg #[.int .i64 r.1.1, .int .i64 r.1.2]) else Gives r.2
theorem takeE_one (p : Int × Int) : takeE (p, 1) = Gives 1 := rfl
set_option maxHeartbeats 4000000 in
set_option maxRecDepth 100000 in
theorem atake_any (m : Mtx) (x y : Int) (w : World) (hr : m.right) (hx : I64 x) (hy : I64 y) :
    Calls Tryz.prog 142 #[m.val, .agg #[.int .i64 x, .int .i64 y]] w fun e w' => e = takeE (applyS m x y) ∧ Below w.heap.size w w' := by
  have NE := Lib.hid (fun w => near_any x y w hx hy)
  have ME1 := Lib.hid (fun w => must_no 1 w)
  have ME2 := Lib.hid (fun w => must_no 2 w)
  have MK1 := Lib.hid (fun w => must_ok 1 w)
  have MK2 := Lib.hid (fun w => must_ok 2 w)
  unfold Gives at ME1 ME2
  clear hx hy
  by_cases hn : In32 x ∧ In32 y
  case neg =>
    have hS : applyS m x y = ((0, 0), 1) := by unfold applyS; rw [if_neg (fun h => hn h.2)]
    rw [hS, takeE_one]
    rw [decide_eq_false hn] at NE
    clear hS hn hr MK1 MK2 ME2
    obtain ⟨hbm, hbp, hbz, hbb⟩ := boxes3 w m x y
    obtain ⟨a, b, c, d, e0, f⟩ := m
    simp only [Mtx.cells] at hbm hbp hbz hbb
    have HM1 := Lib.hid hbm
    have HP1 := Lib.hid hbp
    have HZ1 := Lib.hid hbz
    have HB1 := Lib.hid hbb
    clear hbm hbp hbz hbb
    show Calls _ _ #[.agg #[.int .i64 a, .int .i64 b, .int .i64 c, .int .i64 d, .int .i64 e0, .int .i64 f], .agg #[.int .i64 x, .int .i64 y]] w _
    go_enter Tryz.func142, Tryz.ntmps142
    go_wp2_with fail
    generalize ((w.alloc (.cells #[.int .i64 a, .int .i64 b, .int .i64 c, .int .i64 d, .int .i64 e0, .int .i64 f] 23)).alloc (.cells #[.int .i64 x, .int .i64 y] 40)).alloc (.cells #[.int .i64 0, .int .i64 0] 40) = w1 at *
    have p1_0 : w1.cell? ⟨w.heap.size + 1, 0, none⟩ = some (.int .i64 x) := HP1.out.c0
    have p1_1 : w1.cell? ⟨w.heap.size + 1, 1, none⟩ = some (.int .i64 y) := HP1.out.c1
    go_wp2_with fail
    refine (NE.out _).mono ?_
    rintro e w2 ⟨rfl, b2⟩
    have HB2 := Lib.hid (HB1.out.trans (b2.mono HB1.out.size))
    have HM2 := Lib.hid (HM1.out.next b2)
    have HP2 := Lib.hid (HP1.out.next b2)
    have HZ2 := Lib.hid (HZ1.out.next b2)
    clear b2
    clear p1_0 p1_1
    go_wp2_with fail
    refine (ME1.out _).mono ?_
    rintro e wm ⟨rfl, rfl⟩
    go_wp2_with fail
    exact ⟨rfl, rfl, HB2.out⟩
  rw [decide_eq_true hn] at NE
  have ST := Lib.hid (fun w => stretch_any m x y w hr hn.1 hn.2)
  have hS : applyS m x y = if In32 (linA m.a x m.c y + m.e) ∧ In32 (linA m.b x m.d y + m.f) then ((linA m.a x m.c y + m.e, linA m.b x m.d y + m.f), 0) else ((0, 0), 2) := by
    unfold applyS
    rw [if_pos ⟨hr, hn⟩]
    rfl
  rw [hS]
  have b1 := lin_near hr.1 hn.1 hr.2.2.1 hn.2
  have b2 := lin_near hr.2.1 hn.1 hr.2.2.2.1 hn.2
  have b3 := hr.2.2.2.2.1
  have b4 := hr.2.2.2.2.2
  unfold In32 at b3 b4
  clear hS hn hr ME1
  obtain ⟨hbm, hbp, hbz, hbb⟩ := boxes3 w m x y
  obtain ⟨a, b, c, d, e0, f⟩ := m
  simp only [Mtx.cells] at hbm hbp hbz hbb
  have HM1 := Lib.hid hbm
  have HP1 := Lib.hid hbp
  have HZ1 := Lib.hid hbz
  have HB1 := Lib.hid hbb
  clear hbm hbp hbz hbb
  dsimp only at ST b1 b2 b3 b4 ⊢
  generalize linA a x c y = X at *
  generalize linA b x d y = Y at *
  have e1 : IntKind.i64.wrap (X + e0) = X + e0 := IntWalk.i64_in _ (by omega)
  have e2 : IntKind.i64.wrap (Y + f) = Y + f := IntWalk.i64_in _ (by omega)
  have iX : I64 (X + e0) := ⟨by omega, by omega⟩
  have iY : I64 (Y + f) := ⟨by omega, by omega⟩
  have N2 := Lib.hid (fun w => near_any (X + e0) (Y + f) w iX iY)
  clear b1 b2 b3 b4 iX iY
  obtain ⟨R, hR⟩ : ∃ R, takeE (if In32 (X + e0) ∧ In32 (Y + f) then ((X + e0, Y + f), 0) else ((0, 0), 2)) = R := ⟨_, rfl⟩
  rw [hR]
  have HR := Lib.hid hR
  clear hR
  show Calls _ _ #[.agg #[.int .i64 a, .int .i64 b, .int .i64 c, .int .i64 d, .int .i64 e0, .int .i64 f], .agg #[.int .i64 x, .int .i64 y]] w _
  go_enter Tryz.func142, Tryz.ntmps142
  go_wp2_with fail
  generalize ((w.alloc (.cells #[.int .i64 a, .int .i64 b, .int .i64 c, .int .i64 d, .int .i64 e0, .int .i64 f] 23)).alloc (.cells #[.int .i64 x, .int .i64 y] 40)).alloc (.cells #[.int .i64 0, .int .i64 0] 40) = w1 at *
  have p1_0 : w1.cell? ⟨w.heap.size + 1, 0, none⟩ = some (.int .i64 x) := HP1.out.c0
  have p1_1 : w1.cell? ⟨w.heap.size + 1, 1, none⟩ = some (.int .i64 y) := HP1.out.c1
  go_wp2_with fail
  refine (NE.out _).mono ?_
  rintro e w2 ⟨rfl, b2⟩
  have HB2 := Lib.hid (HB1.out.trans (b2.mono HB1.out.size))
  have HM2 := Lib.hid (HM1.out.next b2)
  have HP2 := Lib.hid (HP1.out.next b2)
  have HZ2 := Lib.hid (HZ1.out.next b2)
  clear b2
  clear p1_0 p1_1
  have m2_0 : w2.cell? ⟨w.heap.size, 0, none⟩ = some (.int .i64 a) := HM2.out.c0
  have m2_1 : w2.cell? ⟨w.heap.size, 1, none⟩ = some (.int .i64 b) := HM2.out.c1
  have m2_2 : w2.cell? ⟨w.heap.size, 2, none⟩ = some (.int .i64 c) := HM2.out.c2
  have m2_3 : w2.cell? ⟨w.heap.size, 3, none⟩ = some (.int .i64 d) := HM2.out.c3
  have m2_4 : w2.cell? ⟨w.heap.size, 4, none⟩ = some (.int .i64 e0) := HM2.out.c4
  have m2_5 : w2.cell? ⟨w.heap.size, 5, none⟩ = some (.int .i64 f) := HM2.out.c5
  have p2_0 : w2.cell? ⟨w.heap.size + 1, 0, none⟩ = some (.int .i64 x) := HP2.out.c0
  have p2_1 : w2.cell? ⟨w.heap.size + 1, 1, none⟩ = some (.int .i64 y) := HP2.out.c1
  go_wp2_with fail
  refine (MK1.out _).mono ?_
  rintro e wm ⟨rfl, rfl⟩
  go_wp2_with fail
  refine (ST.out _).mono ?_
  rintro e w3 ⟨rfl, b3⟩
  have HB3 := Lib.hid (HB2.out.trans (b3.mono HB2.out.size))
  have HM3 := Lib.hid (HM2.out.next b3)
  have HP3 := Lib.hid (HP2.out.next b3)
  have HZ3 := Lib.hid (HZ2.out.next b3)
  clear b3
  clear m2_0 m2_1 m2_2 m2_3 m2_4 m2_5 p2_0 p2_1
  go_upto_region 3 with fail
  have al := (Below.refl w3.heap.size w3).alloc (Nat.le_refl _) (.cells #[.int .i64 X, .int .i64 Y] 40)
  have HQ4 := Lib.hid (PBox.new w3 X Y)
  have HB4 := Lib.hid (HB3.out.alloc HB3.out.size (.cells #[.int .i64 X, .int .i64 Y] 40))
  have HM4 := Lib.hid (HM3.out.next al)
  have HZ4 := Lib.hid (HZ3.out.next al)
  have l3 := HB3.out.size
  have lm3 := HM3.out.lt
  have lz3 := HZ3.out.lt
  clear al
  generalize w3.alloc (.cells #[.int .i64 X, .int .i64 Y] 40) = w4 at *
  generalize w3.heap.size = q at *
  have a0 := HQ4.out.c0
  have a1 := HQ4.out.z 0
  have a2 := HM4.out.c4
  dsimp only at a2
  go_upto_region 4 with fail
  clear a0 a1 a2
  have HQ5 := Lib.hid (HQ4.out.set0 (X + e0))
  have HB5 := Lib.hid (HB4.out.setCell (p := ⟨q, 0, none⟩) l3 (.int .i64 (X + e0)))
  have HM5 := Lib.hid (HM4.out.other (Nat.ne_of_lt lm3) 0 (.int .i64 (X + e0)))
  have HZ5 := Lib.hid (HZ4.out.other (Nat.ne_of_lt lz3) 0 (.int .i64 (X + e0)))
  generalize w4.setCell ⟨q, 0, none⟩ (.int .i64 (X + e0)) = w5 at *
  have a0 := HQ5.out.c1
  have a1 := HQ5.out.z 1
  have a2 := HM5.out.c5
  dsimp only at a2
  go_upto_region 5 with fail
  clear a0 a1 a2
  have HQ6 := Lib.hid (HQ5.out.set1 (Y + f))
  have HB6 := Lib.hid (HB5.out.setCell (p := ⟨q, 1, none⟩) l3 (.int .i64 (Y + f)))
  have HM6 := Lib.hid (HM5.out.other (Nat.ne_of_lt lm3) 1 (.int .i64 (Y + f)))
  have HZ6 := Lib.hid (HZ5.out.other (Nat.ne_of_lt lz3) 1 (.int .i64 (Y + f)))
  generalize w5.setCell ⟨q, 1, none⟩ (.int .i64 (Y + f)) = w6 at *
  have a0 := HQ6.out.c0
  have a1 := HQ6.out.c1
  clear HM4 HM5 HZ4 HZ5 HQ4 HQ5 HB4 HB5 lm3 lz3 HM6 e1 e2
  generalize X + e0 = X' at *
  generalize Y + f = Y' at *
  go_wp2_with fail
  by_cases ho : In32 X' ∧ In32 Y'
  · obtain rfl : .returned (.agg #[.int .i64 X', .int .i64 Y']) = R := by rw [← HR.out, if_pos ho]; rfl
    rw [decide_eq_true ho] at N2
    refine (N2.out _).mono ?_
    rintro e w7 ⟨rfl, b7⟩
    have HQ7 := Lib.hid (HQ6.out.next b7)
    have HZ7 := Lib.hid (HZ6.out.next b7)
    have HB7 := Lib.hid (HB6.out.trans (b7.mono HB6.out.size))
    clear a0 a1 b7
    go_wp2_with fail
    refine (MK2.out _).mono ?_
    rintro e wm ⟨rfl, rfl⟩
    have a0 := HQ7.out.c0
    have a1 := HQ7.out.c1
    have a2 := HZ7.out.c0
    have a3 := HZ7.out.c1
    have a4 := HZ7.out.z 0
    have a5 := HZ7.out.z 1
    go_wp2_with fail
    exact pe_ret Tryz.results142 (HZ7.out.set X' Y') (below_pt8 HB7.out (by omega) (.int .i64 X') (.int .i64 Y')) rfl
  · obtain rfl : .panicked [{ v := .iface 28 (.int .i64 2), recovered := false }] = R := by rw [← HR.out, if_neg ho]; rfl
    rw [decide_eq_false ho] at N2
    refine (N2.out _).mono ?_
    rintro e w7 ⟨rfl, b7⟩
    have HB7 := Lib.hid (HB6.out.trans (b7.mono HB6.out.size))
    clear a0 a1 b7
    go_wp2_with fail
    refine (ME2.out _).mono ?_
    rintro e wm ⟨rfl, rfl⟩
    go_wp2_with fail
    exact ⟨rfl, rfl, HB7.out⟩
end Go.Proofs.YtbjabclgekkpaaaGreatDoor
