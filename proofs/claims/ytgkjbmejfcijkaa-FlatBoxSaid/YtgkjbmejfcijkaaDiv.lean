/-
  The contract of math/bits.Div64, by walking the library's own text in this translation: quotient and remainder of a number of two words, for every divisor above the high word; memory stays as it was.
-/
import Derived.Test.YtgkjbmejfcijkaaBits
import Derived.Deep.QuietTactic
namespace Go.Proofs.Ytgkjbmejfcijkaa
open Go.RowKit Go.Shelf

theorem slot_y (y s : Nat) (h : y * 2 ^ s < 18446744073709551616) : IntKind.u64.wrap ((y : Int) * 2 ^ s) = ((y * 2 ^ s : Nat) : Int) := by
  have e : (y : Int) * 2 ^ s = ((y * 2 ^ s : Nat) : Int) := by simp
  rw [e, Mul64.wrapN _ h]
theorem slot_lo (lo s : Nat) : IntKind.u64.wrap ((lo : Int) * 2 ^ s) = ((lo * 2 ^ s % 18446744073709551616 : Nat) : Int) := by
  have e : (lo : Int) * 2 ^ s = ((lo * 2 ^ s : Nat) : Int) := by simp
  rw [e, Mul64.wrapM]
theorem slot_or (hi lo s U : Nat) (hU : U < 18446744073709551616) (h1 : hi * 2 ^ s + lo / 2 ^ (64 - s) < U) (h2 : lo / 2 ^ (64 - s) < 2 ^ s) :
    bits BinOp.or IntKind.u64 (IntKind.u64.wrap ((hi : Int) * 2 ^ s)) ((lo : Int) / 2 ^ (64 - s)) = ((hi * 2 ^ s + lo / 2 ^ (64 - s) : Nat) : Int) := by
  have e : (lo : Int) / 2 ^ (64 - s) = ((lo / 2 ^ (64 - s) : Nat) : Int) := by simp
  have b1 : hi * 2 ^ s < 18446744073709551616 := Nat.lt_trans (Nat.lt_of_le_of_lt (Nat.le_add_right _ _) h1) hU
  have b2 : lo / 2 ^ (64 - s) < 18446744073709551616 := Nat.lt_trans (Nat.lt_of_le_of_lt (Nat.le_add_left _ _) h1) hU
  rw [slot_y hi s b1, e, bits_or_u64_nat _ _ b1 b2, or_add _ _ _ h2]

theorem slot_q (u v : Nat) (hu : u < 18446744073709551616) : IntKind.u64.wrap ((u : Int) / (v : Int)) = ((u / v : Nat) : Int) := by
  have e : (u : Int) / (v : Int) = ((u / v : Nat) : Int) := by simp
  rw [e, Mul64.wrapN _ (Nat.lt_of_le_of_lt (Nat.div_le_self _ _) hu)]
theorem slot_r (u v : Nat) (hu : u < 18446744073709551616) : IntKind.u64.wrap ((u : Int) - IntKind.u64.wrap (((u / v : Nat) : Int) * (v : Int))) = ((u % v : Nat) : Int) := by
  have e : ((u / v : Nat) : Int) * (v : Int) = ((v * (u / v) : Nat) : Int) := by simp [Int.mul_comm]
  have d := Nat.div_add_mod u v
  rw [e]
  generalize v * (u / v) = k at *
  generalize u % v = m at *
  rw [IntKind.wrap_u64, IntKind.wrap_u64]
  omega

theorem slot_u (u v q Y R : Nat) (h : u * 4294967296 + v = q * Y + R) (hR : R < 18446744073709551616) :
    IntKind.u64.wrap (IntKind.u64.wrap (IntKind.u64.wrap ((u : Int) * 4294967296) + v) - IntKind.u64.wrap ((q : Int) * Y)) = (R : Int) := by
  rw [Mul64.mulN q Y]
  generalize q * Y = k at *
  rw [IntKind.wrap_u64, IntKind.wrap_u64, IntKind.wrap_u64, IntKind.wrap_u64]
  omega

theorem slot_shr (r s : Nat) : (r : Int) / 2 ^ s = ((r / 2 ^ s : Nat) : Int) := by simp

/-- What one digit's loop keeps. -/
def Digit (y1 u32 Q : Nat) (a b : Value) : Prop := ∃ q r : Nat, a = .int .u64 (q : Int) ∧ b = .int .u64 (r : Int) ∧ q * y1 + r = u32 ∧ Q ≤ q ∧ r < 4294967296 ∧ q ≤ 4294967297

theorem dec_mul (q y1 r u32 : Nat) (h : 0 < q) (e : q * y1 + r = u32) : (q - 1) * y1 + (r + y1) = u32 := by
  obtain ⟨p, rfl⟩ : ∃ p, q = p + 1 := ⟨q - 1, by omega⟩
  rw [Nat.add_sub_cancel]
  rw [Nat.add_mul] at e
  omega

/-- The digit was too great, and goes down by one; the rest stays below 2^32. -/
theorem digit_next (y1 y0 u32 v1 Y Q q r : Nat) (hQ : (u32 * 4294967296 + v1) / Y = Q) (hY : Y = y1 * 4294967296 + y0) (b4 : v1 < 4294967296) (hu : u32 < Y) (e : q * y1 + r = u32)
    (hq2 : q ≤ 4294967297) (t : 4294967296 ≤ q ∨ 4294967296 * r + v1 < q * y0) (hb : r + y1 < 4294967296) :
    Digit y1 u32 Q (.int .u64 ((q : Int) - 1)) (.int .u64 ((r : Int) + y1)) := by
  subst hY
  have d := knuth_down y1 y0 u32 v1 q r b4 hu e t
  rw [hQ] at d
  refine ⟨q - 1, r + y1, ?_, ?_, dec_mul q y1 r u32 (by omega) e, by omega, hb, by omega⟩
  · rw [show (q : Int) - 1 = ((q - 1 : Nat) : Int) from by omega]
  · rw [show (r : Int) + y1 = ((r + y1 : Nat) : Int) from by omega]

/-- The digit goes down by one for the last time. -/
theorem digit_end (y1 y0 u32 v1 Y Q q r : Nat) (hQ : (u32 * 4294967296 + v1) / Y = Q) (hY : Y = y1 * 4294967296 + y0) (hy1 : 0 < y1) (b3 : y0 < 4294967296) (b4 : v1 < 4294967296) (hu : u32 < Y) (e : q * y1 + r = u32)
    (t : 4294967296 ≤ q ∨ 4294967296 * r + v1 < q * y0) (hb : 4294967296 ≤ r + y1) : (q : Int) - 1 = (Q : Int) := by
  subst hY
  have d := knuth_down y1 y0 u32 v1 q r b4 hu e t
  have k := knuth_break y1 y0 u32 v1 (q - 1) (r + y1) hy1 b3 hu (dec_mul q y1 r u32 (Nat.lt_of_le_of_lt (Nat.zero_le _) d) e) hb
  rw [hQ] at d k
  omega

/-- The digit is the right one. -/
theorem digit_stop (y1 y0 u32 v1 Y Q q r : Nat) (hQ : (u32 * 4294967296 + v1) / Y = Q) (hY : Y = y1 * 4294967296 + y0) (hy1 : 0 < y1) (e : q * y1 + r = u32) (hq : Q ≤ q)
    (t : q * y0 ≤ 4294967296 * r + v1) : (q : Int) = (Q : Int) := by
  subst hY
  have k := knuth_stop y1 y0 u32 v1 q r hy1 e t
  rw [hQ] at k
  omega

theorem digit_test (q y0 r v1 : Nat) : 4294967296 * (r : Int) + v1 < (q : Int) * y0 ↔ 4294967296 * r + v1 < q * y0 := by
  rw [Mul64.mulN]
  generalize q * y0 = k
  omega
theorem digit_pos (q y0 r v1 : Nat) (h : 4294967296 * r + v1 < q * y0) : 1 ≤ q := by
  rcases Nat.eq_zero_or_pos q with e | e
  · subst e; simp at h
  · exact e

theorem u64_prod (q y0 : Nat) (h1 : q < 4294967296) (h2 : y0 < 4294967296) : IntKind.u64.wrap ((q : Int) * y0) = (q : Int) * y0 := by
  have hm : q * y0 ≤ 4294967295 * 4294967295 := Nat.mul_le_mul (by omega) (by omega)
  rw [Mul64.mulN, Mul64.wrapN _ (by omega)]

set_option maxRecDepth 100000 in
set_option maxHeartbeats 2000000 in
theorem div64_gen (hi lo y qq rr : Nat) (hqq : (hi * 18446744073709551616 + lo) / y = qq) (hrr : (hi * 18446744073709551616 + lo) % y = rr) (hy : hi < y) (hlo : lo < 18446744073709551616) (hy2 : y < 18446744073709551616) (h0 : 0 < hi) (w : World) :
    Calls Try.prog 65 #[.int .u64 hi, .int .u64 lo, .int .u64 y] w fun e w' => e = .returned (.tuple #[.int .u64 (qq : Int), .int .u64 (rr : Int)]) ∧ w = w' := by
  have HQR := Lib.hid (And.intro hqq hrr)
  clear hqq hrr
  have c := lz64_any y hy2 w
  obtain ⟨s1, s2, s3⟩ := norm_y y (by omega) hy2
  generalize 64 - Lib.bitLen y = s at *
  have C := Lib.hid c; clear c
  have t1 : ((y : Int) == 0) = false := by rw [beq_eq_false_iff_ne]; omega
  have t2 : ((hi : Int) == 0) = false := by rw [beq_eq_false_iff_ne]; omega
  have t3 : decide (y ≤ hi) = false := by simp; omega
  go_enter Try.func65, Try.ntmps65
  go_upto_region 15 with (go_at_call 67; refine C.out.mono ?_; rintro e w' ⟨rfl, rfl⟩)
  obtain ⟨u1, u2⟩ := norm_u hi lo y s hy hlo s1
  have this := div_digits hi lo y s s1 _ _ _ rfl rfl rfl
  rw [HQR.out.1, HQR.out.2] at this
  have HF := Lib.hid this
  clear this HQR
  simp only [slot_or hi lo s _ s3 u1 u2, slot_y y s s3, slot_lo lo s, Mul64.divN, Mul64.maskN _ s3, Mul64.maskN _ (Nat.mod_lt (lo * 2 ^ s) (show 18446744073709551616 > 0 by decide))]
  have g10 : lo * 2 ^ s % 18446744073709551616 < 18446744073709551616 := Nat.mod_lt _ (by decide)
  clear C t1 t2 t3 hy hlo hy2 h0 u2
  generalize hi * 2 ^ s + lo / 2 ^ (64 - s) = u32 at *
  generalize lo * 2 ^ s % 18446744073709551616 = u10 at *
  generalize y * 2 ^ s = Y at *
  have HY := Lib.hid (show Y = Y / 4294967296 * 4294967296 + Y % 4294967296 by omega)
  have b1 : 2147483648 ≤ Y / 4294967296 := by omega
  have b2 : Y / 4294967296 < 4294967296 := by omega
  have b3 : Y % 4294967296 < 4294967296 := by omega
  have b4 : u10 / 4294967296 < 4294967296 := by omega
  have b5 : u10 % 4294967296 < 4294967296 := by omega
  generalize Y / 4294967296 = y1 at *
  generalize Y % 4294967296 = y0 at *
  generalize u10 / 4294967296 = v1 at *
  generalize u10 % 4294967296 = v0 at *
  have u3 : u32 < 18446744073709551616 := by omega
  have z1 : ¬ y1 = 0 := by omega
  obtain ⟨Q, R1, hQ, hN, hR⟩ := div_names (u32 * 4294967296 + v1) Y (by omega)
  have HQ := Lib.hid hQ
  have HN := Lib.hid hN
  clear hQ hN
  go_upto_block 0 with fail
  simp only [slot_q u32 y1 u3, slot_r u32 y1 u3]
  go_cut [15, 16] (fun s15 s16 wc => s15 = .int .u64 (Q : Int) ∧ w = wc)
  case first =>
    go_wp2_with fail
    go_loop [15, 16] (fun a b => Digit y1 u32 Q a b) (fun a _ => (intOf a).toNat)
    case atStart =>
      refine ⟨_, _, rfl, rfl, ?_, ?_, ?_, ?_⟩
      · rw [Nat.mul_comm]; exact Nat.div_add_mod u32 y1
      · rw [← HQ.out, HY.out]; exact knuth_init y1 y0 u32 v1 (by omega) b4
      · exact Nat.lt_trans (Nat.mod_lt _ (by omega)) b2
      · exact knuth_guess y1 y0 u32 b1 b3 (by have := HY.out; omega)
    case round =>
      obtain ⟨q, r, rfl, rfl, e, hq, hr, hq2⟩ := hrel
      have E := Lib.hid e; clear e
      have i1 : (r : Int) ≤ 4294967295 := by omega
      have i2 : (y1 : Int) ≤ 4294967295 := by omega
      have i3 : (y0 : Int) ≤ 4294967295 := by omega
      have i4 : (v1 : Int) ≤ 4294967295 := by omega
      have i5 : (q : Int) ≤ 4294967297 := by omega
      have HA := Lib.hid (And.intro s2 (And.intro s3 (And.intro u1 (And.intro g10 (And.intro b1 (And.intro b2 (And.intro b3 (And.intro b4 (And.intro b5 (And.intro u3 (And.intro hr (And.intro hq hq2))))))))))))
      clear s1 s2 s3 u1 hR g10 b1 b2 b3 b4 b5 u3 hr hq hq2
      by_cases hB : (q : Int) < 4294967296
      · have hp : IntKind.u64.wrap ((q : Int) * y0) = (q : Int) * y0 := u64_prod q y0 (by omega) (by omega)
        have hB' : ¬ 4294967296 ≤ (q : Int) := by omega
        by_cases ht : 4294967296 * (r : Int) + v1 < (q : Int) * y0
        · have HT := Lib.hid ((digit_test q y0 r v1).1 ht)
          have q1 : 1 ≤ (q : Int) := by have := digit_pos q y0 r v1 HT.out; omega
          by_cases hb : 4294967296 ≤ (r : Int) + y1
          · go_wp2
            go_meet
            have ⟨a1, a2, a3, a4, a5, a6, a7, a8, a9, a10, a11, a12, a13⟩ := HA.out
            rw [digit_end y1 y0 u32 v1 Y Q q r HQ.out HY.out (by omega) a7 a8 a3 E.out (Or.inr HT.out) (by omega)]
            exact ⟨rfl, rfl⟩
          · go_wp2
            go_round
            case rel =>
              have ⟨a1, a2, a3, a4, a5, a6, a7, a8, a9, a10, a11, a12, a13⟩ := HA.out
              exact digit_next y1 y0 u32 v1 Y Q q r HQ.out HY.out a8 a3 E.out a13 (Or.inr HT.out) (by omega)
            case measure => simp [intOf]; omega
        · have HN := Lib.hid (Nat.le_of_not_lt fun h => ht ((digit_test q y0 r v1).2 h))
          go_wp2
          go_meet
          have ⟨a1, a2, a3, a4, a5, a6, a7, a8, a9, a10, a11, a12, a13⟩ := HA.out
          rw [digit_stop y1 y0 u32 v1 Y Q q r HQ.out HY.out (by omega) E.out a12 HN.out]
          exact ⟨rfl, rfl⟩
      · have hB' : 4294967296 ≤ (q : Int) := by omega
        clear hB
        by_cases hb : 4294967296 ≤ (r : Int) + y1
        · go_wp2
          go_meet
          have ⟨a1, a2, a3, a4, a5, a6, a7, a8, a9, a10, a11, a12, a13⟩ := HA.out
          rw [digit_end y1 y0 u32 v1 Y Q q r HQ.out HY.out (by omega) a7 a8 a3 E.out (Or.inl (by omega)) (by omega)]
          exact ⟨rfl, rfl⟩
        · go_wp2
          go_round
          case rel =>
            have ⟨a1, a2, a3, a4, a5, a6, a7, a8, a9, a10, a11, a12, a13⟩ := HA.out
            exact digit_next y1 y0 u32 v1 Y Q q r HQ.out HY.out a8 a3 E.out a13 (Or.inl (by omega)) (by omega)
          case measure => simp [intOf]; omega
  case rest =>
    obtain ⟨rfl, rfl⟩ := hcut
    have q1 : Q < 4294967296 := by rw [← HQ.out]; exact knuth_lt Y u32 v1 b4 u1
    have HQB := Lib.hid q1; clear q1
    go_upto_region 22 with fail
    simp only [slot_u u32 v1 Q Y R1 HN.out (by omega)]
    have r3 : R1 < 18446744073709551616 := by omega
    go_upto_block 2 with fail
    simp only [slot_q R1 y1 r3, slot_r R1 y1 r3]
    obtain ⟨Q2, R0, hQ2, hN2, hR2⟩ := div_names (R1 * 4294967296 + v0) Y (by omega)
    have HQ2 := Lib.hid hQ2
    have HN2 := Lib.hid hN2
    clear hQ2 hN2
    go_cut [18, 16] (fun s18 s16 wc => s18 = .int .u64 (Q2 : Int) ∧ w = wc)
    case first =>
      go_wp2_with fail
      go_loop [18, 16] (fun a b => Digit y1 R1 Q2 a b) (fun a _ => (intOf a).toNat)
      case atStart =>
        refine ⟨_, _, rfl, rfl, ?_, ?_, ?_, ?_⟩
        · rw [Nat.mul_comm]; exact Nat.div_add_mod R1 y1
        · rw [← HQ2.out, HY.out]; exact knuth_init y1 y0 R1 v0 (by omega) b5
        · exact Nat.lt_trans (Nat.mod_lt _ (by omega)) b2
        · exact knuth_guess y1 y0 R1 b1 b3 (by have := HY.out; omega)
      case round =>
        obtain ⟨q, r, rfl, rfl, e, hq, hr, hq2⟩ := hrel
        have E := Lib.hid e; clear e
        have i1 : (r : Int) ≤ 4294967295 := by omega
        have i2 : (y1 : Int) ≤ 4294967295 := by omega
        have i3 : (y0 : Int) ≤ 4294967295 := by omega
        have i4 : (v0 : Int) ≤ 4294967295 := by omega
        have i5 : (q : Int) ≤ 4294967297 := by omega
        have HA := Lib.hid (And.intro s2 (And.intro s3 (And.intro hR (And.intro g10 (And.intro b1 (And.intro b2 (And.intro b3 (And.intro b5 (And.intro b4 (And.intro r3 (And.intro hr (And.intro hq hq2))))))))))))
        clear s1 s2 s3 u1 hR hR2 g10 b1 b2 b3 b4 b5 u3 r3 hr hq hq2
        by_cases hB : (q : Int) < 4294967296
        · have hp : IntKind.u64.wrap ((q : Int) * y0) = (q : Int) * y0 := u64_prod q y0 (by omega) (by omega)
          have hB' : ¬ 4294967296 ≤ (q : Int) := by omega
          by_cases ht : 4294967296 * (r : Int) + v0 < (q : Int) * y0
          · have HT := Lib.hid ((digit_test q y0 r v0).1 ht)
            have q1 : 1 ≤ (q : Int) := by have := digit_pos q y0 r v0 HT.out; omega
            by_cases hb : 4294967296 ≤ (r : Int) + y1
            · go_wp2
              go_meet
              have ⟨a1, a2, a3, a4, a5, a6, a7, a8, a9, a10, a11, a12, a13⟩ := HA.out
              rw [digit_end y1 y0 R1 v0 Y Q2 q r HQ2.out HY.out (by omega) a7 a8 a3 E.out (Or.inr HT.out) (by omega)]
              exact ⟨rfl, rfl⟩
            · go_wp2
              go_round
              case rel =>
                have ⟨a1, a2, a3, a4, a5, a6, a7, a8, a9, a10, a11, a12, a13⟩ := HA.out
                exact digit_next y1 y0 R1 v0 Y Q2 q r HQ2.out HY.out a8 a3 E.out a13 (Or.inr HT.out) (by omega)
              case measure => simp [intOf]; omega
          · have HN := Lib.hid (Nat.le_of_not_lt fun h => ht ((digit_test q y0 r v0).2 h))
            go_wp2
            go_meet
            have ⟨a1, a2, a3, a4, a5, a6, a7, a8, a9, a10, a11, a12, a13⟩ := HA.out
            rw [digit_stop y1 y0 R1 v0 Y Q2 q r HQ2.out HY.out (by omega) E.out a12 HN.out]
            exact ⟨rfl, rfl⟩
        · have hB' : 4294967296 ≤ (q : Int) := by omega
          clear hB
          by_cases hb : 4294967296 ≤ (r : Int) + y1
          · go_wp2
            go_meet
            have ⟨a1, a2, a3, a4, a5, a6, a7, a8, a9, a10, a11, a12, a13⟩ := HA.out
            rw [digit_end y1 y0 R1 v0 Y Q2 q r HQ2.out HY.out (by omega) a7 a8 a3 E.out (Or.inl (by omega)) (by omega)]
            exact ⟨rfl, rfl⟩
          · go_wp2
            go_round
            case rel =>
              have ⟨a1, a2, a3, a4, a5, a6, a7, a8, a9, a10, a11, a12, a13⟩ := HA.out
              exact digit_next y1 y0 R1 v0 Y Q2 q r HQ2.out HY.out a8 a3 E.out a13 (Or.inl (by omega)) (by omega)
            case measure => simp [intOf]; omega
    case rest =>
      obtain ⟨rfl, rfl⟩ := hcut
      have q2 : Q2 < 4294967296 := by rw [← HQ2.out]; exact knuth_lt Y R1 v0 b5 hR
      have q1 := HQB.out
      go_wp2
      simp only [slot_u R1 v0 Q2 Y R0 HN2.out (by omega), slot_shr]
      have F := HF.out Q R1 Q2 R0 HN.out hR HN2.out hR2
      rw [show (Q : Int) * 4294967296 + (Q2 : Int) = (qq : Int) from by have := F.1; omega, F.2]
      go_ret2
      exact ⟨rfl, rfl⟩

theorem div64_zero (lo y : Nat) (hy : 0 < y) (hlo : lo < 18446744073709551616) (w : World) :
    Calls Try.prog 65 #[.int .u64 0, .int .u64 lo, .int .u64 y] w fun e w' => e = .returned (.tuple #[.int .u64 ((lo / y : Nat) : Int), .int .u64 ((lo % y : Nat) : Int)]) ∧ ∃ n, w' = w.drewN n := by
  have t1 : ((y : Int) == 0) = false := by rw [beq_eq_false_iff_ne]; omega
  have t3 : ¬ (y : Int) ≤ 0 := by omega
  have t4 : ¬ y = 0 := by omega
  have e1 := slot_q lo y hlo
  go_enter Try.func65, Try.ntmps65
  go_wp2
  go_quiet (fail)
  go_wp2
  rw [show (lo : Int) / (y : Int) = ((lo / y : Nat) : Int) from by simp, show (lo : Int) % (y : Int) = ((lo % y : Nat) : Int) from by simp]
  go_ret2
  exact ⟨rfl, _, rfl⟩

/-- Div64, for every divisor above the high word. -/
theorem div64_any (hi lo y : Nat) (hy : hi < y) (hlo : lo < 18446744073709551616) (hy2 : y < 18446744073709551616) (w : World) :
    Calls Try.prog 65 #[.int .u64 hi, .int .u64 lo, .int .u64 y] w fun e w' => e = .returned (.tuple #[.int .u64 (((hi * 18446744073709551616 + lo) / y : Nat) : Int), .int .u64 (((hi * 18446744073709551616 + lo) % y : Nat) : Int)]) ∧ ∃ n, w' = w.drewN n := by
  by_cases h : 0 < hi
  · exact (div64_gen hi lo y _ _ rfl rfl hy hlo hy2 h w).mono fun e w' ⟨he, hw⟩ => ⟨he, 0, hw.symm⟩
  · obtain rfl : hi = 0 := by omega
    have k := div64_zero lo y hy hlo w
    simp only [Nat.zero_mul, Nat.zero_add]
    exact k
end Go.Proofs.Ytgkjbmejfcijkaa
