/- Joined: Math. -/
import Derived.Lib.BitFns
namespace Go.Proofs.YtbjabclgekkpaaaGreatDoor
theorem knuth_init (y1 y0 u32 u1 : Nat) (hy1 : 0 < y1) (hu1 : u1 < 4294967296) : (u32 * 4294967296 + u1) / (y1 * 4294967296 + y0) ≤ u32 / y1 := by
  have h1 : (u32 * 4294967296 + u1) / (y1 * 4294967296 + y0) ≤ (u32 * 4294967296 + u1) / (4294967296 * y1) := Nat.div_le_div_left (by omega) (by omega)
  rw [← Nat.div_div_eq_div_mul, show (u32 * 4294967296 + u1) / 4294967296 = u32 from by omega] at h1
  exact h1
theorem knuth_lt (y u32 u1 : Nat) (hu1 : u1 < 4294967296) (hu : u32 < y) : (u32 * 4294967296 + u1) / y < 4294967296 := by
  rw [Nat.div_lt_iff_lt_mul (by omega)]
  omega
theorem knuth_mul (q y1 y0 : Nat) : q * (y1 * 4294967296 + y0) = q * y1 * 4294967296 + q * y0 := by
  rw [Nat.mul_add, Nat.mul_assoc]
/-- The test says that the digit is too great: then it goes down by one. -/
theorem knuth_down (y1 y0 u32 u1 q r : Nat) (hu1 : u1 < 4294967296) (hu : u32 < y1 * 4294967296 + y0) (e : q * y1 + r = u32)
    (t : 4294967296 ≤ q ∨ 4294967296 * r + u1 < q * y0) : (u32 * 4294967296 + u1) / (y1 * 4294967296 + y0) < q := by
  rcases t with t | t
  · exact Nat.lt_of_lt_of_le (knuth_lt _ _ _ hu1 hu) t
  · rw [Nat.div_lt_iff_lt_mul (by omega), knuth_mul]
    subst e
    generalize q * y1 = a at *
    generalize q * y0 = c at *
    omega
theorem knuth_stop (y1 y0 u32 u1 q r : Nat) (hy1 : 0 < y1) (e : q * y1 + r = u32) (t : q * y0 ≤ 4294967296 * r + u1) : q ≤ (u32 * 4294967296 + u1) / (y1 * 4294967296 + y0) := by
  rw [Nat.le_div_iff_mul_le (by omega), knuth_mul]
  subst e
  generalize q * y1 = a at *
  generalize q * y0 = c at *
  omega
theorem knuth_q_lt (y1 y0 u32 q r : Nat) (hy0 : y0 < 4294967296) (hu : u32 < y1 * 4294967296 + y0) (e : q * y1 + r = u32) (hr : 4294967296 ≤ r) : q < 4294967296 := by
  refine Nat.lt_of_not_le fun h => ?_
  have := Nat.mul_le_mul_right y1 h
  omega
theorem knuth_break (y1 y0 u32 u1 q r : Nat) (hy1 : 0 < y1) (hy0 : y0 < 4294967296) (hu : u32 < y1 * 4294967296 + y0) (e : q * y1 + r = u32) (hr : 4294967296 ≤ r) :
    q ≤ (u32 * 4294967296 + u1) / (y1 * 4294967296 + y0) := by
  have hq := knuth_q_lt y1 y0 u32 q r hy0 hu e hr
  have hm : q * y0 ≤ 4294967295 * 4294967295 := Nat.mul_le_mul (by omega) (by omega)
  exact knuth_stop y1 y0 u32 u1 q r hy1 e (by omega)
/-- The first guess of the digit is at most 2^32 + 1. -/
theorem knuth_guess (y1 y0 u32 : Nat) (hy1 : 2147483648 ≤ y1) (hy0 : y0 < 4294967296) (hu : u32 < y1 * 4294967296 + y0) : u32 / y1 ≤ 4294967297 := by
  have : u32 / y1 < 4294967298 := by
    rw [Nat.div_lt_iff_lt_mul (by omega)]
    omega
  omega
theorem div_two (A B0 Y : Nat) : A / Y * 4294967296 + (A % Y * 4294967296 + B0) / Y = (A * 4294967296 + B0) / Y ∧ (A % Y * 4294967296 + B0) % Y = (A * 4294967296 + B0) % Y := by
  rcases Nat.eq_zero_or_pos Y with h | h
  · subst h; simp
  · have e : A * 4294967296 + B0 = Y * (A / Y * 4294967296) + (A % Y * 4294967296 + B0) := by
      have := Nat.div_add_mod A Y
      rw [← Nat.mul_assoc]
      generalize Y * (A / Y) = k at *
      omega
    rw [e, Nat.mul_add_div h, Nat.mul_add_mod]
    exact ⟨rfl, rfl⟩
/-- The words of a number that is shifted up by s. -/
theorem shift_words (hi lo s : Nat) (hs : s ≤ 63) :
    (hi * 2 ^ s + lo / 2 ^ (64 - s)) * 18446744073709551616 + lo * 2 ^ s % 18446744073709551616 = (hi * 18446744073709551616 + lo) * 2 ^ s := by
  have e : lo / 2 ^ (64 - s) = lo * 2 ^ s / 18446744073709551616 := by
    rw [show (18446744073709551616 : Nat) = 2 ^ (64 - s) * 2 ^ s from by rw [← Nat.pow_add, show 64 - s + s = 64 from by omega], Nat.mul_div_mul_right _ _ (Nat.two_pow_pos s)]
  rw [e, Nat.add_mul, Nat.add_mul, Nat.mul_right_comm hi]
  have := Nat.div_add_mod (lo * 2 ^ s) 18446744073709551616
  omega
theorem div_whole (hi lo y s : Nat) (hs : s ≤ 63) (Y U32 U10 : Nat) (hY : Y = y * 2 ^ s) (h32 : U32 = hi * 2 ^ s + lo / 2 ^ (64 - s)) (h10 : U10 = lo * 2 ^ s % 18446744073709551616) :
    (U32 * 4294967296 + U10 / 4294967296) / Y * 4294967296 + ((U32 * 4294967296 + U10 / 4294967296) % Y * 4294967296 + U10 % 4294967296) / Y = (hi * 18446744073709551616 + lo) / y ∧
    ((U32 * 4294967296 + U10 / 4294967296) % Y * 4294967296 + U10 % 4294967296) % Y / 2 ^ s = (hi * 18446744073709551616 + lo) % y := by
  have k := div_two (U32 * 4294967296 + U10 / 4294967296) (U10 % 4294967296) Y
  have e : (U32 * 4294967296 + U10 / 4294967296) * 4294967296 + U10 % 4294967296 = (hi * 18446744073709551616 + lo) * 2 ^ s := by
    rw [← shift_words hi lo s hs, ← h32, ← h10]; omega
  rw [k.1, k.2, e, hY, Nat.mul_div_mul_right _ _ (Nat.two_pow_pos s), Nat.mul_mod_mul_right, Nat.mul_div_cancel _ (Nat.two_pow_pos s)]
  exact ⟨rfl, rfl⟩
/-- The two digits, and what is left of each, make the quotient and the remainder. -/
theorem div_digits (hi lo y s : Nat) (hs : s ≤ 63) (Y U32 U10 : Nat) (hY : Y = y * 2 ^ s) (h32 : U32 = hi * 2 ^ s + lo / 2 ^ (64 - s)) (h10 : U10 = lo * 2 ^ s % 18446744073709551616) :
    ∀ q1 R1 q0 R0 : Nat, U32 * 4294967296 + U10 / 4294967296 = q1 * Y + R1 → R1 < Y → R1 * 4294967296 + U10 % 4294967296 = q0 * Y + R0 → R0 < Y →
      q1 * 4294967296 + q0 = (hi * 18446744073709551616 + lo) / y ∧ R0 / 2 ^ s = (hi * 18446744073709551616 + lo) % y := by
  intro q1 R1 q0 R0 e1 l1 e0 l0
  have k := div_whole hi lo y s hs Y U32 U10 hY h32 h10
  have p : 0 < Y := Nat.lt_of_le_of_lt (Nat.zero_le _) l1
  have d1 : (U32 * 4294967296 + U10 / 4294967296) / Y = q1 := by rw [e1, Nat.mul_comm, Nat.mul_add_div p, Nat.div_eq_of_lt l1]; rfl
  have m1 : (U32 * 4294967296 + U10 / 4294967296) % Y = R1 := by rw [e1, Nat.mul_comm, Nat.mul_add_mod, Nat.mod_eq_of_lt l1]
  rw [d1, m1] at k
  have d0 : (R1 * 4294967296 + U10 % 4294967296) / Y = q0 := by rw [e0, Nat.mul_comm, Nat.mul_add_div p, Nat.div_eq_of_lt l0]; rfl
  have m0 : (R1 * 4294967296 + U10 % 4294967296) % Y = R0 := by rw [e0, Nat.mul_comm, Nat.mul_add_mod, Nat.mod_eq_of_lt l0]
  rw [d0, m0] at k
  exact k
/-- A number by a divisor: quotient and rest, under names. -/
theorem div_names (N Y : Nat) (h : 0 < Y) : ∃ q R, N / Y = q ∧ N = q * Y + R ∧ R < Y := ⟨N / Y, N % Y, rfl, (Nat.div_add_mod' _ _).symm, Nat.mod_lt _ h⟩
/-- A number of two words by one word: the high word's quotient, then the low one's. -/
theorem div_words (H L d : Nat) (hd : 0 < d) (hL : L < 18446744073709551616) :
    (H * 18446744073709551616 + L) / d = H / d * 18446744073709551616 + (H % d * 18446744073709551616 + L) / d ∧ (H % d * 18446744073709551616 + L) / d < 18446744073709551616 := by
  have e : H * 18446744073709551616 + L = d * (H / d * 18446744073709551616) + (H % d * 18446744073709551616 + L) := by
    have := Nat.div_add_mod H d
    rw [← Nat.mul_assoc]
    generalize d * (H / d) = k at *
    omega
  refine ⟨by rw [e, Nat.mul_add_div hd], ?_⟩
  rw [Nat.div_lt_iff_lt_mul hd]
  have := Nat.mod_lt H hd
  omega
theorem bitLen_pos (x : Nat) (h0 : 0 < x) (h : x < 2 ^ 64) : 1 ≤ Lib.bitLen x := by
  rw [Lib.bitLen_half x (by omega) h]; omega
theorem bitLen_up (x : Nat) (h : x < 2 ^ 64) : x < 2 ^ Lib.bitLen x := by
  refine Nat.lt_of_not_le fun hk => ?_
  have e := Lib.bitLen_shift (Lib.bitLen x) x hk h
  have p : 1 ≤ x / 2 ^ Lib.bitLen x := (Nat.le_div_iff_mul_le (Nat.two_pow_pos _)).2 (by omega)
  have q := bitLen_pos (x / 2 ^ Lib.bitLen x) p (Nat.lt_of_le_of_lt (Nat.div_le_self _ _) h)
  omega
theorem bitLen_lo (x : Nat) (h0 : 0 < x) (h : x < 2 ^ 64) : 2 ^ (Lib.bitLen x - 1) ≤ x := by
  refine Nat.le_of_not_lt fun hk => ?_
  have l := Lib.bitLen_le x 64 (Nat.le_refl _) h
  have p := bitLen_pos x h0 h
  have e := Lib.bitLen_le x (Lib.bitLen x - 1) (by omega) hk
  omega
/-- A divisor that is shifted up as far as it goes: its top bit is set. -/
theorem norm_y (y : Nat) (h0 : 0 < y) (h : y < 18446744073709551616) : 64 - Lib.bitLen y ≤ 63 ∧ 9223372036854775808 ≤ y * 2 ^ (64 - Lib.bitLen y) ∧ y * 2 ^ (64 - Lib.bitLen y) < 18446744073709551616 := by
  have l := Lib.bitLen_le y 64 (Nat.le_refl _) h
  have p := bitLen_pos y h0 h
  have u := bitLen_up y h
  have d := bitLen_lo y h0 h
  refine ⟨by omega, ?_, ?_⟩
  · have := Nat.mul_le_mul_right (2 ^ (64 - Lib.bitLen y)) d
    rw [← Nat.pow_add, show Lib.bitLen y - 1 + (64 - Lib.bitLen y) = 63 from by omega] at this
    exact this
  · have := Nat.mul_lt_mul_of_pos_right u (Nat.two_pow_pos (64 - Lib.bitLen y))
    rw [← Nat.pow_add, show Lib.bitLen y + (64 - Lib.bitLen y) = 64 from by omega] at this
    exact this
/-- The dividend's high words, shifted up, lie below the divisor's. -/
theorem norm_u (hi lo y s : Nat) (hy : hi < y) (hlo : lo < 18446744073709551616) (hs : s ≤ 63) : hi * 2 ^ s + lo / 2 ^ (64 - s) < y * 2 ^ s ∧ lo / 2 ^ (64 - s) < 2 ^ s := by
  have h1 : lo / 2 ^ (64 - s) < 2 ^ s := by
    rw [Nat.div_lt_iff_lt_mul (Nat.two_pow_pos _), ← Nat.pow_add, show s + (64 - s) = 64 from by omega]
    exact hlo
  have h2 := Nat.mul_le_mul_right (2 ^ s) (Nat.succ_le_of_lt hy)
  rw [Nat.succ_mul] at h2
  exact ⟨by omega, h1⟩
theorem or_add (a b s : Nat) (hb : b < 2 ^ s) : a * 2 ^ s ||| b = a * 2 ^ s + b := by
  rw [Nat.mul_comm, Nat.two_pow_add_eq_or_of_lt hb]
end Go.Proofs.YtbjabclgekkpaaaGreatDoor
