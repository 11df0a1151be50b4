/-
  The contracts of package trig's own functions: the series of a rest up to 45 degrees.
-/
import Derived.Test.YtdngoeabdpeigaaOps
import Derived.Test.YtdngoeabdpeigaaTrigBound
namespace Go.Proofs.Ytdngoeabdpeigaa
open Go.RowKit Go.Shelf

theorem shift60 (a b : Int) (w : World) (ha : I64 a) (hb : I64 b) (hf : I64 (near (a * b) 1152921504606846976)) :
    Calls Try.prog 22 #[.int .i64 a, .int .i64 b, .int .i64 60] w fun e w' => e = .returned (.tuple #[.int .i64 (near (a * b) 1152921504606846976), .bool true]) ∧ Below w.heap.size w w' := by
  have k := mulshift_any a b 60 w ha hb (by omega)
  have e : dot a b 0 0 60 = near (a * b) 1152921504606846976 := by
    unfold dot
    rw [Int.mul_zero, Int.add_zero, show (2 : Nat) ^ 60 = 1152921504606846976 from by decide]
  rw [e, pair_i64 hf] at k
  exact k

theorem by_any (a b : Int) (d : Nat) (w : World) (hd : 0 < d) (hd2 : d ≤ 4611686018427387904) (ha : I64 a) (hb : I64 b) (hf : I64 (near (a * b) d)) :
    Calls Try.prog 21 #[.int .i64 a, .int .i64 b, .int .i64 (d : Int)] w fun e w' => e = .returned (.tuple #[.int .i64 (near (a * b) d), .bool true]) ∧ Below w.heap.size w w' := by
  have k := muldiv_any a b (d : Int) w ha hb (by unfold I64; omega) (by omega)
  have e : muldiv a b (d : Int) = near (a * b) d := by
    unfold muldiv
    rw [if_pos (by omega), Int.natAbs_natCast]
  rw [e, pair_i64 hf] at k
  exact k

theorem next_any (t z : Int) (m : Nat) (w : World) (t0 : 0 ≤ t) (t1 : t ≤ 1152921504606846976) (z0 : 0 ≤ z) (z1 : z ≤ 1152921504606846976) (m0 : 2 ≤ m) (m1 : m ≤ 1000) :
    Calls Try.prog 31 #[.int .i64 t, .int .i64 z, .int .i64 (m : Int)] w fun e w' => e = .returned (.int .i64 (stepN t z m)) ∧ Below w.heap.size w w' := by
  have k := near_le t z t0 z0 z1
  have s := step_half t z 1152921504606846976 m m0 t0 (by omega) z0 z1
  have A := Lib.hid (fun w => shift60 t z w (by unfold I64; omega) (by unfold I64; omega) (by unfold I64; omega))
  unfold stepN at s ⊢
  generalize near (t * z) 1152921504606846976 = y at *
  have B := Lib.hid (fun w => by_any y 1 m w (by omega) (by omega) (by unfold I64; omega) (by unfold I64; omega) (by rw [Int.mul_one]; unfold I64; omega))
  rw [Int.mul_one] at B
  clear k s t0 t1 z0 z1 m0 m1
  go_enter Try.func31, Try.ntmps31
  go_wp2_with fail
  refine (A.out _).mono ?_
  rintro e w1 ⟨rfl, b1⟩
  go_wp2_with fail
  refine (B.out _).mono ?_
  rintro e w2 ⟨rfl, b2⟩
  go_wp2
  go_ret
  exact ⟨rfl, b1.trans (b2.mono b1.size)⟩

/-- What sum's loop keeps. -/
def SeriesInv (f z : Int) (p : Nat) (w : World) (pw tot term sg i : Value) (wr : World) : Prop :=
  ∃ (k : Nat) (x : Int), k ≤ 9 ∧ i = .int .i64 (k : Int) ∧ pw = .int .i64 x ∧ x = (p : Int) + 2 * (k : Int) ∧ tot = .int .i64 (altI (tT f z p) k) ∧ term = .int .i64 (tT f z p k) ∧ sg = .int .i64 (sgnK k) ∧ Below w.heap.size w wr

theorem sgnK_two (k : Nat) : sgnK k = 1 ∨ sgnK k = -1 := by unfold sgnK; split <;> omega

theorem pow_prod (p k : Nat) (x : Int) (hp : p ≤ 1) (hk : k < 9) (hx : x = (p : Int) + 2 * (k : Int)) :
    (((p + 2 * k + 1) * (p + 2 * k + 2) : Nat) : Int) = (x + 2 - 1) * (x + 2) ∧ (p + 2 * k + 1) * (p + 2 * k + 2) ≤ 1000 := by
  constructor
  · subst hx
    rw [Int.natCast_mul]
    congr 1 <;> omega
  · have := Nat.mul_le_mul (show p + 2 * k + 1 ≤ 18 by omega) (show p + 2 * k + 2 ≤ 19 by omega)
    omega

theorem sum_any (f z : Int) (p : Nat) (w : World) (f0 : 0 ≤ f) (f1 : f ≤ 1152921504606846976) (z0 : 0 ≤ z) (z1 : z ≤ 1152921504606846976) (hp : p ≤ 1) :
    Calls Try.prog 23 #[.int .i64 f, .int .i64 z, .int .i64 (p : Int)] w fun e w' => e = .returned (.int .i64 (altI (tT f z p) 9)) ∧ Below w.heap.size w w' := by
  have T := Lib.hid (tT_fits f z p f0 f1 z0 z1)
  go_enter Try.func23, Try.ntmps23
  go_wp2_with fail
  go_loopw [2, 7, 8, 9, 12] (fun pw tot term sg i wr => SeriesInv f z p w pw tot term sg i wr) (fun _ _ _ _ i _ => 9 - (intOf i).toNat)
  case atStart => exact ⟨0, p, by omega, rfl, rfl, by omega, rfl, rfl, rfl, Below.refl _ _⟩
  case round =>
    obtain ⟨k, x, hk, rfl, rfl, hx, rfl, rfl, rfl, hB⟩ := hrel
    by_cases hlt : k < 9
    · have P := pow_prod p k x hp hlt hx
      have t1 := (T.out k hk).1
      have t2 := (T.out k hk).2
      have t3 := (T.out (k + 1) hlt).1
      have t4 := (T.out (k + 1) hlt).2
      have e3 : stepN (tT f z p k) z ((p + 2 * k + 1) * (p + 2 * k + 2)) = tT f z p (k + 1) := rfl
      have N := Lib.hid (fun w => next_any (tT f z p k) z _ w t1.1 t1.2 z0 z1 (two_mul p k) P.2)
      rw [e3, P.1] at N
      have S := Lib.hid (altI_sgn (tT f z p) k)
      have S1 := sgnK_succ k
      have S2 := Lib.hid (sgnK_succ k)
      have x0 : 0 ≤ x := by omega
      have x1 : x ≤ 17 := by omega
      have HX := Lib.hid hx
      have P1 := P.1
      have P2 := P.2
      have hm : (x + 2 - 1) * (x + 2) ≤ 1000 := by omega
      have hm0 : 0 ≤ (x + 2 - 1) * (x + 2) := by omega
      rw [altI_sgn, S1] at t4
      have hB' := hB
      clear P P1 P2 e3 f0 f1 z0 z1 t1 hx S1
      generalize ha : tT f z p k = a at *
      generalize hb : tT f z p (k + 1) = b at *
      generalize hc : altI (tT f z p) k = c at *
      rcases sgnK_two k with hs | hs
      all_goals
        rw [hs] at t4
        generalize hd : sgnK k = s at *
        subst hs
        go_wp2_with fail
        refine (N.out _).mono ?_
        rintro e w1 ⟨rfl, b1⟩
        go_wp2_with fail
        go_roundw
        case rel => exact ⟨k + 1, x + 2, hlt, by go_num, rfl, by have := HX.out; omega, congrArg (Value.int .i64) (by have h1 := S.out; rw [S2.out] at h1; omega), by rw [hb], congrArg (Value.int .i64) (by have := S2.out; omega), hB'.trans (b1.mono hB'.size)⟩
        case measure => simp [intOf]; omega
    · obtain rfl : k = 9 := by omega
      clear T f0 f1 z0 z1
      go_wp2_with fail
      go_ret
      exact ⟨rfl, hB⟩

/-- The series of a rest up to 45 degrees, with 60 places. -/
theorem series_any (r : Int) (w : World) (r0 : 0 ≤ r) (r1 : r ≤ 2949120) :
    Calls Try.prog 18 #[.int .i64 r] w fun e w' => e = .returned (.tuple #[.int .i64 (altI (aT (serX r) (serZ (serX r))) 9), .int .i64 (altI (bT (serZ (serX r))) 9)]) ∧ Below w.heap.size w w' := by
  have x := serX_bound r r0 r1
  have z := serZ_bound (serX r) x.1 x.2
  have A := Lib.hid (fun w => by_any r 3622009729038561421 11796480 w (by decide) (by decide) (by unfold I64; omega) (by unfold I64; omega) (by show I64 (serX r); unfold I64; omega))
  have B := Lib.hid (fun w => shift60 (serX r) (serX r) w (by unfold I64; omega) (by unfold I64; omega) (by show I64 (serZ (serX r)); unfold I64; omega))
  have C := Lib.hid (fun w => sum_any (serX r) (serZ (serX r)) 1 w x.1 x.2 z.1 z.2 (by decide))
  have D := Lib.hid (fun w => sum_any 1152921504606846976 (serZ (serX r)) 0 w (by decide) (by decide) z.1 z.2 (by decide))
  rw [show tT (serX r) (serZ (serX r)) 1 = aT (serX r) (serZ (serX r)) from funext (tT_a _ _)] at C
  rw [show tT 1152921504606846976 (serZ (serX r)) 0 = bT (serZ (serX r)) from funext (tT_b _)] at D
  rw [show near (r * 3622009729038561421) 11796480 = serX r from rfl] at A
  rw [show near (serX r * serX r) 1152921504606846976 = serZ (serX r) from rfl] at B
  generalize serX r = X at *
  generalize serZ X = Z at *
  generalize altI (aT X Z) 9 = S at *
  generalize altI (bT Z) 9 = T at *
  clear x z r0 r1
  go_enter Try.func18, Try.ntmps18
  go_wp2_with fail
  refine (A.out _).mono ?_
  rintro e w1 ⟨rfl, b1⟩
  go_wp2_with fail
  refine (B.out _).mono ?_
  rintro e w2 ⟨rfl, b2⟩
  go_wp2_with fail
  refine (C.out _).mono ?_
  rintro e w3 ⟨rfl, b3⟩
  go_wp2_with fail
  refine (D.out _).mono ?_
  rintro e w4 ⟨rfl, b4⟩
  go_wp2_with fail
  go_ret2
  have s1 := b1.size; have s2 := b2.size; have s3 := b3.size
  exact ⟨rfl, ((b1.trans (b2.mono s1)).trans (b3.mono (by omega))).trans (b4.mono (by omega))⟩

theorem brought_any (v : Int) (w : World) (v0 : -2305843009213693952 ≤ v) (v1 : v ≤ 2305843009213693952) :
    Calls Try.prog 19 #[.int .i64 v] w fun e w' => e = .returned (.int .i64 (near v 1073741824)) ∧ Below w.heap.size w w' := by
  have e : near (v * 1073741824) 1152921504606846976 = near v 1073741824 := by unfold near; omega
  have f : I64 (near v 1073741824) := by unfold near I64; omega
  have A := Lib.hid (fun w => shift60 v 1073741824 w (by unfold I64; omega) (by unfold I64; omega) (by rw [e]; exact f))
  rw [e] at A
  generalize near v 1073741824 = y at *
  clear e f v0 v1
  go_enter Try.func19, Try.ntmps19
  go_wp2_with fail
  refine (A.out _).mono ?_
  rintro e w1 ⟨rfl, b1⟩
  go_wp2
  go_ret
  exact ⟨rfl, b1⟩

theorem ser_bound (r : Int) (r0 : 0 ≤ r) (r1 : r ≤ 2949120) : (-2305843009213693952 ≤ altI (aT (serX r) (serZ (serX r))) 9 ∧ altI (aT (serX r) (serZ (serX r))) 9 ≤ 2305843009213693952) ∧ (-2305843009213693952 ≤ altI (bT (serZ (serX r))) 9 ∧ altI (bT (serZ (serX r))) 9 ≤ 2305843009213693952) := by
  have x := serX_bound r r0 r1
  have z := serZ_bound (serX r) x.1 x.2
  have a := (tT_fits (serX r) (serZ (serX r)) 1 x.1 x.2 z.1 z.2 9 (by decide)).2
  have b := (tT_fits 1152921504606846976 (serZ (serX r)) 0 (by decide) (by decide) z.1 z.2 9 (by decide)).2
  rw [show tT (serX r) (serZ (serX r)) 1 = aT (serX r) (serZ (serX r)) from funext (tT_a _ _)] at a
  rw [show tT 1152921504606846976 (serZ (serX r)) 0 = bT (serZ (serX r)) from funext (tT_b _)] at b
  exact ⟨a, b⟩

/-- Sine and cosine of a rest up to 45 degrees. -/
theorem ofRest_low (r : Int) (w : World) (r0 : 0 ≤ r) (r1 : r ≤ 2949120) :
    Calls Try.prog 15 #[.int .i64 r] w fun e w' => e = .returned (.tuple #[.int .i64 (serS r), .int .i64 (serC r)]) ∧ Below w.heap.size w w' := by
  have b := ser_bound r r0 r1
  have A := Lib.hid (fun w => series_any r w r0 r1)
  unfold serS serC
  generalize altI (aT (serX r) (serZ (serX r))) 9 = S at *
  generalize altI (bT (serZ (serX r))) 9 = T at *
  have B := Lib.hid (fun w => brought_any S w b.1.1 b.1.2)
  have C := Lib.hid (fun w => brought_any T w b.2.1 b.2.2)
  have hr : ¬ 2949120 < r := by omega
  clear b r0 r1
  go_enter Try.func15, Try.ntmps15
  go_wp2_with fail
  refine (A.out _).mono ?_
  rintro e w1 ⟨rfl, b1⟩
  go_wp2_with fail
  refine (B.out _).mono ?_
  rintro e w2 ⟨rfl, b2⟩
  go_wp2_with fail
  refine (C.out _).mono ?_
  rintro e w3 ⟨rfl, b3⟩
  go_wp2_with fail
  go_ret2
  have s1 := b1.size; have s2 := b2.size
  exact ⟨rfl, (b1.trans (b2.mono s1)).trans (b3.mono (by omega))⟩

/-- Of any rest. -/
theorem ofRest_any (r : Int) (w : World) (r0 : 0 ≤ r) (r1 : r ≤ 5898240) :
    Calls Try.prog 15 #[.int .i64 r] w fun e w' => e = .returned (.tuple #[.int .i64 (restS r), .int .i64 (restC r)]) ∧ Below w.heap.size w w' := by
  unfold restS restC
  by_cases h : r ≤ 2949120
  · rw [if_pos h, if_pos h]
    exact ofRest_low r w r0 h
  · rw [if_neg h, if_neg h]
    have A := Lib.hid (fun w => ofRest_low (5898240 - r) w (by omega) (by omega))
    generalize serS (5898240 - r) = S at *
    generalize serC (5898240 - r) = T at *
    have hr : 2949120 < r := by omega
    clear h
    go_enter Try.func15, Try.ntmps15
    go_wp2_with fail
    refine (A.out _).mono ?_
    rintro e w1 ⟨rfl, b1⟩
    go_wp2_with fail
    go_ret2
    exact ⟨rfl, b1⟩
end Go.Proofs.Ytdngoeabdpeigaa
