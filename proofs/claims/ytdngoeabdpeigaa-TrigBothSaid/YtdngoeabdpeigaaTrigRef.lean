/-
  The contracts of the document's answers for layer 3: Series, Turn and Both.
-/
import Derived.Test.YtdngoeabdpeigaaRefMulDiv
import Derived.Test.YtdngoeabdpeigaaTrigCalls
namespace Go.Proofs.Ytdngoeabdpeigaa
open Go.RowKit Go.Shelf

theorem rnear_any (a b : Int) (d : Nat) (w : World) (hd : 0 < d) (hd2 : d ≤ 4611686018427387904) (ha : I64 a) (hb : I64 b) (hf : I64 (near (a * b) d)) :
    Calls Try.prog 20 #[.int .i64 a, .int .i64 b, .int .i64 (d : Int)] w fun e w' => e = .returned (.int .i64 (near (a * b) d)) ∧ Below w.heap.size w w' := by
  have A := Lib.hid (fun w => refmuldiv_any a b (d : Int) w ha hb (by unfold I64; omega) (by omega))
  have e : muldiv a b (d : Int) = near (a * b) d := by
    unfold muldiv
    rw [if_pos (by omega), Int.natAbs_natCast]
  rw [e, pair_i64 hf] at A
  generalize near (a * b) d = y at *
  clear e hd hd2 ha hb hf
  go_enter Try.func20, Try.ntmps20
  go_wp2_with fail
  refine (A.out _).mono ?_
  rintro e w1 ⟨rfl, b1⟩
  go_wp2
  go_ret
  exact ⟨rfl, b1⟩

/-- What Series' loop keeps. -/
def RefInv (x z : Int) (w : World) (s c a b k : Value) (wr : World) : Prop :=
  ∃ (j : Nat) (K : Int), j ≤ 9 ∧ K = (j : Int) + 1 ∧ k = .int .i64 K ∧ s = .int .i64 (altI (aT x z) j) ∧ c = .int .i64 (altI (bT z) j) ∧ a = .int .i64 (aT x z j) ∧ b = .int .i64 (bT z j) ∧ Below w.heap.size w wr

theorem aT_fits (x z : Int) (x0 : 0 ≤ x) (x1 : x ≤ 1152921504606846976) (z0 : 0 ≤ z) (z1 : z ≤ 1152921504606846976) (k : Nat) (hk : k ≤ 9) :
    (0 ≤ aT x z k ∧ aT x z k ≤ 1152921504606846976) ∧ (-2305843009213693952 ≤ altI (aT x z) k ∧ altI (aT x z) k ≤ 2305843009213693952) := by
  have a := tT_fits x z 1 x0 x1 z0 z1 k hk
  rw [show tT x z 1 = aT x z from funext (tT_a _ _)] at a
  exact a
theorem bT_fits (z : Int) (z0 : 0 ≤ z) (z1 : z ≤ 1152921504606846976) (k : Nat) (hk : k ≤ 9) :
    (0 ≤ bT z k ∧ bT z k ≤ 1152921504606846976) ∧ (-2305843009213693952 ≤ altI (bT z) k ∧ altI (bT z) k ≤ 2305843009213693952) := by
  have a := tT_fits 1152921504606846976 z 0 (by decide) (by decide) z0 z1 k hk
  rw [show tT 1152921504606846976 z 0 = bT z from funext (tT_b _)] at a
  exact a

theorem ref_prod (j : Nat) (hj : j < 9) : (2 ≤ (2 * j + 2) * (2 * j + 3) ∧ (2 * j + 2) * (2 * j + 3) ≤ 1000) ∧ (2 ≤ (2 * j + 1) * (2 * j + 2) ∧ (2 * j + 1) * (2 * j + 2) ≤ 1000) ∧
    (∀ K : Int, K = (j : Int) + 1 → (((2 * j + 2) * (2 * j + 3) : Nat) : Int) = 2 * K * (2 * K + 1)) ∧ (∀ K : Int, K = (j : Int) + 1 → (((2 * j + 1) * (2 * j + 2) : Nat) : Int) = 2 * K * (2 * K - 1)) := by
  have h1 := Nat.mul_le_mul (show 2 * j + 2 ≤ 18 by omega) (show 2 * j + 3 ≤ 19 by omega)
  have h2 := Nat.mul_le_mul (show 2 * j + 1 ≤ 17 by omega) (show 2 * j + 2 ≤ 18 by omega)
  have h3 := Nat.mul_le_mul (show 2 ≤ 2 * j + 2 by omega) (show 1 ≤ 2 * j + 3 by omega)
  have h4 := Nat.mul_le_mul (show 1 ≤ 2 * j + 1 by omega) (show 2 ≤ 2 * j + 2 by omega)
  refine ⟨by omega, by omega, ?_, ?_⟩
  · rintro K rfl
    rw [Int.natCast_mul]
    congr 1 <;> omega
  · rintro K rfl
    rw [Int.natCast_mul, Int.mul_comm]
    congr 1 <;> omega

theorem ref_next (X Z : Int) (w w4 : World) (j : Nat) {s c a' b' u v k : Int} (ha' : aT X Z (j + 1) = a') (hb' : bT Z (j + 1) = b')
    (h1 : altI (aT X Z) (j + 1) = s + sgnK (j + 1) * a') (h2 : altI (bT Z) (j + 1) = c + sgnK (j + 1) * b') (hB : Below w.heap.size w w4) (hj : j < 9)
    (hk : k = (j : Int) + 2) (hu : u = s + sgnK (j + 1) * a') (hv : v = c + sgnK (j + 1) * b') :
    RefInv X Z w (.int .i64 u) (.int .i64 v) (.int .i64 a') (.int .i64 b') (.int .i64 k) w4 :=
  ⟨j + 1, k, hj, by omega, rfl, by rw [hu, h1], by rw [hv, h2], by rw [ha'], by rw [hb'], hB⟩

set_option maxHeartbeats 4000000 in
theorem Series_any (r : Int) (w : World) (r0 : 0 ≤ r) (r1 : r ≤ 2949120) :
    Calls Try.prog 17 #[.int .i64 r] w fun e w' => e = .returned (.tuple #[.int .i64 (serS r), .int .i64 (serC r)]) ∧ Below w.heap.size w w' := by
  have x := serX_bound r r0 r1
  have z := serZ_bound (serX r) x.1 x.2
  have A := Lib.hid (fun w => rnear_any r 3622009729038561421 11796480 w (by decide) (by decide) (by unfold I64; omega) (by unfold I64; omega) (by show I64 (serX r); unfold I64; omega))
  have B := Lib.hid (fun w => rnear_any (serX r) (serX r) 1152921504606846976 w (by decide) (by decide) (by unfold I64; omega) (by unfold I64; omega) (by show I64 (serZ (serX r)); unfold I64; omega))
  rw [show near (r * 3622009729038561421) 11796480 = serX r from rfl] at A
  rw [show near (serX r * serX r) 1152921504606846976 = serZ (serX r) from rfl] at B
  unfold serS serC
  generalize serX r = X at *
  generalize serZ X = Z at *
  have TA := Lib.hid (aT_fits X Z x.1 x.2 z.1 z.2)
  have TB := Lib.hid (bT_fits Z z.1 z.2)
  go_enter Try.func17, Try.ntmps17
  go_wp2_with fail
  refine (A.out _).mono ?_
  rintro e w1 ⟨rfl, b1⟩
  go_wp2_with fail
  refine (B.out _).mono ?_
  rintro e w2 ⟨rfl, b2⟩
  go_wp2_with fail
  have B12 := Lib.hid (b1.trans (b2.mono b1.size))
  clear A B b1 b2
  go_loopw [6, 7, 8, 9, 10] (fun s c a b k wr => RefInv X Z w s c a b k wr) (fun _ _ _ _ k _ => 10 - (intOf k).toNat)
  case atStart => exact ⟨0, 1, by omega, by omega, rfl, rfl, rfl, rfl, rfl, B12.out⟩
  case round =>
    obtain ⟨j, K, hj, hK, rfl, rfl, rfl, rfl, rfl, hB⟩ := hrel
    by_cases hlt : j < 9
    · have a1 := (TA.out j hj).1
      have a2 := (TA.out j hj).2
      have a3 := (TA.out (j + 1) hlt).1
      have a4 := (TB.out j hj).1
      have a5 := (TB.out j hj).2
      have a6 := (TB.out (j + 1) hlt).1
      have l1 := near_le (aT X Z j) Z a1.1 z.1 z.2
      have l2 := near_le (bT Z j) Z a4.1 z.1 z.2
      have m1 := ref_prod j hlt
      have N1 := Lib.hid (fun w => rnear_any (aT X Z j) Z 1152921504606846976 w (by decide) (by decide) (by unfold I64; omega) (by unfold I64; omega) (by unfold I64; omega))
      have N3 := Lib.hid (fun w => rnear_any (bT Z j) Z 1152921504606846976 w (by decide) (by decide) (by unfold I64; omega) (by unfold I64; omega) (by unfold I64; omega))
      have N2 := fun w => rnear_any (near (aT X Z j * Z) 1152921504606846976) 1 ((2 * j + 2) * (2 * j + 3)) w (by omega) (by omega) (by unfold I64; omega) (by unfold I64; omega) (by rw [Int.mul_one]; show I64 (aT X Z (j + 1)); unfold I64; omega)
      have N4 := fun w => rnear_any (near (bT Z j * Z) 1152921504606846976) 1 ((2 * j + 1) * (2 * j + 2)) w (by omega) (by omega) (by unfold I64; omega) (by unfold I64; omega) (by rw [Int.mul_one]; show I64 (bT Z (j + 1)); unfold I64; omega)
      rw [Int.mul_one, show near (near (aT X Z j * Z) 1152921504606846976) ((2 * j + 2) * (2 * j + 3)) = aT X Z (j + 1) from rfl, m1.2.2.1 K hK] at N2
      rw [Int.mul_one, show near (near (bT Z j * Z) 1152921504606846976) ((2 * j + 1) * (2 * j + 2)) = bT Z (j + 1) from rfl, m1.2.2.2 K hK] at N4
      replace N2 := Lib.hid N2
      replace N4 := Lib.hid N4
      have S1 := Lib.hid (altI_sgn (aT X Z) j)
      have S2 := Lib.hid (altI_sgn (bT Z) j)
      have HB := Lib.hid hB
      clear hB m1 hj x z r0 r1
      generalize near (aT X Z j * Z) 1152921504606846976 = y1 at *
      generalize near (bT Z j * Z) 1152921504606846976 = y2 at *
      generalize ha : aT X Z j = a at *
      generalize hb : bT Z j = b at *
      generalize ha' : aT X Z (j + 1) = a' at *
      generalize hb' : bT Z (j + 1) = b' at *
      generalize hs : altI (aT X Z) j = s at *
      generalize hc : altI (bT Z) j = c at *
      have hj9 : (j = 0 ∧ K = 1) ∨ (j = 1 ∧ K = 2) ∨ (j = 2 ∧ K = 3) ∨ (j = 3 ∧ K = 4) ∨ (j = 4 ∧ K = 5) ∨ (j = 5 ∧ K = 6) ∨ (j = 6 ∧ K = 7) ∨ (j = 7 ∧ K = 8) ∨ (j = 8 ∧ K = 9) := by omega
      clear hK hlt
      rcases hj9 with ⟨rfl, rfl⟩ | ⟨rfl, rfl⟩ | ⟨rfl, rfl⟩ | ⟨rfl, rfl⟩ | ⟨rfl, rfl⟩ | ⟨rfl, rfl⟩ | ⟨rfl, rfl⟩ | ⟨rfl, rfl⟩ | ⟨rfl, rfl⟩
      all_goals
        simp only [Int.reduceMul, Int.reduceAdd, Int.reduceSub] at N2 N4
        go_wp2_with fail
        refine (N1.out _).mono ?_
        rintro e w1 ⟨rfl, b1⟩
        go_wp2_with fail
        refine (N2.out _).mono ?_
        rintro e w2 ⟨rfl, b2⟩
        go_wp2_with fail
        refine (N3.out _).mono ?_
        rintro e w3 ⟨rfl, b3⟩
        go_wp2_with fail
        refine (N4.out _).mono ?_
        rintro e w4 ⟨rfl, b4⟩
        go_wp2_with fail
        go_roundw
        case rel =>
          have h1 := S1.out
          have h2 := S2.out
          have s1 := b1.size; have s2 := b2.size; have s3 := b3.size; have s0 := HB.out.size
          exact ref_next X Z w w4 _ ha' hb' h1 h2 ((((HB.out.trans (b1.mono s0)).trans (b2.mono (by omega))).trans (b3.mono (by omega))).trans (b4.mono (by omega))) (by decide) (by decide) (by simp [sgnK]; try omega) (by simp [sgnK]; try omega)
        case measure => decide
    · obtain rfl : j = 9 := by omega
      obtain rfl : K = 10 := by omega
      have a2 := (TA.out 9 hj).2
      have a5 := (TB.out 9 hj).2
      have N1 := Lib.hid (fun w => rnear_any (altI (aT X Z) 9) 1 1073741824 w (by decide) (by decide) (by unfold I64; omega) (by unfold I64; omega) (by rw [Int.mul_one]; unfold near I64; omega))
      have N2 := Lib.hid (fun w => rnear_any (altI (bT Z) 9) 1 1073741824 w (by decide) (by decide) (by unfold I64; omega) (by unfold I64; omega) (by rw [Int.mul_one]; unfold near I64; omega))
      rw [Int.mul_one] at N1 N2
      have HB := Lib.hid hB
      clear hB hj x z r0 r1 TA TB a2 a5 hlt hK
      go_wp2_with fail
      refine (N1.out _).mono ?_
      rintro e w1 ⟨rfl, b1⟩
      go_wp2_with fail
      refine (N2.out _).mono ?_
      rintro e w2 ⟨rfl, b2⟩
      go_wp2_with fail
      go_ret2
      have s0 := HB.out.size; have s1 := b1.size
      exact ⟨rfl, (HB.out.trans (b1.mono s0)).trans (b2.mono (by omega))⟩
end Go.Proofs.Ytdngoeabdpeigaa
