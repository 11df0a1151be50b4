/-
  Numbers' texts, as plain mathematics: digits, powers of ten, and the nearest number, kept in 5 digits ahead of the point and 17 behind it. No memory, no program.
-/
import Derived.Test.YtmfibmcmbbelgaaDoorDecWalk
import Derived.Test.YtmfibmcmbbelgaaDoorNearD
namespace Go.Proofs.YtmfibmcmbbelgaaDoor

def dv (b : UInt8) : Nat := b.toNat - 48
def nat10 (l : List UInt8) : Nat := l.foldl (fun n b => 10 * n + dv b) 0
theorem nat10_snoc (l : List UInt8) (b : UInt8) : nat10 (l ++ [b]) = 10 * nat10 l + dv b := by simp [nat10]
theorem foldl_nat10 (b : List UInt8) : ∀ n : Nat, b.foldl (fun n b => 10 * n + dv b) n = n * 10 ^ b.length + nat10 b := by
  unfold nat10
  induction b with
  | nil => intro n; simp
  | cons x t ih =>
    intro n
    simp only [List.foldl_cons, List.length_cons]
    rw [ih (10 * n + dv x), ih (10 * 0 + dv x), Nat.pow_succ]
    grind
theorem nat10_append (a b : List UInt8) : nat10 (a ++ b) = nat10 a * 10 ^ b.length + nat10 b := by
  unfold nat10
  rw [List.foldl_append, foldl_nat10]
  rfl
theorem nat10_nil : nat10 [] = 0 := rfl
theorem dv_lt {b : UInt8} (h : isDig b = true) : dv b < 10 := by
  unfold isDig at h; unfold dv
  have : 48 ≤ b.toNat ∧ b.toNat ≤ 57 := by simpa using h
  omega
def AllDig (l : List UInt8) : Prop := ∀ b ∈ l, isDig b = true
theorem nat10_cons (b : UInt8) (t : List UInt8) : nat10 (b :: t) = dv b * 10 ^ t.length + nat10 t := by
  have := nat10_append [b] t
  simpa [nat10] using this
theorem nat10_lt (l : List UInt8) : AllDig l → nat10 l < 10 ^ l.length := by
  induction l with
  | nil => intro _; simp [nat10]
  | cons b t ih =>
    intro h
    have hb := dv_lt (h b (by simp))
    have hl := ih (fun x hx => h x (by simp [hx]))
    rw [nat10_cons, List.length_cons, Nat.pow_succ]
    have : dv b * 10 ^ t.length ≤ 9 * 10 ^ t.length := Nat.mul_le_mul_right _ (by omega)
    omega

/-- N times 10^e, without what lies behind the point; and whether anything does. -/
def flr (N : Nat) (e : Int) : Nat := N * 10 ^ e.toNat / 10 ^ (-e).toNat
def rst (N : Nat) (e : Int) : Bool := decide (N * 10 ^ e.toNat % 10 ^ (-e).toNat ≠ 0)
theorem flr_nat (N E : Nat) : flr N (E : Int) = N * 10 ^ E := by
  unfold flr
  rw [show ((E : Int)).toNat = E from by omega, show (-(E : Int)).toNat = 0 from by omega]; simp
theorem rst_nat (N E : Nat) : rst N (E : Int) = false := by
  unfold rst
  rw [show (-(E : Int)).toNat = 0 from by omega]; simp [Nat.mod_one]
theorem flr_neg (N m : Nat) : flr N (-(m : Int)) = N / 10 ^ m := by
  unfold flr
  rw [show (-(m : Int)).toNat = 0 from by omega, show (- -(m : Int)).toNat = m from by omega]; simp
theorem rst_neg (N m : Nat) : rst N (-(m : Int)) = decide (N % 10 ^ m ≠ 0) := by
  unfold rst
  rw [show (-(m : Int)).toNat = 0 from by omega, show (- -(m : Int)).toNat = m from by omega]; simp

/-- What is kept of the number N times 10^(e - 17). -/
structure Kept (N : Nat) (e : Int) (wh kp : Nat) (more great : Bool) : Prop where
  sum : wh * 100000000000000000 + kp = flr N e % 10000000000000000000000
  hw : wh < 100000
  hk : kp < 100000000000000000
  hm : more = rst N e
  hg : great = decide (10000000000000000000000 ≤ flr N e)

theorem kept_zero (e : Int) : Kept 0 e 0 0 false false := by
  have h1 : flr 0 e = 0 := by simp [flr]
  have h2 : rst 0 e = false := by simp [rst]
  exact ⟨by rw [h1], by decide, by decide, by rw [h2], by rw [h1]; rfl⟩

theorem ten_div (N d m : Nat) (hd : d < 10) : (10 * N + d) / 10 ^ (m + 1) = N / 10 ^ m ∧ (10 * N + d) % 10 ^ (m + 1) = 10 * (N % 10 ^ m) + d := by
  rw [Nat.pow_succ, Nat.mul_comm (10 ^ m) 10]
  constructor
  · rw [← Nat.div_div_eq_div_mul]
    congr 1; omega
  · rw [Nat.mod_mul, show (10 * N + d) / 10 = N from by omega]
    omega

/-- A digit behind all that is kept. -/
theorem Kept.low {N : Nat} {e : Int} {wh kp : Nat} {more great : Bool} (h : Kept N e wh kp more great) (d : Nat) (hd : d < 10) (he : e ≤ 0) : Kept (10 * N + d) (e - 1) wh kp (more || decide (d ≠ 0)) great := by
  obtain ⟨m, rfl⟩ : ∃ m : Nat, e = -(m : Int) := ⟨(-e).toNat, by omega⟩
  have t := ten_div N d m hd
  have e1 : -(m : Int) - 1 = -((m + 1 : Nat) : Int) := by omega
  obtain ⟨h1, h2, h3, h4, h5⟩ := h
  refine ⟨?_, h2, h3, ?_, ?_⟩
  · rw [h1, e1, flr_neg, flr_neg, t.1]
  · rw [h4, e1, rst_neg, rst_neg, t.2]
    by_cases a : N % 10 ^ m = 0 <;> by_cases b : d = 0 <;> simp [a, b] <;> omega
  · rw [h5, e1, flr_neg, flr_neg, t.1]
/-- A digit ahead of all that is kept. -/
theorem Kept.high {N : Nat} {e : Int} {wh kp : Nat} {more great : Bool} (h : Kept N e wh kp more great) (d : Nat) (he : 23 ≤ e) : Kept (10 * N + d) (e - 1) wh kp more (great || decide (d ≠ 0)) := by
  obtain ⟨E, rfl⟩ : ∃ E : Nat, e = ((E + 23 : Nat) : Int) := ⟨(e - 23).toNat, by omega⟩
  have e1 : ((E + 23 : Nat) : Int) - 1 = ((E + 22 : Nat) : Int) := by omega
  obtain ⟨h1, h2, h3, h4, h5⟩ := h
  rw [flr_nat] at h1 h5
  rw [rst_nat] at h4
  have p1 : 10 ^ (E + 23) = 10 * 10 ^ E * 10000000000000000000000 := by rw [show E + 23 = E + 1 + 22 from by omega, Nat.pow_add, Nat.pow_succ, Nat.mul_comm (10 ^ E) 10]
  have p2 : 10 ^ (E + 22) = 10 ^ E * 10000000000000000000000 := by rw [Nat.pow_add]
  have p0 : 0 < 10 ^ E := Nat.pow_pos (by decide)
  rw [p1] at h1 h5
  generalize 10 ^ E = K at *
  have z : N * (10 * K * 10000000000000000000000) % 10000000000000000000000 = 0 := by rw [← Nat.mul_assoc]; exact Nat.mul_mod_left _ _
  have z2 : (10 * N + d) * (K * 10000000000000000000000) % 10000000000000000000000 = 0 := by rw [← Nat.mul_assoc]; exact Nat.mul_mod_left _ _
  refine ⟨?_, h2, h3, ?_, ?_⟩
  · rw [e1, flr_nat, p2, z2]; omega
  · rw [e1, rst_nat, h4]
  · rw [e1, flr_nat, p2, h5]
    have a1 : (10000000000000000000000 ≤ N * (10 * K * 10000000000000000000000)) ↔ 0 < N := by
      constructor
      · intro h; exact Nat.pos_of_ne_zero (fun e => by subst e; simp at h)
      · intro h
        have : 1 * (1 * 10000000000000000000000) ≤ N * (10 * K * 10000000000000000000000) := Nat.mul_le_mul h (Nat.mul_le_mul_right _ (by omega))
        omega
    have a2 : (10000000000000000000000 ≤ (10 * N + d) * (K * 10000000000000000000000)) ↔ 0 < 10 * N + d := by
      constructor
      · intro h; exact Nat.pos_of_ne_zero (fun e => by rw [e] at h; simp at h)
      · intro h
        have : 1 * (1 * 10000000000000000000000) ≤ (10 * N + d) * (K * 10000000000000000000000) := Nat.mul_le_mul h (Nat.mul_le_mul_right _ (by omega))
        omega
    rw [show decide (10000000000000000000000 ≤ N * (10 * K * 10000000000000000000000)) = decide (0 < N) from decide_eq_decide.2 a1, show decide (10000000000000000000000 ≤ (10 * N + d) * (K * 10000000000000000000000)) = decide (0 < 10 * N + d) from decide_eq_decide.2 a2]
    rw [Bool.eq_iff_iff]
    simp
    omega
/-- A digit among those that are kept. -/
theorem mid_step (N d wh kp K : Nat) (hd : d < 10) (h1 : wh * 100000000000000000 + kp = N * (10 * K) % 10000000000000000000000) (hK : ∃ J, J * (10 * K) = 10000000000000000000000) (hk0 : 0 < K) :
    (10 * N + d) * K % 10000000000000000000000 = wh * 100000000000000000 + kp + d * K ∧ ((10000000000000000000000 ≤ (10 * N + d) * K) ↔ 10000000000000000000000 ≤ N * (10 * K)) := by
  obtain ⟨J, hJ⟩ := hK
  rw [h1]
  have e : (10 * N + d) * K = N * (10 * K) + d * K := by grind
  rw [e, ← hJ]
  have m : N * (10 * K) % (J * (10 * K)) = (N % J) * (10 * K) := Nat.mul_mod_mul_right _ _ _
  have q : N * (10 * K) / (J * (10 * K)) = N / J := Nat.mul_div_mul_right _ _ (by omega)
  have J0 : 0 < J := by
    refine Nat.pos_of_ne_zero fun e => ?_
    subst e; simp at hJ
  have l : N % J + 1 ≤ J := Nat.mod_lt _ J0
  have l2 : (N % J + 1) * (10 * K) ≤ J * (10 * K) := Nat.mul_le_mul_right _ l
  have l3 : d * K ≤ 9 * K := Nat.mul_le_mul_right _ (by omega)
  have dm := Nat.div_add_mod (N * (10 * K)) (J * (10 * K))
  rw [m, q] at dm
  generalize N % J = r at *
  generalize N / J = Q at *
  rw [Nat.add_mul, Nat.one_mul] at l2
  rw [m]
  generalize r * (10 * K) = R at *
  generalize N * (10 * K) = T at *
  generalize d * K = D at *
  generalize J * (10 * K) = M at *
  have lt : R + D < M := by omega
  refine ⟨?_, ?_⟩
  · rw [← dm, Nat.add_assoc, Nat.mul_add_mod]
    exact Nat.mod_eq_of_lt lt
  · rw [← dm]
    rcases Nat.eq_zero_or_pos Q with rfl | hQ
    · simp; omega
    · have : M * 1 ≤ M * Q := Nat.mul_le_mul_left _ hQ
      omega
theorem Kept.mid {N : Nat} {e : Int} {wh kp : Nat} {more great : Bool} (h : Kept N e wh kp more great) (d : Nat) (hd : d < 10) (E : Nat) (he : e = ((E + 1 : Nat) : Int)) (h22 : E < 22) :
    flr (10 * N + d) (e - 1) % 10000000000000000000000 = wh * 100000000000000000 + kp + d * 10 ^ E ∧ more = rst (10 * N + d) (e - 1) ∧ great = decide (10000000000000000000000 ≤ flr (10 * N + d) (e - 1)) := by
  subst he
  have e1 : ((E + 1 : Nat) : Int) - 1 = (E : Int) := by omega
  obtain ⟨h1, h2, h3, h4, h5⟩ := h
  rw [flr_nat, Nat.pow_succ, Nat.mul_comm (10 ^ E) 10] at h1 h5
  rw [rst_nat] at h4
  have m := mid_step N d wh kp (10 ^ E) hd h1 ⟨10 ^ (21 - E), by rw [Nat.mul_comm 10 (10 ^ E), ← Nat.pow_succ, ← Nat.pow_add, show 21 - E + (E + 1) = 22 from by omega]⟩ (Nat.pow_pos (by decide))
  rw [e1, flr_nat, rst_nat]
  exact ⟨m.1, h4, by rw [h5]; exact decide_eq_decide.2 m.2.symm⟩
theorem whole_arith (wh kp x F : Nat) (m : F = wh * 100000000000000000 + kp + x * 100000000000000000) (l : F < 10000000000000000000000) : (wh + x) * 100000000000000000 + kp = F ∧ wh + x < 100000 := by omega
theorem Kept.whole {N : Nat} {e : Int} {wh kp : Nat} {more great : Bool} (h : Kept N e wh kp more great) (d : Nat) (hd : d < 10) (E : Nat) (he : e = ((E + 18 : Nat) : Int)) (h22 : E < 5) : Kept (10 * N + d) (e - 1) (wh + d * 10 ^ E) kp more great := by
  have m := h.mid d hd (E + 17) he (by omega)
  obtain ⟨h1, h2, h3, h4, h5⟩ := h
  have p : d * 10 ^ (E + 17) = d * 10 ^ E * 100000000000000000 := by rw [Nat.pow_add, Nat.mul_assoc]
  rw [p] at m
  have l := Nat.mod_lt (flr (10 * N + d) (e - 1)) (show 10000000000000000000000 > 0 by decide)
  have r := whole_arith wh kp (d * 10 ^ E) _ m.1 l
  exact ⟨r.1, r.2, h3, m.2.1, m.2.2⟩
theorem Kept.frac {N : Nat} {e : Int} {wh kp : Nat} {more great : Bool} (h : Kept N e wh kp more great) (d : Nat) (hd : d < 10) (E : Nat) (he : e = ((E + 1 : Nat) : Int)) (h17 : E < 17) : Kept (10 * N + d) (e - 1) wh (kp + d * 10 ^ E) more great := by
  have m := h.mid d hd E he (by omega)
  obtain ⟨h1, h2, h3, h4, h5⟩ := h
  refine ⟨by rw [m.1, Nat.add_assoc], h2, ?_, m.2.1, m.2.2⟩
  subst he
  rw [flr_nat, Nat.pow_succ] at h1
  have hE : E = 0 ∨ E = 1 ∨ E = 2 ∨ E = 3 ∨ E = 4 ∨ E = 5 ∨ E = 6 ∨ E = 7 ∨ E = 8 ∨ E = 9 ∨ E = 10 ∨ E = 11 ∨ E = 12 ∨ E = 13 ∨ E = 14 ∨ E = 15 ∨ E = 16 := by omega
  clear m
  rcases hE with rfl | rfl | rfl | rfl | rfl | rfl | rfl | rfl | rfl | rfl | rfl | rfl | rfl | rfl | rfl | rfl | rfl <;> simp at h1 ⊢ <;> omega

/-- The number's answer: the nearest whole number to 65536 times D times 10^p, with its sign. -/
def sg (neg : Bool) (x : Nat) : Int := if neg then -(x : Int) else (x : Int)
def nearV (neg : Bool) (D : Nat) (p : Int) : Int := near (sg neg (D * 65536 * 10 ^ p.toNat)) (10 ^ (-p).toNat)

theorem near_pos_arith (Y c : Nat) (hc : 0 < c) : near (65536 * (Y : Int)) c = (((131072 * Y) / c + 1) / 2 : Nat) := by
  unfold near
  have e1 : ((131072 * Y) / c + 1) / 2 = (131072 * Y + c) / (c * 2) := by rw [← Nat.div_div_eq_div_mul, Nat.add_div_right _ hc]
  have e2 : (65536 * Y + c / 2) / c = (131072 * Y + c) / (2 * c) := by
    rw [← Nat.div_div_eq_div_mul, show (131072 * Y + c) / 2 = 65536 * Y + c / 2 from by omega]
  rw [e1, Nat.mul_comm c 2, ← e2, show 65536 * (Y : Int) + (c : Int) / 2 = ((65536 * Y + c / 2 : Nat) : Int) from by omega]
  exact (Int.natCast_ediv _ _).symm
theorem sg_true (x : Nat) : sg true x = -(x : Int) := rfl
theorem sg_false (x : Nat) : sg false x = (x : Int) := rfl
/-- Below 0: the half goes towards 0. -/
theorem near_neg_arith (Y c H r : Nat) (hc : 0 < c) (h : 131072 * Y = H * c + r) (hr : r < c) : near (-(65536 * (Y : Int))) c = -(((H + (if r = 0 then 0 else 1)) / 2 : Nat) : Int) := by
  unfold near
  generalize hM : (H + (if r = 0 then 0 else 1)) / 2 = M
  have hM2 : H + (if r = 0 then 0 else 1) = 2 * M ∨ H + (if r = 0 then 0 else 1) = 2 * M + 1 := by omega
  clear hM
  have key : -(65536 * (Y : Int)) + (c : Int) / 2 = -(M : Int) * c + ((M : Int) * c - 65536 * Y + (c : Int) / 2) := by rw [Int.neg_mul]; omega
  have i : (131072 : Int) * Y = H * c + r := by
    have := congrArg (fun n : Nat => (n : Int)) h
    simp only [Int.natCast_add, Int.natCast_mul] at this
    omega
  have hc2 : (0 : Int) < c := by omega
  rw [key, Int.add_comm, Int.add_mul_ediv_right _ _ (by omega)]
  have z : ((M : Int) * c - 65536 * Y + (c : Int) / 2) / c = 0 := by
    refine Int.ediv_eq_zero_of_lt ?_ ?_
    · by_cases h0 : r = 0
      · subst h0
        rw [if_pos rfl] at hM2
        rcases hM2 with e | e
        · have : (H : Int) * c = 2 * ((M : Int) * c) := by rw [show (H : Int) = 2 * M from by omega, Int.mul_assoc]
          omega
        · have : (H : Int) * c = 2 * ((M : Int) * c) + c := by rw [show (H : Int) = 2 * M + 1 from by omega, Int.add_mul, Int.mul_assoc]; omega
          omega
      · rw [if_neg h0] at hM2
        rcases hM2 with e | e
        · have : (H : Int) * c = 2 * ((M : Int) * c) - c := by rw [show (H : Int) = 2 * M - 1 from by omega, Int.sub_mul, Int.mul_assoc]; omega
          omega
        · have : (H : Int) * c = 2 * ((M : Int) * c) := by rw [show (H : Int) = 2 * M from by omega, Int.mul_assoc]
          omega
    · by_cases h0 : r = 0
      · subst h0
        rw [if_pos rfl] at hM2
        rcases hM2 with e | e
        · have : (H : Int) * c = 2 * ((M : Int) * c) := by rw [show (H : Int) = 2 * M from by omega, Int.mul_assoc]
          omega
        · have : (H : Int) * c = 2 * ((M : Int) * c) + c := by rw [show (H : Int) = 2 * M + 1 from by omega, Int.add_mul, Int.mul_assoc]; omega
          omega
      · rw [if_neg h0] at hM2
        rcases hM2 with e | e
        · have : (H : Int) * c = 2 * ((M : Int) * c) - c := by rw [show (H : Int) = 2 * M - 1 from by omega, Int.sub_mul, Int.mul_assoc]; omega
          omega
        · have : (H : Int) * c = 2 * ((M : Int) * c) := by rw [show (H : Int) = 2 * M from by omega, Int.mul_assoc]
          omega
  rw [z]; omega
end Go.Proofs.YtmfibmcmbbelgaaDoor
