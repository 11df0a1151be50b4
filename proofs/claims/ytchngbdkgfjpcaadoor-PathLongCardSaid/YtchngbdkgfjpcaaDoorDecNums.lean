/-
  Digits and nearest numbers, as plain mathematics: what the laws of layer 4 ask of them. No program.
-/
import Derived.Test.YtchngbdkgfjpcaaDoorDigL
namespace Go.Proofs.YtchngbdkgfjpcaaDoor

theorem db_dig (n : Nat) : isDig (db n) = true := by unfold isDig; rw [db_nat]; simp; omega
theorem db_dv (n : Nat) : dv (db n) = n % 10 := by unfold dv; rw [db_nat]; omega
theorem allDig_append {a b : List UInt8} (h : AllDig a) (k : AllDig b) : AllDig (a ++ b) := fun c hc => by
  rcases List.mem_append.1 hc with hc | hc
  · exact h c hc
  · exact k c hc
theorem allDig_one (n : Nat) : AllDig [db n] := allDig_cons (db_dig n) allDig_nil
theorem digL_all (n : Nat) : AllDig (digL n) := by
  induction n using Nat.strongRecOn with
  | ind n ih =>
    rw [digL]; split
    · exact allDig_one n
    · exact allDig_append (ih _ (by omega)) (allDig_one n)
theorem digL_nat (n : Nat) : nat10 (digL n) = n := by
  induction n using Nat.strongRecOn with
  | ind n ih =>
    rw [digL]; split
    · rw [show [db n] = [] ++ [db n] from rfl, nat10_snoc, db_dv, nat10_nil]; omega
    · rw [nat10_snoc, ih _ (by omega), db_dv]; omega
theorem digL_len (n : Nat) : ∀ k, n < 10 ^ (k + 1) → (digL n).length ≤ k + 1 := by
  induction n using Nat.strongRecOn with
  | ind n ih =>
    intro k hk
    rw [digL]; split
    · simp
    · cases k with
      | zero => simp at hk; omega
      | succ k =>
        have := ih (n / 10) (by omega) k (by rw [Nat.pow_succ] at hk; omega)
        simp; omega
theorem digL_len_ge (n : Nat) : ∀ k, 10 ^ k ≤ n → k + 1 ≤ (digL n).length := by
  induction n using Nat.strongRecOn with
  | ind n ih =>
    intro k hk
    rw [digL]; split
    · cases k with
      | zero => simp
      | succ k => rw [Nat.pow_succ] at hk; have : 0 < 10 ^ k := Nat.pow_pos (by decide); omega
    · cases k with
      | zero => simp
      | succ k =>
        have := ih (n / 10) (by omega) k (by rw [Nat.pow_succ] at hk; omega)
        simp; omega
theorem digL_pos (n : Nat) : 0 < (digL n).length := by rw [digL]; split <;> simp
theorem digL_one (n : Nat) (h : n < 10) : digL n = [db n] := by rw [digL, dif_pos h]
/-- Five digits, with noughts ahead. -/
theorem digL_five (x : Nat) (h : x < 100000) : ∃ c t, digL (x + 100000) = c :: t ∧ AllDig t ∧ t.length = 5 ∧ nat10 t = x := by
  have l1 := digL_len (x + 100000) 5 (by omega)
  have l2 := digL_len_ge (x + 100000) 5 (by omega)
  have ha := digL_all (x + 100000)
  have hn := digL_nat (x + 100000)
  cases e : digL (x + 100000) with
  | nil => rw [e] at l2; simp at l2
  | cons c t =>
    rw [e] at l1 l2 ha hn
    simp at l1 l2
    have ht : AllDig t := fun b hb => ha b (by simp [hb])
    have hl : t.length = 5 := by omega
    refine ⟨c, t, rfl, ht, hl, ?_⟩
    rw [nat10_cons, hl] at hn
    have := nat10_lt t ht
    rw [hl] at this
    have d := dv_lt (ha c (by simp))
    omega

/-- Noughts. -/
def nil0 (k : Nat) : List UInt8 := List.replicate k 48
theorem nil0_all (k : Nat) : AllDig (nil0 k) := fun b hb => by
  obtain rfl := List.eq_of_mem_replicate hb
  decide
theorem nil0_nat (k : Nat) : nat10 (nil0 k) = 0 := by
  induction k with
  | zero => rfl
  | succ k ih => rw [nil0, List.replicate_succ, nat10_cons, ← nil0, ih]; simp [dv]
theorem nil0_len (k : Nat) : (nil0 k).length = k := by simp [nil0]
theorem nil0_succ (k : Nat) : nil0 (k + 1) = nil0 k ++ [48] := by simp [nil0, List.replicate_succ']

theorem near_two (v : Int) (d : Nat) : near v d = (2 * v + d) / (2 * (d : Int)) := by
  unfold near
  rw [← Int.ediv_ediv_of_nonneg (show (0 : Int) ≤ 2 by decide)]
  congr 1
  omega
theorem near_scale (v : Int) (d c : Nat) (hc : 0 < c) : near (v * c) (d * c) = near v d := by
  rw [near_two, near_two]
  have e1 : 2 * (v * (c : Int)) + ((d * c : Nat) : Int) = (2 * v + d) * c := by push_cast; grind
  have e2 : 2 * ((d * c : Nat) : Int) = 2 * (d : Int) * c := by push_cast; grind
  rw [e1, e2]
  exact Int.mul_ediv_mul_of_pos_left _ _ (by omega)
theorem near_mono {v u : Int} (d : Nat) (hd : 0 < d) (h : v ≤ u) : near v d ≤ near u d := by
  rw [near_two, near_two]
  exact Int.ediv_le_ediv (by omega) (by omega)
theorem near_whole (v k : Int) (d : Nat) (hd : 0 < d) : near (v + k * d) d = near v d + k := by
  unfold near
  rw [show v + k * (d : Int) + (d : Int) / 2 = v + (d : Int) / 2 + k * d from by omega, Int.add_mul_ediv_right _ _ (by omega)]

theorem nearV_neg (D m : Nat) : nearV false D (-(m : Int)) = near ((D * 65536 : Nat) : Int) (10 ^ m) := by
  unfold nearV
  rw [sg_false, show (-(m : Int)).toNat = 0 from by omega, Nat.pow_zero, Nat.mul_one, show (-(-(m : Int))).toNat = m from by omega]
/-- Noughts behind make no difference. -/
theorem nearV_noughts (D m k : Nat) : nearV false (D * 10 ^ k) (-((m + k : Nat) : Int)) = nearV false D (-(m : Int)) := by
  rw [nearV_neg, nearV_neg, Nat.pow_add]
  have hk : 0 < 10 ^ k := Nat.pow_pos (by decide)
  generalize 10 ^ k = c at *
  generalize 10 ^ m = d at *
  have e : ((D * c * 65536 : Nat) : Int) = ((D * 65536 : Nat) : Int) * c := by
    rw [← Int.natCast_mul, Nat.mul_right_comm]
  rw [e]
  exact near_scale _ _ _ hk

theorem ansV_ok (n : Int) : ansV n = (n, 0) ∨ ansV n = (0, 2) := by unfold ansV; split <;> simp
/-- One digit more behind. -/
theorem rises_near (N m i k W : Nat) (hi : i ≤ k) (hk : k ≤ 9) (hN : N < (W + 1) * 10 ^ m) :
    nearV false (10 * N + i) (-((m + 1 : Nat) : Int)) ≤ nearV false (10 * N + k) (-((m + 1 : Nat) : Int)) ∧
    nearV false N (-(m : Int)) ≤ nearV false (10 * N + i) (-((m + 1 : Nat) : Int)) ∧
    nearV false (10 * N + k) (-((m + 1 : Nat) : Int)) ≤ nearV false N (-(m : Int)) + 65536 ∧
    0 ≤ nearV false N (-(m : Int)) ∧
    (W ≤ 65534 → nearV false (10 * N + k) (-((m + 1 : Nat) : Int)) ≤ 65535 * 65536) := by
  have e : nearV false N (-(m : Int)) = near ((10 * N * 65536 : Nat) : Int) (10 ^ (m + 1)) := by
    have := nearV_noughts N m 1
    rw [← this, nearV_neg, Nat.pow_one, Nat.mul_comm N 10]
  rw [e, nearV_neg, nearV_neg]
  have hp : 0 < 10 ^ (m + 1) := Nat.pow_pos (by decide)
  have h9 : 10 ≤ 10 ^ (m + 1) := by rw [Nat.pow_succ]; have : 0 < 10 ^ m := Nat.pow_pos (by decide); omega
  refine ⟨near_mono _ hp (by omega), near_mono _ hp (by omega), ?_, ?_, ?_⟩
  · rw [← near_whole _ 65536 _ hp]
    exact near_mono _ hp (by omega)
  · refine Int.le_trans ?_ (near_mono (v := 0) _ hp (by omega))
    unfold near
    exact Int.ediv_nonneg (by omega) (by omega)
  · intro hw
    have h1 : (W + 1) * 10 ^ m ≤ 65535 * 10 ^ m := Nat.mul_le_mul_right _ (by omega)
    have h2 : (10 * N + k) * 65536 ≤ 65535 * 65536 * 10 ^ (m + 1) := by
      rw [Nat.pow_succ]
      generalize 10 ^ m = M at *
      omega
    have h3 := near_mono (v := (((10 * N + k) * 65536 : Nat) : Int)) (u := 0 + 65535 * 65536 * ((10 ^ (m + 1) : Nat) : Int)) (10 ^ (m + 1)) hp (by omega)
    rw [near_whole _ (65535 * 65536) _ hp] at h3
    have h4 : near 0 (10 ^ (m + 1)) = 0 := by
      unfold near
      exact Int.ediv_eq_zero_of_lt (by omega) (by omega)
    omega
end Go.Proofs.YtchngbdkgfjpcaaDoor
