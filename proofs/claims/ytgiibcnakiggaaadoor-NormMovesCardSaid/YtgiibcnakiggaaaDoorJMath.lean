/-
  Joined texts: DecWalk, NearD, DecVal, DecNear, DecForm, DecList, DecScanEq, ScanMath, DecUniq, PathMath, Dig.
-/
import Derived.Lib.IndexAny
import Derived.Lib.IndexMore
import Derived.Lib.SlTrimSet
import Derived.Lib.Strings
namespace Go.Proofs.YtgiibcnakiggaaaDoor

def isDig (b : UInt8) : Bool := decide (48 ≤ b.toNat) && decide (b.toNat ≤ 57)
def isSgn (b : UInt8) : Bool := b.toNat == 43 || b.toNat == 45
def isPt (b : UInt8) : Bool := b.toNat == 46
def isLet (b : UInt8) : Bool := b.toNat == 101 || b.toNat == 69
/-- What a byte is: a digit (0), a sign (1), a point (2), a letter (3), or none of them (4). -/
def kindB (b : UInt8) : Nat := if isDig b then 0 else if isSgn b then 1 else if isPt b then 2 else if isLet b then 3 else 4
def follow : Nat → Nat → Nat
  | 1, 0 => 3 | 1, 1 => 2 | 1, 2 => 4 | 2, 0 => 3 | 2, 2 => 4 | 3, 0 => 3 | 3, 2 => 5 | 3, 3 => 6 | 4, 0 => 5 | 5, 0 => 5 | 5, 3 => 6 | 6, 0 => 8 | 6, 1 => 7 | 7, 0 => 8 | 8, 0 => 8
  | _, _ => 0
/-- Where the walk ends, and in which state. -/
def walkL : List UInt8 → Nat → Nat × Nat
  | [], st => (0, st)
  | b :: t, st => if follow st (kindB b) = 0 then (0, st) else ((walkL t (follow st (kindB b))).1 + 1, (walkL t (follow st (kindB b))).2)
def wholeS (st : Nat) : Bool := st == 3 || st == 5 || st == 8

/-- How many digits there are. -/
def run : List UInt8 → Nat
  | [] => 0
  | b :: t => if isDig b then run t + 1 else 0
def headIs (p : UInt8 → Bool) : List UInt8 → Bool
  | [] => false
  | b :: _ => p b
/-- Behind the letter. -/
def scanPow (t : List UInt8) : Nat × Bool :=
  if headIs isSgn t then (1 + run (t.drop 1), decide (0 < run (t.drop 1))) else (run t, decide (0 < run t))
/-- Behind the digits and the point. -/
def scanTail (t : List UInt8) : Nat × Bool := if headIs isLet t then (1 + (scanPow (t.drop 1)).1, (scanPow (t.drop 1)).2) else (0, true)
/-- Behind the sign. -/
def scanBody (l : List UInt8) : Nat × Bool :=
  if headIs isPt (l.drop (run l)) then
    if run l = 0 ∧ run (l.drop (run l + 1)) = 0 then (1, false)
    else (run l + 1 + run (l.drop (run l + 1)) + (scanTail (l.drop (run l + 1 + run (l.drop (run l + 1))))).1, (scanTail (l.drop (run l + 1 + run (l.drop (run l + 1))))).2)
  else if run l = 0 then (0, false) else (run l + (scanTail (l.drop (run l))).1, (scanTail (l.drop (run l))).2)
def scanL (signed : Bool) (l : List UInt8) : Nat × Bool :=
  if signed && headIs isSgn l then (1 + (scanBody (l.drop 1)).1, (scanBody (l.drop 1)).2) else scanBody l

theorem kind_dig {b : UInt8} (h : isDig b = true) : kindB b = 0 := by simp [kindB, h]
theorem kind_cases (b : UInt8) : (isDig b = true ∧ kindB b = 0) ∨ (isDig b = false ∧ isSgn b = true ∧ kindB b = 1) ∨ (isDig b = false ∧ isSgn b = false ∧ isPt b = true ∧ kindB b = 2) ∨ (isDig b = false ∧ isSgn b = false ∧ isPt b = false ∧ isLet b = true ∧ kindB b = 3) ∨ (isDig b = false ∧ isSgn b = false ∧ isPt b = false ∧ isLet b = false ∧ kindB b = 4) := by
  unfold kindB
  cases h1 : isDig b <;> cases h2 : isSgn b <;> cases h3 : isPt b <;> cases h4 : isLet b <;> simp
theorem sgn_not {b : UInt8} (h : isSgn b = true) : isDig b = false ∧ isPt b = false ∧ isLet b = false := by
  unfold isSgn at h; unfold isDig isPt isLet
  have : b.toNat = 43 ∨ b.toNat = 45 := by simpa using h
  rcases this with e | e <;> simp [e]
theorem pt_not {b : UInt8} (h : isPt b = true) : isDig b = false ∧ isSgn b = false ∧ isLet b = false := by
  unfold isPt at h; unfold isDig isSgn isLet
  have : b.toNat = 46 := by simpa using h
  simp [this]
theorem let_not {b : UInt8} (h : isLet b = true) : isDig b = false ∧ isSgn b = false ∧ isPt b = false := by
  unfold isLet at h; unfold isDig isSgn isPt
  have : b.toNat = 101 ∨ b.toNat = 69 := by simpa using h
  rcases this with e | e <;> simp [e]
theorem dig_not {b : UInt8} (h : isDig b = true) : isSgn b = false ∧ isPt b = false ∧ isLet b = false := by
  unfold isDig at h; unfold isLet isSgn isPt
  have h : 48 ≤ b.toNat ∧ b.toNat ≤ 57 := by simpa using h
  refine ⟨?_, ?_, ?_⟩ <;> simp <;> omega

theorem run_le (l : List UInt8) : run l ≤ l.length := by
  induction l with
  | nil => simp [run]
  | cons b t ih => unfold run; split <;> simp <;> omega
theorem walk_fst_le (l : List UInt8) : ∀ st, (walkL l st).1 ≤ l.length := by
  induction l with
  | nil => intro st; simp [walkL]
  | cons b t ih => intro st; unfold walkL; split; · simp
                   · have := ih (follow st (kindB b)); simp; omega
theorem scanPow_le (l : List UInt8) : (scanPow l).1 ≤ l.length := by
  unfold scanPow
  split
  · rename_i h
    cases l with
    | nil => simp [headIs] at h
    | cons b t => have := run_le t; simp; omega
  · exact run_le l

/-- The digits are gone through in one state. -/
theorem walk_run (st : Nat) (h : follow st 0 = st) (h0 : st ≠ 0) (l : List UInt8) : walkL l st = (run l + (walkL (l.drop (run l)) st).1, (walkL (l.drop (run l)) st).2) := by
  induction l with
  | nil => simp [run]
  | cons b t ih =>
    unfold run
    by_cases hd : isDig b = true
    · simp only [hd, if_true, List.drop_succ_cons]
      conv => lhs; unfold walkL
      rw [kind_dig hd, h, if_neg h0, ih]
      refine Prod.ext ?_ rfl
      simp; omega
    · simp [hd]
theorem walk_first (st st' : Nat) (h : follow st 0 = st') (h' : follow st' 0 = st') (l : List UInt8) (hr : 0 < run l) (h0 : st' ≠ 0) : walkL l st = walkL l st' := by
  cases l with
  | nil => simp [run] at hr
  | cons b t =>
    by_cases hd : isDig b = true
    · unfold walkL; rw [kind_dig hd, h, h', if_neg h0, if_neg h0]
    · simp [run, hd] at hr
end Go.Proofs.YtgiibcnakiggaaaDoor
namespace Go.Proofs.YtgiibcnakiggaaaDoor

/-- The nearest whole number to v / d; of two that are as near the greater one. -/
def near (v : Int) (d : Nat) : Int := (v + (d : Int) / 2) / (d : Int)
end Go.Proofs.YtgiibcnakiggaaaDoor
namespace Go.Proofs.YtgiibcnakiggaaaDoor

def dv (b : UInt8) : Nat := b.toNat - 48
def nat10 (l : List UInt8) : Nat := l.foldl (fun n b => 10 * n + dv b) 0
theorem nat10_snoc (l : List UInt8) (b : UInt8) : nat10 (l ++ [b]) = 10 * nat10 l + dv b := by simp [nat10]
theorem foldl_nat10 (b : List UInt8) : ∀ n : Nat, b.foldl (fun n b => 10 * n + dv b) n = n * 10 ^ b.length + nat10 b := by
  unfold nat10
  induction b with
  | nil => intro n; simp
  | cons x t ih =>
    intro n
    simp only [List.foldl_cons, List.length_cons]
    rw [ih (10 * n + dv x), ih (10 * 0 + dv x), Nat.pow_succ]
    grind
theorem nat10_append (a b : List UInt8) : nat10 (a ++ b) = nat10 a * 10 ^ b.length + nat10 b := by
  unfold nat10
  rw [List.foldl_append, foldl_nat10]
  rfl
theorem nat10_nil : nat10 [] = 0 := rfl
theorem dv_lt {b : UInt8} (h : isDig b = true) : dv b < 10 := by
  unfold isDig at h; unfold dv
  have : 48 ≤ b.toNat ∧ b.toNat ≤ 57 := by simpa using h
  omega
def AllDig (l : List UInt8) : Prop := ∀ b ∈ l, isDig b = true
theorem nat10_cons (b : UInt8) (t : List UInt8) : nat10 (b :: t) = dv b * 10 ^ t.length + nat10 t := by
  have := nat10_append [b] t
  simpa [nat10] using this
theorem nat10_lt (l : List UInt8) : AllDig l → nat10 l < 10 ^ l.length := by
  induction l with
  | nil => intro _; simp [nat10]
  | cons b t ih =>
    intro h
    have hb := dv_lt (h b (by simp))
    have hl := ih (fun x hx => h x (by simp [hx]))
    rw [nat10_cons, List.length_cons, Nat.pow_succ]
    have : dv b * 10 ^ t.length ≤ 9 * 10 ^ t.length := Nat.mul_le_mul_right _ (by omega)
    omega

/-- N times 10^e, without what lies behind the point; and whether anything does. -/
def flr (N : Nat) (e : Int) : Nat := N * 10 ^ e.toNat / 10 ^ (-e).toNat
def rst (N : Nat) (e : Int) : Bool := decide (N * 10 ^ e.toNat % 10 ^ (-e).toNat ≠ 0)
theorem flr_nat (N E : Nat) : flr N (E : Int) = N * 10 ^ E := by
  unfold flr
  rw [show ((E : Int)).toNat = E from by omega, show (-(E : Int)).toNat = 0 from by omega]; simp
theorem rst_nat (N E : Nat) : rst N (E : Int) = false := by
  unfold rst
  rw [show (-(E : Int)).toNat = 0 from by omega]; simp [Nat.mod_one]
theorem flr_neg (N m : Nat) : flr N (-(m : Int)) = N / 10 ^ m := by
  unfold flr
  rw [show (-(m : Int)).toNat = 0 from by omega, show (- -(m : Int)).toNat = m from by omega]; simp
theorem rst_neg (N m : Nat) : rst N (-(m : Int)) = decide (N % 10 ^ m ≠ 0) := by
  unfold rst
  rw [show (-(m : Int)).toNat = 0 from by omega, show (- -(m : Int)).toNat = m from by omega]; simp

/-- What is kept of the number N times 10^(e - 17). -/
structure Kept (N : Nat) (e : Int) (wh kp : Nat) (more great : Bool) : Prop where
  sum : wh * 100000000000000000 + kp = flr N e % 10000000000000000000000
  hw : wh < 100000
  hk : kp < 100000000000000000
  hm : more = rst N e
  hg : great = decide (10000000000000000000000 ≤ flr N e)

theorem kept_zero (e : Int) : Kept 0 e 0 0 false false := by
  have h1 : flr 0 e = 0 := by simp [flr]
  have h2 : rst 0 e = false := by simp [rst]
  exact ⟨by rw [h1], by decide, by decide, by rw [h2], by rw [h1]; rfl⟩

theorem ten_div (N d m : Nat) (hd : d < 10) : (10 * N + d) / 10 ^ (m + 1) = N / 10 ^ m ∧ (10 * N + d) % 10 ^ (m + 1) = 10 * (N % 10 ^ m) + d := by
  rw [Nat.pow_succ, Nat.mul_comm (10 ^ m) 10]
  constructor
  · rw [← Nat.div_div_eq_div_mul]
    congr 1; omega
  · rw [Nat.mod_mul, show (10 * N + d) / 10 = N from by omega]
    omega

/-- A digit behind all that is kept. -/
theorem Kept.low {N : Nat} {e : Int} {wh kp : Nat} {more great : Bool} (h : Kept N e wh kp more great) (d : Nat) (hd : d < 10) (he : e ≤ 0) : Kept (10 * N + d) (e - 1) wh kp (more || decide (d ≠ 0)) great := by
  obtain ⟨m, rfl⟩ : ∃ m : Nat, e = -(m : Int) := ⟨(-e).toNat, by omega⟩
  have t := ten_div N d m hd
  have e1 : -(m : Int) - 1 = -((m + 1 : Nat) : Int) := by omega
  obtain ⟨h1, h2, h3, h4, h5⟩ := h
  refine ⟨?_, h2, h3, ?_, ?_⟩
  · rw [h1, e1, flr_neg, flr_neg, t.1]
  · rw [h4, e1, rst_neg, rst_neg, t.2]
    by_cases a : N % 10 ^ m = 0 <;> by_cases b : d = 0 <;> simp [a, b] <;> omega
  · rw [h5, e1, flr_neg, flr_neg, t.1]
/-- A digit ahead of all that is kept. -/
theorem Kept.high {N : Nat} {e : Int} {wh kp : Nat} {more great : Bool} (h : Kept N e wh kp more great) (d : Nat) (he : 23 ≤ e) : Kept (10 * N + d) (e - 1) wh kp more (great || decide (d ≠ 0)) := by
  obtain ⟨E, rfl⟩ : ∃ E : Nat, e = ((E + 23 : Nat) : Int) := ⟨(e - 23).toNat, by omega⟩
  have e1 : ((E + 23 : Nat) : Int) - 1 = ((E + 22 : Nat) : Int) := by omega
  obtain ⟨h1, h2, h3, h4, h5⟩ := h
  rw [flr_nat] at h1 h5
  rw [rst_nat] at h4
  have p1 : 10 ^ (E + 23) = 10 * 10 ^ E * 10000000000000000000000 := by rw [show E + 23 = E + 1 + 22 from by omega, Nat.pow_add, Nat.pow_succ, Nat.mul_comm (10 ^ E) 10]
  have p2 : 10 ^ (E + 22) = 10 ^ E * 10000000000000000000000 := by rw [Nat.pow_add]
  have p0 : 0 < 10 ^ E := Nat.pow_pos (by decide)
  rw [p1] at h1 h5
  generalize 10 ^ E = K at *
  have z : N * (10 * K * 10000000000000000000000) % 10000000000000000000000 = 0 := by rw [← Nat.mul_assoc]; exact Nat.mul_mod_left _ _
  have z2 : (10 * N + d) * (K * 10000000000000000000000) % 10000000000000000000000 = 0 := by rw [← Nat.mul_assoc]; exact Nat.mul_mod_left _ _
  refine ⟨?_, h2, h3, ?_, ?_⟩
  · rw [e1, flr_nat, p2, z2]; omega
  · rw [e1, rst_nat, h4]
  · rw [e1, flr_nat, p2, h5]
    have a1 : (10000000000000000000000 ≤ N * (10 * K * 10000000000000000000000)) ↔ 0 < N := by
      constructor
      · intro h; exact Nat.pos_of_ne_zero (fun e => by subst e; simp at h)
      · intro h
        have : 1 * (1 * 10000000000000000000000) ≤ N * (10 * K * 10000000000000000000000) := Nat.mul_le_mul h (Nat.mul_le_mul_right _ (by omega))
        omega
    have a2 : (10000000000000000000000 ≤ (10 * N + d) * (K * 10000000000000000000000)) ↔ 0 < 10 * N + d := by
      constructor
      · intro h; exact Nat.pos_of_ne_zero (fun e => by rw [e] at h; simp at h)
      · intro h
        have : 1 * (1 * 10000000000000000000000) ≤ (10 * N + d) * (K * 10000000000000000000000) := Nat.mul_le_mul h (Nat.mul_le_mul_right _ (by omega))
        omega
    rw [show decide (10000000000000000000000 ≤ N * (10 * K * 10000000000000000000000)) = decide (0 < N) from decide_eq_decide.2 a1, show decide (10000000000000000000000 ≤ (10 * N + d) * (K * 10000000000000000000000)) = decide (0 < 10 * N + d) from decide_eq_decide.2 a2]
    rw [Bool.eq_iff_iff]
    simp
    omega
/-- A digit among those that are kept. -/
theorem mid_step (N d wh kp K : Nat) (hd : d < 10) (h1 : wh * 100000000000000000 + kp = N * (10 * K) % 10000000000000000000000) (hK : ∃ J, J * (10 * K) = 10000000000000000000000) (hk0 : 0 < K) :
    (10 * N + d) * K % 10000000000000000000000 = wh * 100000000000000000 + kp + d * K ∧ ((10000000000000000000000 ≤ (10 * N + d) * K) ↔ 10000000000000000000000 ≤ N * (10 * K)) := by
  obtain ⟨J, hJ⟩ := hK
  rw [h1]
  have e : (10 * N + d) * K = N * (10 * K) + d * K := by grind
  rw [e, ← hJ]
  have m : N * (10 * K) % (J * (10 * K)) = (N % J) * (10 * K) := Nat.mul_mod_mul_right _ _ _
  have q : N * (10 * K) / (J * (10 * K)) = N / J := Nat.mul_div_mul_right _ _ (by omega)
  have J0 : 0 < J := by
    refine Nat.pos_of_ne_zero fun e => ?_
    subst e; simp at hJ
  have l : N % J + 1 ≤ J := Nat.mod_lt _ J0
  have l2 : (N % J + 1) * (10 * K) ≤ J * (10 * K) := Nat.mul_le_mul_right _ l
  have l3 : d * K ≤ 9 * K := Nat.mul_le_mul_right _ (by omega)
  have dm := Nat.div_add_mod (N * (10 * K)) (J * (10 * K))
  rw [m, q] at dm
  generalize N % J = r at *
  generalize N / J = Q at *
  rw [Nat.add_mul, Nat.one_mul] at l2
  rw [m]
  generalize r * (10 * K) = R at *
  generalize N * (10 * K) = T at *
  generalize d * K = D at *
  generalize J * (10 * K) = M at *
  have lt : R + D < M := by omega
  refine ⟨?_, ?_⟩
  · rw [← dm, Nat.add_assoc, Nat.mul_add_mod]
    exact Nat.mod_eq_of_lt lt
  · rw [← dm]
    rcases Nat.eq_zero_or_pos Q with rfl | hQ
    · simp; omega
    · have : M * 1 ≤ M * Q := Nat.mul_le_mul_left _ hQ
      omega
theorem Kept.mid {N : Nat} {e : Int} {wh kp : Nat} {more great : Bool} (h : Kept N e wh kp more great) (d : Nat) (hd : d < 10) (E : Nat) (he : e = ((E + 1 : Nat) : Int)) (h22 : E < 22) :
    flr (10 * N + d) (e - 1) % 10000000000000000000000 = wh * 100000000000000000 + kp + d * 10 ^ E ∧ more = rst (10 * N + d) (e - 1) ∧ great = decide (10000000000000000000000 ≤ flr (10 * N + d) (e - 1)) := by
  subst he
  have e1 : ((E + 1 : Nat) : Int) - 1 = (E : Int) := by omega
  obtain ⟨h1, h2, h3, h4, h5⟩ := h
  rw [flr_nat, Nat.pow_succ, Nat.mul_comm (10 ^ E) 10] at h1 h5
  rw [rst_nat] at h4
  have m := mid_step N d wh kp (10 ^ E) hd h1 ⟨10 ^ (21 - E), by rw [Nat.mul_comm 10 (10 ^ E), ← Nat.pow_succ, ← Nat.pow_add, show 21 - E + (E + 1) = 22 from by omega]⟩ (Nat.pow_pos (by decide))
  rw [e1, flr_nat, rst_nat]
  exact ⟨m.1, h4, by rw [h5]; exact decide_eq_decide.2 m.2.symm⟩
theorem whole_arith (wh kp x F : Nat) (m : F = wh * 100000000000000000 + kp + x * 100000000000000000) (l : F < 10000000000000000000000) : (wh + x) * 100000000000000000 + kp = F ∧ wh + x < 100000 := by omega
theorem Kept.whole {N : Nat} {e : Int} {wh kp : Nat} {more great : Bool} (h : Kept N e wh kp more great) (d : Nat) (hd : d < 10) (E : Nat) (he : e = ((E + 18 : Nat) : Int)) (h22 : E < 5) : Kept (10 * N + d) (e - 1) (wh + d * 10 ^ E) kp more great := by
  have m := h.mid d hd (E + 17) he (by omega)
  obtain ⟨h1, h2, h3, h4, h5⟩ := h
  have p : d * 10 ^ (E + 17) = d * 10 ^ E * 100000000000000000 := by rw [Nat.pow_add, Nat.mul_assoc]
  rw [p] at m
  have l := Nat.mod_lt (flr (10 * N + d) (e - 1)) (show 10000000000000000000000 > 0 by decide)
  have r := whole_arith wh kp (d * 10 ^ E) _ m.1 l
  exact ⟨r.1, r.2, h3, m.2.1, m.2.2⟩
theorem Kept.frac {N : Nat} {e : Int} {wh kp : Nat} {more great : Bool} (h : Kept N e wh kp more great) (d : Nat) (hd : d < 10) (E : Nat) (he : e = ((E + 1 : Nat) : Int)) (h17 : E < 17) : Kept (10 * N + d) (e - 1) wh (kp + d * 10 ^ E) more great := by
  have m := h.mid d hd E he (by omega)
  obtain ⟨h1, h2, h3, h4, h5⟩ := h
  refine ⟨by rw [m.1, Nat.add_assoc], h2, ?_, m.2.1, m.2.2⟩
  subst he
  rw [flr_nat, Nat.pow_succ] at h1
  have hE : E = 0 ∨ E = 1 ∨ E = 2 ∨ E = 3 ∨ E = 4 ∨ E = 5 ∨ E = 6 ∨ E = 7 ∨ E = 8 ∨ E = 9 ∨ E = 10 ∨ E = 11 ∨ E = 12 ∨ E = 13 ∨ E = 14 ∨ E = 15 ∨ E = 16 := by omega
  clear m
  rcases hE with rfl | rfl | rfl | rfl | rfl | rfl | rfl | rfl | rfl | rfl | rfl | rfl | rfl | rfl | rfl | rfl | rfl <;> simp at h1 ⊢ <;> omega

/-- The number's answer: the nearest whole number to 65536 times D times 10^p, with its sign. -/
def sg (neg : Bool) (x : Nat) : Int := if neg then -(x : Int) else (x : Int)
def nearV (neg : Bool) (D : Nat) (p : Int) : Int := near (sg neg (D * 65536 * 10 ^ p.toNat)) (10 ^ (-p).toNat)

theorem near_pos_arith (Y c : Nat) (hc : 0 < c) : near (65536 * (Y : Int)) c = (((131072 * Y) / c + 1) / 2 : Nat) := by
  unfold near
  have e1 : ((131072 * Y) / c + 1) / 2 = (131072 * Y + c) / (c * 2) := by rw [← Nat.div_div_eq_div_mul, Nat.add_div_right _ hc]
  have e2 : (65536 * Y + c / 2) / c = (131072 * Y + c) / (2 * c) := by
    rw [← Nat.div_div_eq_div_mul, show (131072 * Y + c) / 2 = 65536 * Y + c / 2 from by omega]
  rw [e1, Nat.mul_comm c 2, ← e2, show 65536 * (Y : Int) + (c : Int) / 2 = ((65536 * Y + c / 2 : Nat) : Int) from by omega]
  exact (Int.natCast_ediv _ _).symm
theorem sg_true (x : Nat) : sg true x = -(x : Int) := rfl
theorem sg_false (x : Nat) : sg false x = (x : Int) := rfl
/-- Below 0: the half goes towards 0. -/
theorem near_neg_arith (Y c H r : Nat) (hc : 0 < c) (h : 131072 * Y = H * c + r) (hr : r < c) : near (-(65536 * (Y : Int))) c = -(((H + (if r = 0 then 0 else 1)) / 2 : Nat) : Int) := by
  unfold near
  generalize hM : (H + (if r = 0 then 0 else 1)) / 2 = M
  have hM2 : H + (if r = 0 then 0 else 1) = 2 * M ∨ H + (if r = 0 then 0 else 1) = 2 * M + 1 := by omega
  clear hM
  have key : -(65536 * (Y : Int)) + (c : Int) / 2 = -(M : Int) * c + ((M : Int) * c - 65536 * Y + (c : Int) / 2) := by rw [Int.neg_mul]; omega
  have i : (131072 : Int) * Y = H * c + r := by
    have := congrArg (fun n : Nat => (n : Int)) h
    simp only [Int.natCast_add, Int.natCast_mul] at this
    omega
  have hc2 : (0 : Int) < c := by omega
  rw [key, Int.add_comm, Int.add_mul_ediv_right _ _ (by omega)]
  have z : ((M : Int) * c - 65536 * Y + (c : Int) / 2) / c = 0 := by
    refine Int.ediv_eq_zero_of_lt ?_ ?_
    · by_cases h0 : r = 0
      · subst h0
        rw [if_pos rfl] at hM2
        rcases hM2 with e | e
        · have : (H : Int) * c = 2 * ((M : Int) * c) := by rw [show (H : Int) = 2 * M from by omega, Int.mul_assoc]
          omega
        · have : (H : Int) * c = 2 * ((M : Int) * c) + c := by rw [show (H : Int) = 2 * M + 1 from by omega, Int.add_mul, Int.mul_assoc]; omega
          omega
      · rw [if_neg h0] at hM2
        rcases hM2 with e | e
        · have : (H : Int) * c = 2 * ((M : Int) * c) - c := by rw [show (H : Int) = 2 * M - 1 from by omega, Int.sub_mul, Int.mul_assoc]; omega
          omega
        · have : (H : Int) * c = 2 * ((M : Int) * c) := by rw [show (H : Int) = 2 * M from by omega, Int.mul_assoc]
          omega
    · by_cases h0 : r = 0
      · subst h0
        rw [if_pos rfl] at hM2
        rcases hM2 with e | e
        · have : (H : Int) * c = 2 * ((M : Int) * c) := by rw [show (H : Int) = 2 * M from by omega, Int.mul_assoc]
          omega
        · have : (H : Int) * c = 2 * ((M : Int) * c) + c := by rw [show (H : Int) = 2 * M + 1 from by omega, Int.add_mul, Int.mul_assoc]; omega
          omega
      · rw [if_neg h0] at hM2
        rcases hM2 with e | e
        · have : (H : Int) * c = 2 * ((M : Int) * c) - c := by rw [show (H : Int) = 2 * M - 1 from by omega, Int.sub_mul, Int.mul_assoc]; omega
          omega
        · have : (H : Int) * c = 2 * ((M : Int) * c) := by rw [show (H : Int) = 2 * M from by omega, Int.mul_assoc]
          omega
  rw [z]; omega
end Go.Proofs.YtgiibcnakiggaaaDoor
namespace Go.Proofs.YtgiibcnakiggaaaDoor

def restB (kp : Nat) (more : Bool) : Bool := more || decide (kp % 762939453125 ≠ 0)
def halvesN (wh kp : Nat) : Nat := wh * 131072 + kp / 762939453125
def roundV (neg : Bool) (wh kp : Nat) (more : Bool) : Int :=
  if neg then -(((halvesN wh kp + if restB kp more then 1 else 0) / 2 : Nat) : Int) else ((halvesN wh kp + 1) / 2 : Nat)

/-- The value as a fraction, over what is kept. -/
theorem flr_frac (D : Nat) (p : Int) :
    ∃ ρ, D * 10 ^ p.toNat * 100000000000000000 = flr D (p + 17) * 10 ^ (-p).toNat + ρ ∧ ρ < 10 ^ (-p).toNat ∧ rst D (p + 17) = decide (ρ ≠ 0) := by
  by_cases a : 0 ≤ p
  · obtain ⟨P, rfl⟩ : ∃ P : Nat, p = (P : Int) := ⟨p.toNat, by omega⟩
    have e : (P : Int) + 17 = ((P + 17 : Nat) : Int) := by omega
    refine ⟨0, ?_, Nat.pow_pos (by decide), ?_⟩
    · rw [e, flr_nat, show ((P : Int)).toNat = P from by omega, show (-(P : Int)).toNat = 0 from by omega, Nat.pow_add, Nat.pow_zero, Nat.mul_one, Nat.add_zero, Nat.mul_assoc]
    · rw [e, rst_nat]; rfl
  · by_cases b : -17 ≤ p
    · obtain ⟨m, rfl⟩ : ∃ m : Nat, p = -(m : Int) := ⟨(-p).toNat, by omega⟩
      have e : -(m : Int) + 17 = ((17 - m : Nat) : Int) := by omega
      refine ⟨0, ?_, Nat.pow_pos (by decide), ?_⟩
      · rw [e, flr_nat, show (-(m : Int)).toNat = 0 from by omega, show (- -(m : Int)).toNat = m from by omega, Nat.pow_zero, Nat.mul_one, Nat.add_zero, Nat.mul_assoc, ← Nat.pow_add, show 17 - m + m = 17 from by omega]
      · rw [e, rst_nat]; rfl
    · obtain ⟨m, rfl⟩ : ∃ m : Nat, p = -((m + 17 : Nat) : Int) := ⟨(-p - 17).toNat, by omega⟩
      have e : -((m + 17 : Nat) : Int) + 17 = -(m : Int) := by omega
      have p0 : 0 < 10 ^ m := Nat.pow_pos (by decide)
      refine ⟨D % 10 ^ m * 100000000000000000, ?_, ?_, ?_⟩
      · rw [e, flr_neg, show (-((m + 17 : Nat) : Int)).toNat = 0 from by omega, show (- -((m + 17 : Nat) : Int)).toNat = m + 17 from by omega, Nat.pow_zero, Nat.mul_one, Nat.pow_add]
        show D * 100000000000000000 = D / 10 ^ m * (10 ^ m * 100000000000000000) + D % 10 ^ m * 100000000000000000
        rw [← Nat.mul_assoc, ← Nat.add_mul, Nat.mul_comm (D / 10 ^ m), Nat.div_add_mod]
      · rw [show (- -((m + 17 : Nat) : Int)).toNat = m + 17 from by omega, Nat.pow_add]
        have := Nat.mod_lt D p0
        generalize D % 10 ^ m = x at *
        generalize 10 ^ m = y at *
        show x * 100000000000000000 < y * 100000000000000000
        omega
      · rw [e, rst_neg]
        refine decide_eq_decide.2 ?_
        omega

theorem kept_frac {D : Nat} {p : Int} {wh kp : Nat} {more : Bool} (h : Kept D (p + 17) wh kp more false) :
    ∃ ρ, D * 10 ^ p.toNat * 100000000000000000 = (wh * 100000000000000000 + kp) * 10 ^ (-p).toNat + ρ ∧ ρ < 10 ^ (-p).toNat ∧ more = decide (ρ ≠ 0) := by
  obtain ⟨h1, _, _, h4, h5⟩ := h
  have hlt : flr D (p + 17) < 10000000000000000000000 := by simpa using h5
  rw [Nat.mod_eq_of_lt hlt] at h1
  rw [h1, h4]
  exact flr_frac D p

theorem halves_arith (X c T H t a kp wh ρ : Nat) (hT : T = wh * 100000000000000000 + kp) (hH : H = wh * 131072 + a) (ht : 762939453125 * a + t = kp) (t1 : t ≤ 762939453124) (h : X * 100000000000000000 = T * c + ρ) (hρ : ρ < c) :
    ∃ r, 131072 * X = H * c + r ∧ r < c ∧ (r = 0 ↔ t = 0 ∧ ρ = 0) := by
  have e : T = H * 762939453125 + t := by
    rw [hT, ← ht, hH, Nat.add_mul, Nat.mul_assoc wh, Nat.mul_comm a, Nat.add_assoc]
  rw [e, Nat.add_mul, Nat.mul_right_comm] at h
  have l : t * c ≤ 762939453124 * c := Nat.mul_le_mul_right _ t1
  have z : t * c = 0 ↔ t = 0 := by
    constructor
    · intro e; rcases Nat.mul_eq_zero.1 e with e | e; exact e; omega
    · rintro rfl; simp
  clear hH hT ht e
  refine ⟨131072 * X - H * c, ?_, ?_, ?_⟩
  · generalize H * c = A at *; generalize t * c = B at *; omega
  · generalize H * c = A at *; generalize t * c = B at *; omega
  · rw [← z]; generalize H * c = A at *; generalize t * c = B at *; omega

theorem round_near {D : Nat} {p : Int} {wh kp : Nat} {more : Bool} (neg : Bool) (h : Kept D (p + 17) wh kp more false) : roundV neg wh kp more = nearV neg D p := by
  obtain ⟨ρ, h1, h2, h3⟩ := kept_frac h
  have c0 : 0 < 10 ^ (-p).toNat := Nat.pow_pos (by decide)
  unfold roundV nearV
  rw [show D * 65536 * 10 ^ p.toNat = 65536 * (D * 10 ^ p.toNat) from by rw [Nat.mul_comm D 65536, Nat.mul_assoc]]
  generalize D * 10 ^ p.toNat = X at *
  generalize 10 ^ (-p).toNat = c at *
  obtain ⟨r, r1, r2, r3⟩ := halves_arith X c _ (halvesN wh kp) (kp % 762939453125) (kp / 762939453125) kp wh ρ rfl rfl (Nat.div_add_mod _ _) (Nat.le_of_lt_succ (Nat.mod_lt _ (by decide))) h1 h2
  have hr : (if restB kp more then 1 else 0) = if r = 0 then 0 else 1 := by
    unfold restB
    rw [h3]
    by_cases a : r = 0
    · have := r3.1 a; simp [a, this]
    · rw [if_neg a, if_pos]
      simp only [Bool.or_eq_true, decide_eq_true_eq]
      by_cases b : ρ = 0
      · exact Or.inr fun e => a (r3.2 ⟨e, b⟩)
      · exact Or.inl b
  generalize halvesN wh kp = H at *
  cases neg
  · rw [sg_false]
    have := near_pos_arith X c c0
    rw [r1, Nat.add_comm (H * c), Nat.mul_comm H c, Nat.add_mul_div_left _ _ c0, Nat.div_eq_of_lt r2, Nat.zero_add] at this
    simp only [Bool.false_eq_true, if_false]
    rw [← this]; congr 1
  · rw [sg_true]
    have := near_neg_arith X c H r c0 r1 r2
    simp only [if_true]
    rw [hr, ← this]; congr 1

/-- The answer that is told: the number and the error. -/
def ansV (n : Int) : Int × Int := if -4294967296 < n ∧ n < 4294967296 then (n, 0) else (0, 2)
/-- Too great: a digit ahead of all that is kept. -/
theorem great_near {D : Nat} {p : Int} {wh kp : Nat} {more : Bool} (neg : Bool) (h : Kept D (p + 17) wh kp more true) : ansV (nearV neg D p) = (0, 2) := by
  have hT : 10000000000000000000000 ≤ flr D (p + 17) := by have := h.hg; simpa using this.symm
  obtain ⟨ρ, h1, _, _⟩ := flr_frac D p
  have c0 : 0 < 10 ^ (-p).toNat := Nat.pow_pos (by decide)
  unfold nearV
  rw [show D * 65536 * 10 ^ p.toNat = 65536 * (D * 10 ^ p.toNat) from by rw [Nat.mul_comm D 65536, Nat.mul_assoc]]
  generalize D * 10 ^ p.toNat = X at *
  generalize 10 ^ (-p).toNat = c at *
  generalize flr D (p + 17) = T at *
  have l : 10000000000000000000000 * c ≤ T * c := Nat.mul_le_mul_right _ hT
  have x : 100000 * c ≤ X := by omega
  clear h1 l hT
  refine if_neg ?_
  rintro ⟨a, b⟩
  have ci : (0 : Int) < c := by omega
  unfold near at a b
  cases neg
  · rw [sg_false] at b
    have : (6553600000 : Int) ≤ (((65536 * X : Nat) : Int) + (c : Int) / 2) / c := by
      rw [Int.le_ediv_iff_mul_le ci]; omega
    omega
  · rw [sg_true] at a
    have : (-((65536 * X : Nat) : Int) + (c : Int) / 2) / c ≤ -6553600000 := by
      refine Int.le_of_lt_add_one ?_
      rw [Int.ediv_lt_iff_lt_mul ci]; omega
    omega
end Go.Proofs.YtgiibcnakiggaaaDoor
namespace Go.Proofs.YtgiibcnakiggaaaDoor

def SgnL (l : List UInt8) : Prop := l = [] ∨ l = [43] ∨ l = [45]
abbrev Expo := Option (UInt8 × List UInt8 × List UInt8)
def expo : Expo → List UInt8
  | none => []
  | some (c, s, d) => c :: (s ++ d)
def XOk : Expo → Prop
  | none => True
  | some (c, s, d) => isLet c = true ∧ SgnL s ∧ AllDig d ∧ d ≠ []
def ptL (pt : Bool) (b : List UInt8) : List UInt8 := if pt then 46 :: b else []

/-- The text is the sign, the digits, the point and its digits, and the power. -/
structure IsNum (l sg a : List UInt8) (pt : Bool) (b : List UInt8) (x : Expo) : Prop where
  hsg : SgnL sg
  ha : AllDig a
  hb : AllDig b
  hpt : pt = false → b = []
  h0 : 0 < a.length + b.length
  hx : XOk x
  text : l = sg ++ (a ++ ptL pt b ++ expo x)

def exV : Expo → Int
  | none => 0
  | some (_, s, d) => sg (decide (s = [45])) (nat10 d)
/-- The text's answer. -/
def ansF (s a b : List UInt8) (x : Expo) : Int × Int := ansV (nearV (decide (s = [45])) (nat10 (a ++ b)) (exV x - b.length))

/-- The walk goes to the end, and may end there. -/
def Acc (l : List UInt8) (st : Nat) : Prop := (walkL l st).1 = l.length ∧ wholeS (walkL l st).2 = true
theorem acc_nil (st : Nat) : Acc [] st ↔ wholeS st = true := by simp [Acc, walkL]
theorem acc_cons (b : UInt8) (t : List UInt8) (st : Nat) : Acc (b :: t) st ↔ follow st (kindB b) ≠ 0 ∧ Acc t (follow st (kindB b)) := by
  unfold Acc
  constructor
  · intro h
    unfold walkL at h
    by_cases e : follow st (kindB b) = 0
    · rw [if_pos e] at h; simp at h
    · rw [if_neg e] at h
      simp at h
      exact ⟨e, h⟩
  · rintro ⟨e, h1, h2⟩
    unfold walkL
    rw [if_neg e]
    simp
    exact ⟨h1, h2⟩

theorem eq_of_toNat {a b : UInt8} (h : a.toNat = b.toNat) : a = b := UInt8.toNat_inj.1 h
theorem sgn_eq {b : UInt8} (h : isSgn b = true) : b = 43 ∨ b = 45 := by
  have : b.toNat = 43 ∨ b.toNat = 45 := by simpa [isSgn] using h
  rcases this with e | e
  · exact Or.inl (eq_of_toNat e)
  · exact Or.inr (eq_of_toNat e)
theorem pt_eq {b : UInt8} (h : isPt b = true) : b = 46 := eq_of_toNat (by simpa [isPt] using h)
theorem sgnL_one {b : UInt8} (h : isSgn b = true) : SgnL [b] := by
  rcases sgn_eq h with rfl | rfl
  · exact Or.inr (Or.inl rfl)
  · exact Or.inr (Or.inr rfl)
theorem allDig_nil : AllDig [] := fun _ h => by cases h
theorem allDig_cons {b : UInt8} {t : List UInt8} (h : isDig b = true) (ht : AllDig t) : AllDig (b :: t) := fun x hx => by
  rcases List.mem_cons.1 hx with rfl | hx
  · exact h
  · exact ht x hx
theorem kind_sgn {b : UInt8} (h : isSgn b = true) : kindB b = 1 := by have := sgn_not h; simp [kindB, h, this]
theorem kind_pt {b : UInt8} (h : isPt b = true) : kindB b = 2 := by have := pt_not h; simp [kindB, h, this]
theorem kind_let {b : UInt8} (h : isLet b = true) : kindB b = 3 := by have := let_not h; simp [kindB, h, this]

theorem acc8 : ∀ l : List UInt8, Acc l 8 → AllDig l := by
  intro l
  induction l with
  | nil => intro _; exact allDig_nil
  | cons b t ih =>
    intro h
    rw [acc_cons] at h
    rcases kind_cases b with ⟨k1, k2⟩ | ⟨_, _, k2⟩ | ⟨_, _, _, k2⟩ | ⟨_, _, _, _, k2⟩ | ⟨_, _, _, _, k2⟩ <;> rw [k2] at h <;> simp [follow] at h
    exact allDig_cons k1 (ih h)
theorem acc7 : ∀ l : List UInt8, Acc l 7 → AllDig l ∧ l ≠ [] := by
  intro l h
  cases l with
  | nil => simp [acc_nil, wholeS] at h
  | cons b t =>
    rw [acc_cons] at h
    rcases kind_cases b with ⟨k1, k2⟩ | ⟨_, _, k2⟩ | ⟨_, _, _, k2⟩ | ⟨_, _, _, _, k2⟩ | ⟨_, _, _, _, k2⟩ <;> rw [k2] at h <;> simp [follow] at h
    exact ⟨allDig_cons k1 (acc8 t h), by simp⟩
theorem acc6 : ∀ l : List UInt8, Acc l 6 → ∃ s d, SgnL s ∧ AllDig d ∧ d ≠ [] ∧ l = s ++ d := by
  intro l h
  cases l with
  | nil => simp [acc_nil, wholeS] at h
  | cons b t =>
    rw [acc_cons] at h
    rcases kind_cases b with ⟨k1, k2⟩ | ⟨_, k1, k2⟩ | ⟨_, _, _, k2⟩ | ⟨_, _, _, _, k2⟩ | ⟨_, _, _, _, k2⟩ <;> rw [k2] at h <;> simp [follow] at h
    · exact ⟨[], b :: t, Or.inl rfl, allDig_cons k1 (acc8 t h), by simp, rfl⟩
    · exact ⟨[b], t, sgnL_one k1, (acc7 t h).1, (acc7 t h).2, rfl⟩
theorem acc_let {b : UInt8} {t : List UInt8} (hb : isLet b = true) (h : Acc t 6) : ∃ x, XOk x ∧ b :: t = expo x := by
  obtain ⟨s, d, h1, h2, h3, rfl⟩ := acc6 t h
  exact ⟨some (b, s, d), ⟨hb, h1, h2, h3⟩, rfl⟩
theorem acc5 : ∀ l : List UInt8, Acc l 5 → ∃ b x, AllDig b ∧ XOk x ∧ l = b ++ expo x := by
  intro l
  induction l with
  | nil => intro _; exact ⟨[], none, allDig_nil, trivial, rfl⟩
  | cons c t ih =>
    intro h
    rw [acc_cons] at h
    rcases kind_cases c with ⟨k1, k2⟩ | ⟨_, _, k2⟩ | ⟨_, _, _, k2⟩ | ⟨_, _, _, k1, k2⟩ | ⟨_, _, _, _, k2⟩ <;> rw [k2] at h <;> simp [follow] at h
    · obtain ⟨b, x, h1, h2, rfl⟩ := ih h
      exact ⟨c :: b, x, allDig_cons k1 h1, h2, rfl⟩
    · obtain ⟨x, h1, h2⟩ := acc_let k1 h
      exact ⟨[], x, allDig_nil, h1, h2⟩
theorem acc4 : ∀ l : List UInt8, Acc l 4 → ∃ b x, AllDig b ∧ b ≠ [] ∧ XOk x ∧ l = b ++ expo x := by
  intro l h
  cases l with
  | nil => simp [acc_nil, wholeS] at h
  | cons c t =>
    rw [acc_cons] at h
    rcases kind_cases c with ⟨k1, k2⟩ | ⟨_, _, k2⟩ | ⟨_, _, _, k2⟩ | ⟨_, _, _, k1, k2⟩ | ⟨_, _, _, _, k2⟩ <;> rw [k2] at h <;> simp [follow] at h
    obtain ⟨b, x, h1, h2, rfl⟩ := acc5 t h
    exact ⟨c :: b, x, allDig_cons k1 h1, by simp, h2, rfl⟩
theorem acc3 : ∀ l : List UInt8, Acc l 3 → ∃ a pt b x, AllDig a ∧ AllDig b ∧ (pt = false → b = []) ∧ XOk x ∧ l = a ++ ptL pt b ++ expo x := by
  intro l
  induction l with
  | nil => intro _; exact ⟨[], false, [], none, allDig_nil, allDig_nil, fun _ => rfl, trivial, rfl⟩
  | cons c t ih =>
    intro h
    rw [acc_cons] at h
    rcases kind_cases c with ⟨k1, k2⟩ | ⟨_, _, k2⟩ | ⟨_, _, k1, k2⟩ | ⟨_, _, _, k1, k2⟩ | ⟨_, _, _, _, k2⟩ <;> rw [k2] at h <;> simp [follow] at h
    · obtain ⟨a, pt, b, x, h1, h2, h3, h4, rfl⟩ := ih h
      exact ⟨c :: a, pt, b, x, allDig_cons k1 h1, h2, h3, h4, rfl⟩
    · obtain ⟨b, x, h1, h2, rfl⟩ := acc5 t h
      exact ⟨[], true, b, x, allDig_nil, h1, (fun e => by cases e), h2, by rw [pt_eq k1]; rfl⟩
    · obtain ⟨x, h1, h2⟩ := acc_let k1 h
      exact ⟨[], false, [], x, allDig_nil, allDig_nil, fun _ => rfl, h1, h2⟩
theorem acc2 : ∀ l : List UInt8, Acc l 2 → ∃ a pt b x, IsNum l [] a pt b x := by
  intro l h
  cases l with
  | nil => simp [acc_nil, wholeS] at h
  | cons c t =>
    rw [acc_cons] at h
    rcases kind_cases c with ⟨k1, k2⟩ | ⟨_, _, k2⟩ | ⟨_, _, k1, k2⟩ | ⟨_, _, _, k1, k2⟩ | ⟨_, _, _, _, k2⟩ <;> rw [k2] at h <;> simp [follow] at h
    · obtain ⟨a, pt, b, x, h1, h2, h3, h4, rfl⟩ := acc3 t h
      exact ⟨c :: a, pt, b, x, Or.inl rfl, allDig_cons k1 h1, h2, h3, by simp; omega, h4, rfl⟩
    · obtain ⟨b, x, h1, h2, h3, rfl⟩ := acc4 t h
      exact ⟨[], true, b, x, Or.inl rfl, allDig_nil, h1, (fun e => by cases e), by have := List.length_pos_iff.2 h2; simp; omega, h3, by rw [pt_eq k1]; rfl⟩
/-- A text that the walk takes whole is a number's. -/
theorem acc1 (l : List UInt8) (h : Acc l 1) : ∃ s a pt b x, IsNum l s a pt b x := by
  cases l with
  | nil => simp [acc_nil, wholeS] at h
  | cons c t =>
    rcases kind_cases c with ⟨k1, k2⟩ | ⟨_, k1, k2⟩ | ⟨_, _, k1, k2⟩ | ⟨_, _, _, k1, k2⟩ | ⟨_, _, _, _, k2⟩
    · obtain ⟨a, pt, b, x, hh⟩ := acc2 (c :: t) (by rw [acc_cons, k2] at h ⊢; exact h)
      exact ⟨[], a, pt, b, x, hh⟩
    · rw [acc_cons, k2] at h
      obtain ⟨a, pt, b, x, hh⟩ := acc2 t h.2
      exact ⟨[c], a, pt, b, x, sgnL_one k1, hh.ha, hh.hb, hh.hpt, hh.h0, hh.hx, by rw [hh.text]; rfl⟩
    · obtain ⟨a, pt, b, x, hh⟩ := acc2 (c :: t) (by rw [acc_cons, k2] at h ⊢; exact h)
      exact ⟨[], a, pt, b, x, hh⟩
    · rw [acc_cons, k2] at h; simp [follow] at h
    · rw [acc_cons, k2] at h; simp [follow] at h

theorem digs_acc (st : Nat) (hst : follow st 0 = st) (h0 : st ≠ 0) : ∀ a t : List UInt8, AllDig a → Acc t st → Acc (a ++ t) st := by
  intro a t ha ht
  induction a with
  | nil => exact ht
  | cons b a ih =>
    show Acc (b :: (a ++ t)) st
    rw [acc_cons, kind_dig (ha b (by simp)), hst]
    exact ⟨h0, ih (fun x hx => ha x (by simp [hx]))⟩
theorem expo_acc (x : Expo) (h : XOk x) : ∀ st, (st = 3 ∨ st = 5) → Acc (expo x) st := by
  intro st hst
  cases x with
  | none => rcases hst with rfl | rfl <;> simp [expo, acc_nil, wholeS]
  | some y =>
    obtain ⟨c, s, d⟩ := y
    obtain ⟨h1, h2, h3, h4⟩ := h
    have e8 : ∀ d : List UInt8, AllDig d → Acc d 8 := fun d hd => by
      have := digs_acc 8 rfl (by decide) d [] hd (by simp [acc_nil, wholeS])
      simpa using this
    have e6 : Acc (s ++ d) 6 := by
      cases d with
      | nil => exact absurd rfl h4
      | cons b t =>
        have hb := h3 b (by simp)
        have ht := e8 t (fun x hx => h3 x (by simp [hx]))
        rcases h2 with rfl | rfl | rfl
        · show Acc (b :: t) 6
          rw [acc_cons, kind_dig hb]
          exact ⟨by decide, ht⟩
        · show Acc (43 :: b :: t) 6
          rw [acc_cons, acc_cons, kind_dig hb]
          exact ⟨by decide, by decide, ht⟩
        · show Acc (45 :: b :: t) 6
          rw [acc_cons, acc_cons, kind_dig hb]
          exact ⟨by decide, by decide, ht⟩
    show Acc (c :: (s ++ d)) st
    rw [acc_cons, kind_let h1]
    rcases hst with rfl | rfl <;> exact ⟨by decide, e6⟩
/-- A number's text is taken whole. -/
theorem IsNum.acc {l s a : List UInt8} {pt : Bool} {b : List UInt8} {x : Expo} (h : IsNum l s a pt b x) : Acc l 1 := by
  obtain ⟨hsg, ha, hb, hpt, h0, hx, rfl⟩ := h
  have t5 : Acc (b ++ expo x) 5 := digs_acc 5 rfl (by decide) b _ hb (expo_acc x hx 5 (Or.inr rfl))
  have t3 : Acc (ptL pt b ++ expo x) 3 := by
    cases pt with
    | false => exact expo_acc x hx 3 (Or.inl rfl)
    | true => show Acc (46 :: (b ++ expo x)) 3
              rw [acc_cons]
              exact ⟨by decide, t5⟩
  have body : ∀ st, (st = 1 ∨ st = 2) → Acc (a ++ ptL pt b ++ expo x) st := by
    intro st hst
    rw [List.append_assoc]
    cases a with
    | cons c a =>
      show Acc (c :: (a ++ (ptL pt b ++ expo x))) st
      rw [acc_cons, kind_dig (ha c (by simp))]
      have := digs_acc 3 rfl (by decide) a _ (fun x hx => ha x (by simp [hx])) t3
      rcases hst with rfl | rfl <;> exact ⟨by decide, this⟩
    | nil =>
      cases b with
      | nil => simp at h0
      | cons c b =>
        cases pt with
        | false => exact absurd (hpt rfl) (by simp)
        | true =>
          show Acc (46 :: c :: (b ++ expo x)) st
          have := digs_acc 5 rfl (by decide) b _ (fun x hx => hb x (by simp [hx])) (expo_acc x hx 5 (Or.inr rfl))
          rw [acc_cons, acc_cons]
          have k : kindB (46 : UInt8) = 2 := by decide
          rw [k, kind_dig (hb c (by simp))]
          rcases hst with rfl | rfl <;> exact ⟨by decide, by decide, this⟩
  rcases hsg with rfl | rfl | rfl
  · exact body 1 (Or.inl rfl)
  · show Acc (43 :: (a ++ ptL pt b ++ expo x)) 1
    rw [acc_cons]
    exact ⟨by decide, body 2 (Or.inr rfl)⟩
  · show Acc (45 :: (a ++ ptL pt b ++ expo x)) 1
    rw [acc_cons]
    exact ⟨by decide, body 2 (Or.inr rfl)⟩
end Go.Proofs.YtgiibcnakiggaaaDoor
namespace Go.Proofs.YtgiibcnakiggaaaDoor
open Go

theorem has_let (b : UInt8) : ([101, 69] : List UInt8).contains b = isLet b := by
  rw [Bool.eq_iff_iff]
  simp only [List.contains_cons, List.contains_nil, Bool.or_false, Bool.or_eq_true, beq_iff_eq, isLet]
  exact or_congr ⟨fun h => by rw [h]; rfl, fun h => eq_of_toNat h⟩ ⟨fun h => by rw [h]; rfl, fun h => eq_of_toNat h⟩
theorem has_sgn (b : UInt8) : ([43, 45] : List UInt8).contains b = isSgn b := by
  rw [Bool.eq_iff_iff]
  simp only [List.contains_cons, List.contains_nil, Bool.or_false, Bool.or_eq_true, beq_iff_eq, isSgn]
  exact or_congr ⟨fun h => by rw [h]; rfl, fun h => eq_of_toNat h⟩ ⟨fun h => by rw [h]; rfl, fun h => eq_of_toNat h⟩

theorem indexAny_none (l : List UInt8) (h : ∀ b ∈ l, isLet b = false) : Lib.indexAny l [101, 69] = -1 := by
  induction l with
  | nil => rfl
  | cons b t ih =>
    unfold Lib.indexAny
    rw [has_let, h b (by simp), ih (fun x hx => h x (by simp [hx]))]
    rfl
theorem indexAny_at (m : List UInt8) (c : UInt8) (t : List UInt8) (h : ∀ b ∈ m, isLet b = false) (hc : isLet c = true) : Lib.indexAny (m ++ c :: t) [101, 69] = m.length := by
  induction m with
  | nil => show Lib.indexAny (c :: t) [101, 69] = _
           unfold Lib.indexAny
           rw [has_let, hc]; rfl
  | cons b m ih =>
    show Lib.indexAny (b :: (m ++ c :: t)) [101, 69] = _
    unfold Lib.indexAny
    rw [has_let, h b (by simp), ih (fun x hx => h x (by simp [hx]))]
    have : ((m.length : Int) == -1) = false := by rw [beq_eq_false_iff_ne]; omega
    rw [this]
    simp
theorem index_none (l : List UInt8) (h : AllDig l) : Lib.index l [46] = -1 := by
  induction l with
  | nil => rfl
  | cons b t ih =>
    unfold Lib.index
    have hb : (46 == b) = false := by
      have := (dig_not (h b (by simp))).2.1
      rw [beq_eq_false_iff_ne]
      rintro rfl
      simp [isPt] at this
    rw [ih (fun x hx => h x (by simp [hx]))]
    simp [List.isPrefixOf, hb]
theorem index_at (a b : List UInt8) (h : AllDig a) : Lib.index (a ++ 46 :: b) [46] = a.length := by
  induction a with
  | nil => show Lib.index (46 :: b) [46] = _
           unfold Lib.index; simp [List.isPrefixOf]
  | cons c a ih =>
    show Lib.index (c :: (a ++ 46 :: b)) [46] = _
    unfold Lib.index
    have hb : (46 == c) = false := by
      have := (dig_not (h c (by simp))).2.1
      rw [beq_eq_false_iff_ne]
      rintro rfl
      simp [isPt] at this
    rw [ih (fun x hx => h x (by simp [hx]))]
    have : ((a.length : Int) == -1) = false := by rw [beq_eq_false_iff_ne]; omega
    simp [List.isPrefixOf, hb, this]
theorem cut_pt (a b : List UInt8) (pt : Bool) (ha : AllDig a) (hpt : pt = false → b = []) : Lib.cut (a ++ ptL pt b) [46] = (a, b, pt) := by
  unfold Lib.cut
  cases pt with
  | false =>
    have : ptL false b = [] := rfl
    rw [this, List.append_nil, index_none a ha, hpt rfl]; rfl
  | true =>
    have : ptL true b = 46 :: b := rfl
    rw [this, index_at a b ha, if_pos (by omega)]
    simp
theorem trim_sgn (s body : List UInt8) (hs : SgnL s) (hb : headIs isSgn body = false) : Lib.trimLeftS (s ++ body) [43, 45] = body := by
  have e : Lib.trimLeftS body [43, 45] = body := by
    unfold Lib.trimLeftS
    cases body with
    | nil => rfl
    | cons b t => rw [List.dropWhile_cons, has_sgn]; rw [show isSgn b = false from hb]; rfl
  rcases hs with rfl | rfl | rfl
  · exact e
  · show Lib.trimLeftS (43 :: body) [43, 45] = _
    unfold Lib.trimLeftS at e ⊢
    rw [List.dropWhile_cons, if_pos (by decide)]; exact e
  · show Lib.trimLeftS (45 :: body) [43, 45] = _
    unfold Lib.trimLeftS at e ⊢
    rw [List.dropWhile_cons, if_pos (by decide)]; exact e
theorem head_digs {d : List UInt8} (h : AllDig d) : headIs isSgn d = false := by
  cases d with
  | nil => rfl
  | cons b t => exact (dig_not (h b (by simp))).1
theorem head_body {l s a : List UInt8} {pt : Bool} {b : List UInt8} {x : Expo} (h : IsNum l s a pt b x) : headIs isSgn (a ++ ptL pt b) = false := by
  cases a with
  | nil => cases pt <;> rfl
  | cons c t => exact (dig_not (h.ha c (by simp))).1
theorem pre_neg (s body : List UInt8) (hs : SgnL s) (hb : headIs isSgn body = false) : Lib.hasPrefix (s ++ body) [45] = decide (s = [45]) := by
  rcases hs with rfl | rfl | rfl
  · cases body with
    | nil => rfl
    | cons b t =>
      have : (45 == b) = false := by
        rw [beq_eq_false_iff_ne]; rintro rfl
        have hb : isSgn 45 = false := hb
        simp [isSgn] at hb
      simp [Lib.hasPrefix, List.isPrefixOf, this]
  · rfl
  · simp [Lib.hasPrefix, List.isPrefixOf]
/-- No letter ahead of the power. -/
theorem no_let {l s a : List UInt8} {pt : Bool} {b : List UInt8} {x : Expo} (h : IsNum l s a pt b x) : ∀ c ∈ s ++ (a ++ ptL pt b), isLet c = false := by
  intro c hc
  rcases List.mem_append.1 hc with hc | hc
  · rcases h.hsg with rfl | rfl | rfl
    · cases hc
    · rw [List.mem_singleton.1 hc]; rfl
    · rw [List.mem_singleton.1 hc]; rfl
  · rcases List.mem_append.1 hc with hc | hc
    · exact (dig_not (h.ha c hc)).2.2
    · cases pt with
      | false => cases hc
      | true =>
        rcases List.mem_cons.1 hc with rfl | hc
        · rfl
        · exact (dig_not (h.hb c hc)).2.2
theorem num_ascii {l s a : List UInt8} {pt : Bool} {b : List UInt8} {x : Expo} (h : IsNum l s a pt b x) : ∀ c ∈ l, c.toNat < 128 := by
  have dg : ∀ d : List UInt8, AllDig d → ∀ c ∈ d, c.toNat < 128 := fun d hd c hc => by
    have := hd c hc
    simp [isDig] at this
    omega
  have sn : ∀ d : List UInt8, SgnL d → ∀ c ∈ d, c.toNat < 128 := fun d hd c hc => by
    rcases hd with rfl | rfl | rfl
    · cases hc
    · rw [List.mem_singleton.1 hc]; decide
    · rw [List.mem_singleton.1 hc]; decide
  obtain ⟨hsg, ha, hb, hpt, h0, hx, rfl⟩ := h
  intro c hc
  rcases List.mem_append.1 hc with hc | hc
  · exact sn s hsg c hc
  · rcases List.mem_append.1 hc with hc | hc
    · rcases List.mem_append.1 hc with hc | hc
      · exact dg a ha c hc
      · cases pt with
        | false => cases hc
        | true =>
          rcases List.mem_cons.1 hc with rfl | hc
          · decide
          · exact dg b hb c hc
    · cases x with
      | none => cases hc
      | some y =>
        obtain ⟨e, s', d⟩ := y
        obtain ⟨h1, h2, h3, h4⟩ := hx
        rcases List.mem_cons.1 hc with rfl | hc
        · have : c.toNat = 101 ∨ c.toNat = 69 := by simpa [isLet] using h1
          omega
        · rcases List.mem_append.1 hc with hc | hc
          · exact sn s' h2 c hc
          · exact dg d h3 c hc
end Go.Proofs.YtgiibcnakiggaaaDoor
namespace Go.Proofs.YtgiibcnakiggaaaDoor

/-- Where the walk ends, and whether a number's text may end there. -/
def wk (l : List UInt8) (st : Nat) : Nat × Bool := ((walkL l st).1, wholeS (walkL l st).2)
theorem wk_nil (st : Nat) : wk [] st = (0, wholeS st) := rfl
theorem wk_cons (b : UInt8) (t : List UInt8) (st : Nat) : wk (b :: t) st = if follow st (kindB b) = 0 then (0, wholeS st) else (1 + (wk t (follow st (kindB b))).1, (wk t (follow st (kindB b))).2) := by
  unfold wk
  conv => lhs; unfold walkL
  split
  · rfl
  · refine Prod.ext ?_ rfl
    show _ + 1 = 1 + _
    omega
/-- Digits, gone through in one state. -/
theorem wk_run (st : Nat) (h : follow st 0 = st) (h0 : st ≠ 0) (l : List UInt8) : wk l st = (run l + (wk (l.drop (run l)) st).1, (wk (l.drop (run l)) st).2) := by
  have := walk_run st h h0 l
  unfold wk
  rw [this]
theorem wk_first (st st' : Nat) (h : follow st 0 = st') (h' : follow st' 0 = st') (l : List UInt8) (hr : 0 < run l) (h0 : st' ≠ 0) : wk l st = wk l st' := by
  unfold wk; rw [walk_first st st' h h' l hr h0]
theorem run_head (l : List UInt8) : headIs isDig (l.drop (run l)) = false := by
  induction l with
  | nil => rfl
  | cons b t ih =>
    unfold run
    by_cases h : isDig b = true
    · simp only [h, if_true, List.drop_succ_cons]; exact ih
    · simp [h, headIs]
theorem run_zero (l : List UInt8) (h : headIs isDig l = false) : run l = 0 := by
  cases l with
  | nil => rfl
  | cons b t => have : isDig b = false := h
                simp [run, this]
theorem run_pos (l : List UInt8) (h : headIs isDig l = true) : 0 < run l := by
  cases l with
  | nil => cases h
  | cons b t => have : isDig b = true := h
                simp [run, this]
theorem head_of_run (l : List UInt8) (h : run l = 0) : headIs isDig l = false := by
  cases e : headIs isDig l with
  | false => rfl
  | true => have := run_pos l e; omega

/-- In a state that only digits follow. -/
theorem wk_only (st : Nat) (l : List UInt8) (hd : headIs isDig l = false) (h1 : follow st 1 = 0) (h2 : follow st 2 = 0) (h3 : follow st 3 = 0) : wk l st = (0, wholeS st) := by
  cases l with
  | nil => rfl
  | cons b t =>
    rw [wk_cons]
    have hd : isDig b = false := hd
    rcases kind_cases b with ⟨k1, _⟩ | ⟨_, _, k2⟩ | ⟨_, _, _, k2⟩ | ⟨_, _, _, _, k2⟩ | ⟨_, _, _, _, k2⟩
    · rw [hd] at k1; cases k1
    · rw [k2, if_pos h1]
    · rw [k2, if_pos h2]
    · rw [k2, if_pos h3]
    · rw [k2, if_pos (by unfold follow; split <;> simp_all)]
theorem wk8 (l : List UInt8) : wk l 8 = (run l, true) := by
  rw [wk_run 8 rfl (by decide), wk_only 8 _ (run_head l) rfl rfl rfl]; rfl
theorem wk7 (l : List UInt8) : wk l 7 = (run l, decide (0 < run l)) := by
  by_cases h : 0 < run l
  · rw [wk_first 7 8 rfl rfl l h (by decide), wk8, decide_eq_true h]
  · have h0 : run l = 0 := by omega
    rw [wk_only 7 l (head_of_run l h0) rfl rfl rfl, h0]; rfl
theorem wk6 (l : List UInt8) : wk l 6 = scanPow l := by
  unfold scanPow
  cases l with
  | nil => rfl
  | cons b t =>
    rcases kind_cases b with ⟨k1, k2⟩ | ⟨k0, k1, k2⟩ | ⟨k0, k1, _, k2⟩ | ⟨k0, k1, _, _, k2⟩ | ⟨k0, k1, _, _, k2⟩
    · have n := dig_not k1
      rw [if_neg (by show ¬ isSgn b = true; rw [n.1]; simp)]
      have hp : 0 < run (b :: t) := run_pos _ k1
      rw [wk_first 6 8 rfl rfl _ hp (by decide), wk8, decide_eq_true hp]
    · rw [if_pos (by exact k1), wk_cons, k2, if_neg (by decide)]
      show (1 + (wk t 7).1, (wk t 7).2) = _
      rw [wk7]; rfl
    all_goals
      rw [if_neg (by show ¬ isSgn b = true; rw [k1]; simp), run_zero _ (by exact k0), wk_cons, k2]; rfl
/-- Behind digits and a point. -/
theorem wk5t (l : List UInt8) (hd : headIs isDig l = false) : wk l 5 = scanTail l := by
  unfold scanTail
  cases l with
  | nil => rfl
  | cons b t =>
    have hd : isDig b = false := hd
    rcases kind_cases b with ⟨k1, k2⟩ | ⟨k0, k1, k2⟩ | ⟨k0, k1, k3, k2⟩ | ⟨k0, k1, _, k3, k2⟩ | ⟨k0, k1, _, k3, k2⟩
    · rw [hd] at k1; cases k1
    · rw [if_neg (by show ¬ isLet b = true; rw [(sgn_not k1).2.2]; simp), wk_cons, k2]; rfl
    · rw [if_neg (by show ¬ isLet b = true; rw [(pt_not k3).2.2]; simp), wk_cons, k2]; rfl
    · rw [if_pos (by exact k3), wk_cons, k2, if_neg (by decide)]
      show (1 + (wk t 6).1, (wk t 6).2) = _
      rw [wk6]; rfl
    · rw [if_neg (by show ¬ isLet b = true; rw [k3]; simp), wk_cons, k2]; rfl
theorem wk5 (l : List UInt8) : wk l 5 = (run l + (scanTail (l.drop (run l))).1, (scanTail (l.drop (run l))).2) := by
  rw [wk_run 5 rfl (by decide), wk5t _ (run_head l)]
/-- Behind digits. -/
theorem wk3t (l : List UInt8) (hd : headIs isDig l = false) : wk l 3 = if headIs isPt l then (1 + (wk (l.drop 1) 5).1, (wk (l.drop 1) 5).2) else scanTail l := by
  cases l with
  | nil => rfl
  | cons b t =>
    have hd : isDig b = false := hd
    rcases kind_cases b with ⟨k1, k2⟩ | ⟨k0, k1, k2⟩ | ⟨k0, k1, k3, k2⟩ | ⟨k0, k1, k4, k3, k2⟩ | ⟨k0, k1, k4, k3, k2⟩
    · rw [hd] at k1; cases k1
    · unfold scanTail
      rw [if_neg (by show ¬ isPt b = true; rw [(sgn_not k1).2.1]; simp), if_neg (by show ¬ isLet b = true; rw [(sgn_not k1).2.2]; simp), wk_cons, k2]; rfl
    · rw [if_pos (by exact k3), wk_cons, k2, if_neg (by decide)]; rfl
    · unfold scanTail
      rw [if_neg (by show ¬ isPt b = true; rw [k4]; simp), if_pos (by exact k3), wk_cons, k2, if_neg (by decide)]
      show (1 + (wk t 6).1, (wk t 6).2) = _
      rw [wk6]; rfl
    · unfold scanTail
      rw [if_neg (by show ¬ isPt b = true; rw [k4]; simp), if_neg (by show ¬ isLet b = true; rw [k3]; simp), wk_cons, k2]; rfl
theorem wk4 (l : List UInt8) : wk l 4 = if run l = 0 then (0, false) else wk l 5 := by
  split
  · rename_i h; rw [wk_only 4 l (head_of_run l h) rfl rfl rfl]; rfl
  · exact wk_first 4 5 rfl rfl l (by omega) (by decide)
theorem wk_body (st : Nat) (hst : st = 1 ∨ st = 2) (l : List UInt8) (hs : st = 1 → headIs isSgn l = false) : wk l st = scanBody l := by
  unfold scanBody
  by_cases h0 : run l = 0
  · have hd := head_of_run l h0
    rw [h0, List.drop_zero]
    cases l with
    | nil => rcases hst with rfl | rfl <;> rfl
    | cons b t =>
      have hd : isDig b = false := hd
      rcases kind_cases b with ⟨k1, k2⟩ | ⟨k0, k1, k2⟩ | ⟨k0, k1, k3, k2⟩ | ⟨k0, k1, k4, k3, k2⟩ | ⟨k0, k1, k4, k3, k2⟩
      · rw [hd] at k1; cases k1
      · rw [if_neg (by show ¬ isPt b = true; rw [(sgn_not k1).2.1]; simp), if_pos rfl, wk_cons, k2]
        rcases hst with rfl | rfl
        · have : isSgn b = false := hs rfl
          rw [this] at k1; cases k1
        · rfl
      · rw [if_pos (by exact k3), wk_cons, k2]
        have e : follow st 2 = 4 := by rcases hst with rfl | rfl <;> rfl
        rw [e, if_neg (by decide), wk4]
        have e1 : (b :: t).drop (0 + 1) = t := rfl
        rw [e1]
        by_cases hr : run t = 0
        · rw [if_pos hr, if_pos (And.intro rfl hr)]; rfl
        · rw [if_neg hr, if_neg (show ¬ (0 = 0 ∧ run t = 0) from fun h => hr h.2), wk5]
          have e2 : (b :: t).drop (0 + 1 + run t) = t.drop (run t) := by rw [show 0 + 1 + run t = run t + 1 from by omega, List.drop_succ_cons]
          rw [e2]
          refine Prod.ext ?_ rfl
          show 1 + (run t + _) = _
          omega
      · rw [if_neg (by show ¬ isPt b = true; rw [k4]; simp), if_pos rfl, wk_cons, k2]
        rcases hst with rfl | rfl <;> rfl
      · rw [if_neg (by show ¬ isPt b = true; rw [k4]; simp), if_pos rfl, wk_cons, k2]
        rcases hst with rfl | rfl <;> rfl
  · have e : wk l st = wk l 3 := by
      rcases hst with rfl | rfl
      · exact wk_first 1 3 rfl rfl l (by omega) (by decide)
      · exact wk_first 2 3 rfl rfl l (by omega) (by decide)
    rw [e, wk_run 3 rfl (by decide), wk3t _ (run_head l)]
    by_cases hp : headIs isPt (l.drop (run l)) = true
    · rw [if_pos hp, if_pos hp, if_neg (fun h => h0 h.1), wk5, List.drop_drop, List.drop_drop]
      refine Prod.ext ?_ ?_
      · show run l + (1 + (_ + _)) = run l + 1 + _ + _
        rw [show run l + 1 + run (l.drop (run l + 1)) = run l + (1 + run (l.drop (run l + 1))) from by omega]
        omega
      · show (scanTail _).2 = (scanTail _).2
        rfl
    · rw [if_neg hp, if_neg hp, if_neg h0]
/-- The document's end of a number's text is the table's. -/
theorem scan_eq (signed : Bool) (l : List UInt8) : scanL signed l = wk l (if signed then 1 else 2) := by
  unfold scanL
  cases signed with
  | false => exact (wk_body 2 (Or.inr rfl) l (fun h => by cases h)).symm
  | true =>
    by_cases h : headIs isSgn l = true
    · rw [if_pos (by simp [h])]
      cases l with
      | nil => cases h
      | cons b t =>
        have hb : isSgn b = true := h
        show _ = wk (b :: t) 1
        rw [wk_cons, kind_sgn hb, if_neg (by decide)]
        show _ = (1 + (wk t 2).1, (wk t 2).2)
        rw [wk_body 2 (Or.inr rfl) t (fun h => by cases h)]; rfl
    · rw [if_neg (by simp [h])]
      exact (wk_body 1 (Or.inl rfl) l (fun _ => by simpa using h)).symm

/-! The same, by places of the whole text. -/
def powAt (L : List UInt8) (j : Nat) : Nat × Bool := if headIs isSgn (L.drop j) then (j + 1 + run (L.drop (j + 1)), decide (0 < run (L.drop (j + 1)))) else (j + run (L.drop j), decide (0 < run (L.drop j)))
def tailAt (L : List UInt8) (j : Nat) : Nat × Bool := if headIs isLet (L.drop j) then powAt L (j + 1) else (j, true)
def bodyAt (L : List UInt8) (i : Nat) : Nat × Bool :=
  if headIs isPt (L.drop (i + run (L.drop i))) then
    if run (L.drop i) = 0 ∧ run (L.drop (i + run (L.drop i) + 1)) = 0 then (i + 1, false)
    else tailAt L (i + run (L.drop i) + 1 + run (L.drop (i + run (L.drop i) + 1)))
  else if run (L.drop i) = 0 then (i, false) else tailAt L (i + run (L.drop i))
def scanAt (L : List UInt8) (i : Nat) (signed : Bool) : Nat × Bool := if signed && headIs isSgn (L.drop i) then bodyAt L (i + 1) else bodyAt L i
theorem pow_at (L : List UInt8) (j : Nat) : powAt L j = (j + (scanPow (L.drop j)).1, (scanPow (L.drop j)).2) := by
  unfold powAt scanPow
  rw [List.drop_drop]
  split
  · refine Prod.ext ?_ rfl
    show _ = j + (1 + _)
    omega
  · rfl
theorem tail_at (L : List UInt8) (j : Nat) : tailAt L j = (j + (scanTail (L.drop j)).1, (scanTail (L.drop j)).2) := by
  unfold tailAt scanTail
  rw [List.drop_drop]
  split
  · rw [pow_at]
    refine Prod.ext ?_ rfl
    show _ = j + (1 + _)
    omega
  · rfl
theorem body_at (L : List UInt8) (j : Nat) : bodyAt L j = (j + (scanBody (L.drop j)).1, (scanBody (L.drop j)).2) := by
  unfold bodyAt scanBody
  simp only [List.drop_drop]
  rw [show j + (run (L.drop j) + 1) = j + run (L.drop j) + 1 from by omega]
  generalize run (L.drop j) = r
  split
  · rw [show j + (r + 1 + run (L.drop (j + r + 1))) = j + r + 1 + run (L.drop (j + r + 1)) from by omega]
    generalize run (L.drop (j + r + 1)) = q
    split
    · rfl
    · rw [tail_at]
      refine Prod.ext ?_ rfl
      show _ = j + (r + 1 + q + _)
      omega
  · split
    · rfl
    · rw [tail_at]
      refine Prod.ext ?_ rfl
      show _ = j + (r + _)
      omega
theorem scan_at (L : List UInt8) (j : Nat) (signed : Bool) : scanAt L j signed = (j + (scanL signed (L.drop j)).1, (scanL signed (L.drop j)).2) := by
  unfold scanAt scanL
  rw [List.drop_drop]
  split
  · rw [body_at]
    refine Prod.ext ?_ rfl
    show _ = j + (1 + _)
    omega
  · rw [body_at]
end Go.Proofs.YtgiibcnakiggaaaDoor
namespace Go.Proofs.YtgiibcnakiggaaaDoor

def isBlN (n : Nat) : Bool := n == 9 || n == 10 || n == 13 || n == 32
def isBl (b : UInt8) : Bool := isBlN b.toNat
def isCm (b : UInt8) : Bool := b.toNat == 44
theorem bl_not_cm {b : UInt8} (h : isBl b = true) : isCm b = false := by
  unfold isBl isBlN at h; unfold isCm
  simp at h ⊢; omega
theorem cm_not_bl {b : UInt8} (h : isCm b = true) : isBl b = false := by
  cases e : isBl b with
  | false => rfl
  | true => rw [bl_not_cm e] at h; cases h

/-- How many blanks a text begins with. -/
def blk : List UInt8 → Nat
  | [] => 0
  | b :: t => if isBl b then blk t + 1 else 0
theorem blk_le (l : List UInt8) : blk l ≤ l.length := by
  induction l with
  | nil => exact Nat.le_refl _
  | cons b t ih => unfold blk; split <;> simp <;> omega
theorem blk_head (l : List UInt8) : headIs isBl (l.drop (blk l)) = false := by
  induction l with
  | nil => rfl
  | cons b t ih =>
    unfold blk
    by_cases h : isBl b = true
    · rw [if_pos h, List.drop_succ_cons]; exact ih
    · rw [if_neg h]; simpa [headIs] using h
theorem blk_zero (l : List UInt8) (h : headIs isBl l = false) : blk l = 0 := by
  cases l with
  | nil => rfl
  | cons b t => have : isBl b = false := h
                simp [blk, this]
theorem blk_pos (l : List UInt8) (h : headIs isBl l = true) : blk l = blk (l.drop 1) + 1 := by
  cases l with
  | nil => cases h
  | cons b t => have : isBl b = true := h
                simp [blk, this]

/-- How long the gap is that a text begins with, c commas having been met. -/
def gap : Nat → List UInt8 → Nat
  | _, [] => 0
  | c, b :: t => if isCm b then (if c = 0 then gap 1 t + 1 else 0) else if isBl b then gap c t + 1 else 0
theorem gap_le (l : List UInt8) : ∀ c, gap c l ≤ l.length := by
  induction l with
  | nil => intro c; exact Nat.le_refl _
  | cons b t ih =>
    intro c
    have h1 := ih 1
    have h2 := ih c
    unfold gap
    split
    · split <;> simp <;> omega
    · split <;> simp <;> omega
theorem gap_one (l : List UInt8) : ∀ c, c ≠ 0 → gap c l = blk l := by
  induction l with
  | nil => intro c _; rfl
  | cons b t ih =>
    intro c hc
    unfold gap blk
    by_cases h : isCm b = true
    · rw [if_pos h, if_neg hc, if_neg (by rw [cm_not_bl h]; simp)]
    · rw [if_neg h]
      split
      · rw [ih c hc]
      · rfl
/-- The document's gap. -/
theorem gap_zero (l : List UInt8) : gap 0 l = if headIs isCm (l.drop (blk l)) then blk l + 1 + blk (l.drop (blk l + 1)) else blk l := by
  induction l with
  | nil => rfl
  | cons b t ih =>
    unfold gap
    by_cases h : isCm b = true
    · have hb := cm_not_bl h
      have e : blk (b :: t) = 0 := by simp [blk, hb]
      rw [if_pos h, if_pos rfl, e, List.drop_zero, if_pos (by exact h), gap_one t 1 (by decide)]
      simp; omega
    · rw [if_neg h]
      by_cases hb : isBl b = true
      · have e : blk (b :: t) = blk t + 1 := by simp [blk, hb]
        rw [if_pos hb, ih, e, List.drop_succ_cons, List.drop_succ_cons]
        split <;> omega
      · have e : blk (b :: t) = 0 := by simp [blk, hb]
        rw [if_neg hb, e, List.drop_zero, if_neg (by exact h)]
theorem gap_pos_of (c : Nat) (l : List UInt8) (h : headIs isBl l = true) : gap c l = gap c (l.drop 1) + 1 := by
  cases l with
  | nil => cases h
  | cons b t => have hb : isBl b = true := h
                simp [gap, hb, bl_not_cm hb]
theorem gap_comma (l : List UInt8) (h : headIs isCm l = true) : gap 0 l = gap 1 (l.drop 1) + 1 := by
  cases l with
  | nil => cases h
  | cons b t => have hb : isCm b = true := h
                simp [gap, hb]
theorem gap_comma2 (c : Nat) (l : List UInt8) (h : headIs isCm l = true) (hc : c ≠ 0) : gap c l = 0 := by
  cases l with
  | nil => cases h
  | cons b t => have hb : isCm b = true := h
                simp [gap, hb, hc]
theorem gap_none (c : Nat) (l : List UInt8) (h : headIs isBl l = false) (h2 : headIs isCm l = false) : gap c l = 0 := by
  cases l with
  | nil => rfl
  | cons b t => have hb : isBl b = false := h
                have hc : isCm b = false := h2
                simp [gap, hb, hc]
end Go.Proofs.YtgiibcnakiggaaaDoor
namespace Go.Proofs.YtgiibcnakiggaaaDoor

theorem split_dig (a : List UInt8) : ∀ (a' r r' : List UInt8), AllDig a → AllDig a' → headIs isDig r = false → headIs isDig r' = false → a ++ r = a' ++ r' → a = a' ∧ r = r' := by
  induction a with
  | nil =>
    intro a' r r' _ ha' hr _ h
    cases a' with
    | nil => exact ⟨rfl, h⟩
    | cons c t =>
      rw [List.nil_append] at h
      subst h
      have : isDig c = false := hr
      rw [ha' c List.mem_cons_self] at this; cases this
  | cons b t ih =>
    intro a' r r' ha ha' hr hr' h
    cases a' with
    | nil =>
      rw [List.nil_append] at h
      subst h
      have : isDig b = false := hr'
      rw [ha b List.mem_cons_self] at this; cases this
    | cons c t' =>
      rw [List.cons_append, List.cons_append] at h
      obtain ⟨rfl, h2⟩ := List.cons.inj h
      obtain ⟨rfl, e2⟩ := ih t' r r' (fun x hx => ha x (List.mem_cons_of_mem _ hx)) (fun x hx => ha' x (List.mem_cons_of_mem _ hx)) hr hr' h2
      exact ⟨rfl, e2⟩
theorem expo_head (x : Expo) (h : XOk x) : headIs isDig (expo x) = false ∧ headIs isPt (expo x) = false := by
  cases x with
  | none => exact ⟨rfl, rfl⟩
  | some y =>
    obtain ⟨c, s, d⟩ := y
    have hc : isLet c = true := h.1
    refine ⟨?_, ?_⟩
    · show isDig c = false
      unfold isLet at hc; unfold isDig; simp at hc ⊢; omega
    · show isPt c = false
      unfold isLet at hc; unfold isPt; simp at hc ⊢; omega
/-- A sign ahead of what begins with none. -/
theorem split_sgn (s s' r r' : List UInt8) (hs : SgnL s) (hs' : SgnL s') (hr : headIs isSgn r = false) (hr' : headIs isSgn r' = false) (h : s ++ r = s' ++ r') : s = s' ∧ r = r' := by
  have no : ∀ (c : UInt8) (u v : List UInt8), isSgn c = true → headIs isSgn u = false → u ≠ c :: v := by
    intro c u v hc hu e
    rw [e] at hu
    have : isSgn c = false := hu
    rw [hc] at this; cases this
  have p43 : isSgn 43 = true := by decide
  have p45 : isSgn 45 = true := by decide
  rcases hs with rfl | rfl | rfl <;> rcases hs' with rfl | rfl | rfl
  · exact ⟨rfl, h⟩
  · exact absurd h (no 43 _ _ p43 hr)
  · exact absurd h (no 45 _ _ p45 hr)
  · exact absurd h.symm (no 43 _ _ p43 hr')
  · exact ⟨rfl, (List.cons.inj h).2⟩
  · have := (List.cons.inj h).1; exact absurd this (by decide)
  · exact absurd h.symm (no 45 _ _ p45 hr')
  · have := (List.cons.inj h).1; exact absurd this (by decide)
  · exact ⟨rfl, (List.cons.inj h).2⟩
theorem dig_sgn {a : List UInt8} (h : AllDig a) (r : List UInt8) (ha : a ≠ []) : headIs isSgn (a ++ r) = false := by
  cases a with
  | nil => exact absurd rfl ha
  | cons b t =>
    have hb := h b List.mem_cons_self
    show isSgn b = false
    unfold isDig at hb; unfold isSgn; simp at hb ⊢; omega
theorem expo_inj (x x' : Expo) (h : XOk x) (h' : XOk x') (e : expo x = expo x') : x = x' := by
  cases x with
  | none =>
    cases x' with
    | none => rfl
    | some y => obtain ⟨c, s, d⟩ := y; cases e
  | some y =>
    obtain ⟨c, s, d⟩ := y
    cases x' with
    | none => cases e
    | some y' =>
      obtain ⟨c', s', d'⟩ := y'
      obtain ⟨rfl, e2⟩ := List.cons.inj e
      have k : ∀ u : List UInt8, AllDig u → u ≠ [] → headIs isSgn u = false := fun u hu hn => by have := dig_sgn hu [] hn; rwa [List.append_nil] at this
      obtain ⟨rfl, rfl⟩ := split_sgn s s' d d' h.2.1 h'.2.1 (k d h.2.2.1 h.2.2.2) (k d' h'.2.2.1 h'.2.2.2) e2
      rfl
theorem IsNum.uniq {l s a s' a' : List UInt8} {pt pt' : Bool} {b b' : List UInt8} {x x' : Expo} (h : IsNum l s a pt b x) (k : IsNum l s' a' pt' b' x') : s = s' ∧ a = a' ∧ b = b' ∧ x = x' := by
  have hd : ∀ (a : List UInt8) (pt : Bool) (b : List UInt8) (x : Expo), AllDig a → AllDig b → (pt = false → b = []) → 0 < a.length + b.length → headIs isSgn (a ++ ptL pt b ++ expo x) = false := by
    intro a pt b x ha _ hp h0
    by_cases hn : a = []
    · subst hn
      cases pt with
      | false => rw [hp rfl] at h0; simp at h0
      | true => rfl
    · rw [List.append_assoc]; exact dig_sgn ha _ hn
  have ht : ∀ (pt : Bool) (b : List UInt8) (x : Expo), XOk x → headIs isDig (ptL pt b ++ expo x) = false := by
    intro pt b x hx
    cases pt with
    | false => exact (expo_head x hx).1
    | true => rfl
  have e := h.text.symm.trans k.text
  obtain ⟨rfl, e1⟩ := split_sgn _ _ _ _ h.hsg k.hsg (hd a pt b x h.ha h.hb h.hpt h.h0) (hd a' pt' b' x' k.ha k.hb k.hpt k.h0) e
  rw [List.append_assoc, List.append_assoc] at e1
  obtain ⟨rfl, e2⟩ := split_dig a a' _ _ h.ha k.ha (ht pt b x h.hx) (ht pt' b' x' k.hx) e1
  clear e e1
  cases pt <;> cases pt'
  · obtain rfl := h.hpt rfl
    obtain rfl := k.hpt rfl
    exact ⟨rfl, rfl, rfl, expo_inj x x' h.hx k.hx e2⟩
  · have := (expo_head x h.hx).2
    have e' : expo x = 46 :: (b' ++ expo x') := e2
    rw [e'] at this; cases this
  · have := (expo_head x' k.hx).2
    have e' : 46 :: (b ++ expo x) = expo x' := e2
    rw [← e'] at this; cases this
  · have e' : b ++ expo x = b' ++ expo x' := (List.cons.inj e2).2
    obtain ⟨rfl, e3⟩ := split_dig b b' _ _ h.hb k.hb (expo_head x h.hx).1 (expo_head x' k.hx).1 e'
    exact ⟨rfl, rfl, rfl, expo_inj x x' h.hx k.hx e3⟩
theorem ansF_uniq {l s a s' a' : List UInt8} {pt pt' : Bool} {b b' : List UInt8} {x x' : Expo} (h : IsNum l s a pt b x) (k : IsNum l s' a' pt' b' x') : ansF s a b x = ansF s' a' b' x' := by
  obtain ⟨rfl, rfl, rfl, rfl⟩ := h.uniq k
  rfl
end Go.Proofs.YtgiibcnakiggaaaDoor
namespace Go.Proofs.YtgiibcnakiggaaaDoor

/-- What is read of a text: its length, its bytes, where blanks and gaps end, numbers. -/
structure Tx where
  len : Nat
  byte : Nat → Nat
  blkA : Nat → Nat
  gapA : Nat → Nat
  num : Nat → Bool → Int × Int × Nat
  ends : Nat → Bool → Nat

/-- May a number begin with this byte? -/
def startB (b : Nat) (sg : Bool) : Bool := (48 ≤ b && b ≤ 57) || b == 46 || (sg && (b == 43 || b == 45))

structure Tx.Ok (X : Tx) : Prop where
  blk : ∀ i, i ≤ X.len → i ≤ X.blkA i ∧ X.blkA i ≤ X.len
  gap : ∀ i, i ≤ X.len → i ≤ X.gapA i ∧ X.gapA i ≤ X.len
  comma : ∀ i, i < X.len → X.byte i = 44 → i < X.gapA i
  ends : ∀ i sg, i ≤ X.len → i ≤ X.ends i sg ∧ X.ends i sg ≤ X.len
  er : ∀ i sg, i ≤ X.len → (X.num i sg).2.1 = 0 ∨ (X.num i sg).2.1 = 2 ∨ (X.num i sg).2.1 = 3
  ok : ∀ i sg, i ≤ X.len → (X.num i sg).2.1 = 0 → (X.num i sg).2.2 = X.ends i sg ∧ i < X.ends i sg
  bad : ∀ i sg, i ≤ X.len → (X.num i sg).2.1 = 3 → (X.num i sg).2.2 = X.ends i sg
  great : ∀ i sg, i ≤ X.len → (X.num i sg).2.1 = 2 → (X.num i sg).2.2 = i
  start : ∀ i sg, i < X.len → startB (X.byte i) sg = true → i < X.ends i sg

/-- Y is X, cut at m. -/
structure Cut (X Y : Tx) (m : Nat) : Prop where
  len : Y.len = m
  le : m ≤ X.len
  byte : ∀ i, i < m → Y.byte i = X.byte i
  blk : ∀ i, i ≤ m → Y.blkA i = min (X.blkA i) m
  gap : ∀ i, i ≤ m → Y.gapA i = min (X.gapA i) m
  num : ∀ i sg, i ≤ m → X.ends i sg ≤ m → Y.num i sg = X.num i sg
  ends : ∀ i sg, i ≤ m → Y.ends i sg = min (X.ends i sg) m

structure Cmd where
  letter : Nat
  args : List Int

/-- How many arguments a group has; 99: none of the letters. -/
def cntL (c : Nat) : Nat :=
  if c = 77 ∨ c = 109 ∨ c = 76 ∨ c = 108 ∨ c = 84 ∨ c = 116 then 2
  else if c = 72 ∨ c = 104 ∨ c = 86 ∨ c = 118 then 1
  else if c = 67 ∨ c = 99 then 6
  else if c = 83 ∨ c = 115 ∨ c = 81 ∨ c = 113 then 4
  else if c = 65 ∨ c = 97 then 7
  else if c = 90 ∨ c = 122 then 0
  else 99
def isArc (c : Nat) : Bool := c == 65 || c == 97
/-- The letter of the groups behind the first one. -/
def nextL (c : Nat) : Nat := if c = 77 then 76 else if c = 109 then 108 else c

def flagA (X : Tx) (i : Nat) : Int × Int × Nat := if i < X.len ∧ (X.byte i = 48 ∨ X.byte i = 49) then (((X.byte i : Int) - 48), 0, i + 1) else (0, 3, i)
/-- The k-th argument, with the gap ahead of it. -/
def one (X : Tx) (c k i : Nat) : Int × Int × Nat :=
  if isArc c = false then X.num (if k = 0 then i else X.gapA i) true
  else if k = 3 ∧ X.gapA i = i then (0, 3, i)
  else if k = 3 ∨ k = 4 then flagA X (X.gapA i)
  else X.num (if k = 0 then i else X.gapA i) (decide (k ≠ 0 ∧ k ≠ 1))
/-- The arguments from the k-th on, so many of them: what there is, or where it is wrong. -/
def argsL (X : Tx) (c : Nat) : Nat → Nat → Nat → List Int → (List Int × Nat) ⊕ (Nat × Int)
  | 0, _, i, acc => .inl (acc, i)
  | n + 1, k, i, acc => if (one X c k i).2.1 = 0 then argsL X c n (k + 1) (one X c k i).2.2 (acc ++ [(one X c k i).1]) else .inr ((one X c k i).2.2, (one X c k i).2.1)
/-- Path data, from a place on: ahead of a letter (none), or of a group of a letter. -/
def pathL (X : Tx) : Nat → Option Nat → Nat → List Cmd → List Cmd × Int × Int
  | 0, _, _, out => (out, -1, 0)
  | f + 1, none, i, out =>
    if i < X.len then
      if cntL (X.byte i) = 99 ∨ (out = [] ∧ X.byte i ≠ 77 ∧ X.byte i ≠ 109) then (out, (i : Int), 3)
      else if cntL (X.byte i) = 0 then pathL X f none (X.blkA (i + 1)) (out ++ [⟨X.byte i, []⟩])
      else pathL X f (some (X.byte i)) (X.blkA (i + 1)) out
    else (out, -1, 0)
  | f + 1, some c, i, out =>
    match argsL X c (cntL c) 0 i [] with
    | .inr (at', e) => (out, (at' : Int), e)
    | .inl (xs, j) =>
      if X.blkA j < X.len ∧ X.byte (X.blkA j) = 44 then pathL X f (some (nextL c)) (X.gapA (X.blkA j)) (out ++ [⟨c, xs⟩])
      else if X.blkA j < X.len ∧ startB (X.byte (X.blkA j)) (!isArc c) = true then pathL X f (some (nextL c)) (X.blkA j) (out ++ [⟨c, xs⟩])
      else pathL X f none (X.blkA j) (out ++ [⟨c, xs⟩])

theorem flag_ok (X : Tx) (i : Nat) : ((flagA X i).2.1 = 0 ∧ (flagA X i).2.2 = i + 1 ∧ i < X.len) ∨ ((flagA X i).2.1 = 3 ∧ (flagA X i).2.2 = i) := by
  unfold flagA; split
  · rename_i h; exact Or.inl ⟨rfl, rfl, h.1⟩
  · exact Or.inr ⟨rfl, rfl⟩
theorem one_plain (X : Tx) {c : Nat} (k i : Nat) (h : isArc c = false) : one X c k i = X.num (if k = 0 then i else X.gapA i) true := by unfold one; rw [if_pos h]
theorem one_none (X : Tx) {c k i : Nat} (h : isArc c = true) (h1 : k = 3 ∧ X.gapA i = i) : one X c k i = (0, 3, i) := by unfold one; rw [if_neg (by rw [h]; decide), if_pos h1]
theorem one_flag (X : Tx) {c k i : Nat} (h : isArc c = true) (h1 : ¬ (k = 3 ∧ X.gapA i = i)) (h2 : k = 3 ∨ k = 4) : one X c k i = flagA X (X.gapA i) := by unfold one; rw [if_neg (by rw [h]; decide), if_neg h1, if_pos h2]
theorem one_num (X : Tx) {c k : Nat} (i : Nat) (h : isArc c = true) (h2 : ¬ (k = 3 ∨ k = 4)) : one X c k i = X.num (if k = 0 then i else X.gapA i) (decide (k ≠ 0 ∧ k ≠ 1)) := by unfold one; rw [if_neg (by rw [h]; decide), if_neg (fun h => h2 (Or.inl h.1)), if_neg h2]
/-- What an argument is: nothing, a flag or a number. -/
theorem one_cases (X : Tx) (c k i : Nat) : ∃ j : Nat, (j = i ∨ j = X.gapA i) ∧ (j = i → k = 0 ∨ X.gapA i = i) ∧ ((one X c k i = (0, 3, i) ∧ X.gapA i = i) ∨ (one X c k i = flagA X j ∧ j = X.gapA i) ∨ ∃ sg, one X c k i = X.num j sg ∧ (k = 0 → sg = !isArc c)) := by
  unfold one
  by_cases h : isArc c = false
  · rw [if_pos h]
    by_cases hk : k = 0
    · exact ⟨i, Or.inl rfl, fun _ => Or.inl hk, Or.inr (Or.inr ⟨true, by rw [if_pos hk], fun _ => by rw [h]; rfl⟩)⟩
    · exact ⟨X.gapA i, Or.inr rfl, fun e => Or.inr e, Or.inr (Or.inr ⟨true, by rw [if_neg hk], fun _ => by rw [h]; rfl⟩)⟩
  · rw [if_neg h]
    have h' : isArc c = true := by simpa using h
    by_cases h1 : k = 3 ∧ X.gapA i = i
    · rw [if_pos h1]
      exact ⟨i, Or.inl rfl, fun _ => Or.inr h1.2, Or.inl ⟨rfl, h1.2⟩⟩
    · rw [if_neg h1]
      by_cases h2 : k = 3 ∨ k = 4
      · rw [if_pos h2]
        exact ⟨X.gapA i, Or.inr rfl, fun e => Or.inr e, Or.inr (Or.inl ⟨rfl, rfl⟩)⟩
      · rw [if_neg h2]
        by_cases hk : k = 0
        · exact ⟨i, Or.inl rfl, fun _ => Or.inl hk, Or.inr (Or.inr ⟨_, by rw [if_pos hk], fun _ => by rw [h', hk]; rfl⟩)⟩
        · exact ⟨X.gapA i, Or.inr rfl, fun e => Or.inr e, Or.inr (Or.inr ⟨_, by rw [if_neg hk], fun e => absurd e hk⟩)⟩
/-- An argument goes on, or tells where it is wrong. -/
structure OneOk (X : Tx) (c k i : Nat) : Prop where
  hi : (one X c k i).2.2 ≤ X.len
  er : (one X c k i).2.1 = 0 ∨ (one X c k i).2.1 = 2 ∨ (one X c k i).2.1 = 3
  ok : (one X c k i).2.1 = 0 → i < (one X c k i).2.2
  bad : (one X c k i).2.1 = 3 → i ≤ (one X c k i).2.2
theorem num_hi {X : Tx} (H : X.Ok) (j : Nat) (sg : Bool) (h : j ≤ X.len) : (X.num j sg).2.2 ≤ X.len := by
  have he := H.ends j sg h
  rcases H.er j sg h with h0 | h0 | h0
  · rw [(H.ok j sg h h0).1]; exact he.2
  · rw [H.great j sg h h0]; exact h
  · rw [H.bad j sg h h0]; exact he.2
theorem one_ok {X : Tx} (H : X.Ok) (c k i : Nat) (hi : i ≤ X.len) : OneOk X c k i := by
  have hg := H.gap i hi
  obtain ⟨j, hj, _, h⟩ := one_cases X c k i
  have hij : i ≤ j ∧ j ≤ X.len := by rcases hj with rfl | rfl <;> omega
  rcases h with ⟨h, _⟩ | ⟨h, _⟩ | ⟨sg, h, _⟩
  · constructor <;> rw [h]
    · exact hi
    · exact Or.inr (Or.inr rfl)
    · intro e; cases e
    · intro _; exact Nat.le_refl _
  · rcases flag_ok X j with ⟨e1, e2, e3⟩ | ⟨e1, e2⟩
    · constructor <;> rw [h]
      · rw [e2]; omega
      · exact Or.inl e1
      · intro _; rw [e2]; omega
      · intro e; rw [e1] at e; cases e
    · constructor <;> rw [h]
      · rw [e2]; omega
      · exact Or.inr (Or.inr e1)
      · intro e; rw [e1] at e; cases e
      · intro _; rw [e2]; omega
  · constructor <;> rw [h]
    · exact num_hi H j sg hij.2
    · exact H.er j sg hij.2
    · intro e; have := H.ok j sg hij.2 e; omega
    · intro e; have := H.bad j sg hij.2 e; have := H.ends j sg hij.2; omega

/-- A cut text's argument that ends ahead of the cut, or just there, is the whole text's. -/
theorem one_cut {X Y : Tx} {m : Nat} (HX : X.Ok) (C : Cut X Y m) (c k i : Nat) (hi : i ≤ m) (h0 : (one X c k i).2.1 = 0 ∨ (one X c k i).2.1 = 3) (hm : (one X c k i).2.2 ≤ m) : one Y c k i = one X c k i := by
  have hl := C.le
  have hg := HX.gap i (by omega)
  have hC := C.gap i hi
  -- the gap ahead of it
  have key : X.gapA i ≤ m ∨ k = 0 := by
    by_cases hk : k = 0
    · exact Or.inr hk
    · left
      refine Nat.le_of_not_lt fun hlt => ?_
      obtain ⟨j, hj, hjk, h⟩ := one_cases X c k i
      rcases h with ⟨_, e⟩ | ⟨e, ej⟩ | ⟨sg, e, _⟩
      · omega
      · rw [e] at hm
        rcases flag_ok X j with ⟨_, e2, _⟩ | ⟨_, e2⟩ <;> rw [e2] at hm <;> omega
      · have hji : j = X.gapA i := by
          rcases hj with hj | hj
          · rcases hjk hj with h | h
            · exact absurd h hk
            · omega
          · exact hj
        subst hji
        rw [e] at hm h0
        have he := HX.ends (X.gapA i) sg (by omega)
        rcases h0 with h0 | h0
        · have := (HX.ok _ sg (by omega) h0).1; omega
        · have := HX.bad _ sg (by omega) h0; omega
  have hN : ∀ (j : Nat) (sg : Bool), i ≤ j → j ≤ m → (one X c k i = X.num j sg) → Y.num j sg = X.num j sg := by
    intro j sg h1 h2 e
    refine C.num j sg h2 ?_
    rw [e] at hm h0
    rcases h0 with h0 | h0
    · rw [(HX.ok j sg (by omega) h0).1] at hm; exact hm
    · rw [HX.bad j sg (by omega) h0] at hm; exact hm
  have hF : ∀ j, j ≤ m → (one X c k i = flagA X j) → flagA Y j = flagA X j := by
    intro j h2 e
    rw [e] at hm
    unfold flagA at hm ⊢
    rw [C.len]
    by_cases hb : j < X.len ∧ (X.byte j = 48 ∨ X.byte j = 49)
    · rw [if_pos hb] at hm
      have hjm : j < m := hm
      rw [if_pos hb, if_pos ⟨hjm, by rw [C.byte j hjm]; exact hb.2⟩, C.byte j hjm]
    · rw [if_neg hb, if_neg (fun h => hb ⟨by omega, by rw [← C.byte j h.1]; exact h.2⟩)]
  have hk0 : (if k = 0 then i else Y.gapA i) = (if k = 0 then i else X.gapA i) ∧ i ≤ (if k = 0 then i else X.gapA i) ∧ (if k = 0 then i else X.gapA i) ≤ m := by
    by_cases hk : k = 0
    · rw [if_pos hk, if_pos hk]; exact ⟨rfl, Nat.le_refl _, hi⟩
    · rw [if_neg hk, if_neg hk]
      rcases key with key | key
      · exact ⟨by rw [hC]; omega, hg.1, key⟩
      · exact absurd key hk
  by_cases h : isArc c = false
  · rw [one_plain Y k i h, hk0.1]
    rw [one_plain X k i h] at hN ⊢
    exact hN _ true hk0.2.1 hk0.2.2 rfl
  · replace h : isArc c = true := by simpa using h
    by_cases h2 : k = 3 ∨ k = 4
    · have hk : X.gapA i ≤ m := by
        rcases key with key | key
        · exact key
        · omega
      have hgY : Y.gapA i = X.gapA i := by rw [hC]; omega
      by_cases h1 : k = 3 ∧ X.gapA i = i
      · rw [one_none X h h1, one_none Y h (by rw [hgY]; exact h1)]
      · rw [one_flag Y h (by rw [hgY]; exact h1) h2, hgY]
        rw [one_flag X h h1 h2] at hF ⊢
        exact hF _ hk rfl
    · rw [one_num Y i h h2, hk0.1]
      rw [one_num X i h h2] at hN ⊢
      exact hN _ _ hk0.2.1 hk0.2.2 rfl
/-- A cut text's argument is the whole text's, or ends at the cut. -/
theorem one_back {X Y : Tx} {m : Nat} (HX : X.Ok) (HY : Y.Ok) (C : Cut X Y m) (c k i : Nat) (hi : i ≤ m) (h0 : (one Y c k i).2.1 = 0) : one X c k i = one Y c k i ∨ (one Y c k i).2.2 = m := by
  have hl := C.le
  have hm := C.len
  have hg := HX.gap i (by omega)
  have hC := C.gap i hi
  have hN : ∀ (j : Nat) (sg : Bool), j ≤ m → (Y.num j sg).2.1 = 0 → X.num j sg = Y.num j sg ∨ (Y.num j sg).2.2 = m := by
    intro j sg h1 h2
    have h3 := HY.ok j sg (by omega) h2
    have h4 := C.ends j sg h1
    by_cases h5 : X.ends j sg ≤ m
    · exact Or.inl (C.num j sg h1 h5).symm
    · right; rw [h3.1, h4]; omega
  have hE : ∀ sg, (Y.num m sg).2.1 ≠ 0 := by
    intro sg h
    have h1 := HY.ok m sg (by omega) h
    have h2 := HY.ends m sg (by omega)
    omega
  have hk0 : ∀ sg, (Y.num (if k = 0 then i else Y.gapA i) sg).2.1 = 0 → (if k = 0 then i else X.gapA i) = (if k = 0 then i else Y.gapA i) ∧ (if k = 0 then i else Y.gapA i) ≤ m := by
    intro sg h
    by_cases hk : k = 0
    · rw [if_pos hk, if_pos hk]; exact ⟨rfl, hi⟩
    · rw [if_neg hk] at h
      rw [if_neg hk, if_neg hk]
      by_cases h5 : X.gapA i ≤ m
      · rw [hC]; exact ⟨by omega, by omega⟩
      · rw [show Y.gapA i = m by rw [hC]; omega] at h
        exact absurd h (hE sg)
  by_cases h : isArc c = false
  · rw [one_plain Y k i h] at h0 ⊢
    have := hk0 true h0
    rw [one_plain X k i h, this.1]
    exact hN _ true this.2 h0
  · replace h : isArc c = true := by simpa using h
    by_cases h2 : k = 3 ∨ k = 4
    · by_cases h1 : k = 3 ∧ Y.gapA i = i
      · rw [one_none Y h h1] at h0; cases h0
      · rw [one_flag Y h h1 h2] at h0 ⊢
        rcases flag_ok Y (Y.gapA i) with ⟨_, _, e3⟩ | ⟨e1, _⟩
        · have hgY : X.gapA i = Y.gapA i := by rw [hC] at e3 ⊢; omega
          rw [one_flag X h (by rw [hgY]; exact h1) h2, hgY]
          left
          unfold flagA
          rw [C.byte _ (by omega)]
          by_cases hb : X.byte (Y.gapA i) = 48 ∨ X.byte (Y.gapA i) = 49
          · rw [if_pos ⟨by omega, hb⟩, if_pos ⟨e3, hb⟩]
          · rw [if_neg (fun h => hb h.2), if_neg (fun h => hb h.2)]
        · rw [e1] at h0; cases h0
    · rw [one_num Y i h h2] at h0 ⊢
      have := hk0 _ h0
      rw [one_num X i h h2, this.1]
      exact hN _ _ this.2 h0

theorem args_mono {X : Tx} (H : X.Ok) (c : Nat) : ∀ (n k i : Nat) (acc : List Int), i ≤ X.len →
    (∀ xs j, argsL X c n k i acc = .inl (xs, j) → i ≤ j ∧ j ≤ X.len ∧ (0 < n → i < j)) ∧ (∀ a e, argsL X c n k i acc = .inr (a, e) → a ≤ X.len ∧ (e = 2 ∨ e = 3) ∧ (e = 3 → i ≤ a)) := by
  intro n
  induction n with
  | zero =>
    intro k i acc hi
    refine ⟨fun xs j h => ?_, fun a e h => by cases h⟩
    obtain ⟨rfl, rfl⟩ : acc = xs ∧ i = j := by simpa [argsL] using h
    exact ⟨Nat.le_refl _, hi, fun h => absurd h (by omega)⟩
  | succ n ih =>
    intro k i acc hi
    have O := one_ok H c k i hi
    unfold argsL
    by_cases h0 : (one X c k i).2.1 = 0
    · rw [if_pos h0]
      have hlt := O.ok h0
      have := ih (k + 1) _ (acc ++ [(one X c k i).1]) O.hi
      refine ⟨fun xs j h => ?_, fun a e h => ?_⟩
      · have := this.1 xs j h; omega
      · have := this.2 a e h; exact ⟨this.1, this.2.1, fun h3 => by have := this.2.2 h3; omega⟩
    · rw [if_neg h0]
      refine ⟨(fun xs j h => by cases h), fun a e h => ?_⟩
      obtain ⟨rfl, rfl⟩ : (one X c k i).2.2 = a ∧ (one X c k i).2.1 = e := by simpa using h
      refine ⟨O.hi, ?_, O.bad⟩
      rcases O.er with h | h
      · exact absurd h h0
      · exact h
theorem args_cut {X Y : Tx} {m : Nat} (HX : X.Ok) (C : Cut X Y m) (c : Nat) : ∀ (n k i : Nat) (acc : List Int), i ≤ m →
    (∀ xs j, argsL X c n k i acc = .inl (xs, j) → j ≤ m → argsL Y c n k i acc = .inl (xs, j)) ∧ (∀ a, argsL X c n k i acc = .inr (a, 3) → a ≤ m → argsL Y c n k i acc = .inr (a, 3)) := by
  intro n
  induction n with
  | zero => intro k i acc hi; exact ⟨fun xs j h _ => h, fun a h _ => h⟩
  | succ n ih =>
    intro k i acc hi
    have hl := C.le
    have O := one_ok HX c k i (by omega)
    unfold argsL
    by_cases h0 : (one X c k i).2.1 = 0
    · rw [if_pos h0]
      have M := args_mono HX c n (k + 1) _ (acc ++ [(one X c k i).1]) O.hi
      refine ⟨fun xs j h hj => ?_, fun a h ha => ?_⟩
      · have h1 := M.1 xs j h
        have e := one_cut HX C c k i hi (Or.inl h0) (by omega)
        rw [e, if_pos h0]
        exact (ih (k + 1) _ _ (by omega)).1 xs j h hj
      · have h1 := (M.2 a 3 h).2.2 rfl
        have e := one_cut HX C c k i hi (Or.inl h0) (by omega)
        rw [e, if_pos h0]
        exact (ih (k + 1) _ _ (by omega)).2 a h ha
    · rw [if_neg h0]
      refine ⟨(fun xs j h _ => by cases h), fun a h ha => ?_⟩
      obtain ⟨h1, h2⟩ : (one X c k i).2.2 = a ∧ (one X c k i).2.1 = 3 := by simpa using h
      have e := one_cut HX C c k i hi (Or.inr h2) (by omega)
      rw [e, if_neg h0]; exact h
theorem args_back {X Y : Tx} {m : Nat} (HX : X.Ok) (HY : Y.Ok) (C : Cut X Y m) (c : Nat) : ∀ (n k i : Nat) (acc : List Int), i ≤ m →
    ∀ xs j, argsL Y c n k i acc = .inl (xs, j) → argsL X c n k i acc = .inl (xs, j) ∨ j = m := by
  intro n
  induction n with
  | zero => intro k i acc hi xs j h; exact Or.inl h
  | succ n ih =>
    intro k i acc hi xs j h
    have hm := C.len
    have O := one_ok HY c k i (by omega)
    unfold argsL at h ⊢
    by_cases h0 : (one Y c k i).2.1 = 0
    · rw [if_pos h0] at h
      rcases one_back HX HY C c k i hi h0 with e | e
      · rw [e, if_pos h0]
        exact ih (k + 1) _ _ (by have := O.hi; omega) xs j h
      · right
        have M := (args_mono HY c n (k + 1) _ (acc ++ [(one Y c k i).1]) O.hi).1 xs j h
        omega
    · rw [if_neg h0] at h; cases h

/-- The groups behind the first ones. -/
theorem path_out (X : Tx) : ∀ (f : Nat) (st : Option Nat) (i : Nat) (out : List Cmd), out <+: (pathL X f st i out).1 := by
  intro f
  induction f with
  | zero => intro st i out; cases st <;> exact List.prefix_refl _
  | succ f ih =>
    intro st i out
    cases st with
    | none =>
      unfold pathL
      split
      · split
        · exact List.prefix_refl _
        · split
          · exact (List.prefix_append _ _).trans (ih _ _ _)
          · exact ih _ _ _
      · exact List.prefix_refl _
    | some c =>
      unfold pathL
      split
      · exact List.prefix_refl _
      · split
        · exact (List.prefix_append _ _).trans (ih _ _ _)
        · split
          · exact (List.prefix_append _ _).trans (ih _ _ _)
          · exact (List.prefix_append _ _).trans (ih _ _ _)
/-- Where it is wrong is not behind. -/
theorem path_mono {X : Tx} (H : X.Ok) : ∀ (f : Nat) (st : Option Nat) (i : Nat) (out : List Cmd), i ≤ X.len → ∀ a : Int, (pathL X f st i out).2 = (a, 3) → (i : Int) ≤ a ∧ a ≤ X.len := by
  intro f
  induction f with
  | zero => intro st i out hi a h; cases st <;> simp [pathL] at h
  | succ f ih =>
    intro st i out hi a h
    cases st with
    | none =>
      unfold pathL at h
      by_cases h1 : i < X.len
      · have hb := H.blk (i + 1) (by omega)
        rw [if_pos h1] at h
        by_cases h2 : cntL (X.byte i) = 99 ∨ (out = [] ∧ X.byte i ≠ 77 ∧ X.byte i ≠ 109)
        · rw [if_pos h2] at h
          have : (i : Int) = a := by simpa using h
          omega
        · rw [if_neg h2] at h
          split at h
          · have := ih _ _ _ hb.2 a h; omega
          · have := ih _ _ _ hb.2 a h; omega
      · rw [if_neg h1] at h; simp at h
    | some c =>
      unfold pathL at h
      have M := args_mono H c (cntL c) 0 i [] hi
      split at h
      · rename_i at' e he
        obtain ⟨rfl, rfl⟩ : (at' : Int) = a ∧ e = 3 := by simpa using h
        have := M.2 _ _ he
        have := this.2.2 rfl
        omega
      · rename_i xs j he
        have hj := M.1 _ _ he
        have hb := H.blk j hj.2.1
        have hg := H.gap (X.blkA j) hb.2
        split at h
        · have := ih _ _ _ hg.2 a h; omega
        · split at h
          · have := ih _ _ _ hb.2 a h; omega
          · have := ih _ _ _ hb.2 a h; omega
theorem arc_next (c : Nat) : isArc (nextL c) = isArc c := by
  unfold nextL
  split
  · rename_i h; subst h; decide
  · split
    · rename_i h; subst h; decide
    · rfl
theorem cnt_next (c : Nat) (h : 0 < cntL c) : 0 < cntL (nextL c) := by
  unfold nextL
  split
  · decide
  · split
    · decide
    · exact h
/-- A number that begins goes on: what is wrong lies behind its first byte. -/
theorem start_lt {X : Tx} (H : X.Ok) {m : Nat} (f : Nat) (c i : Nat) (out : List Cmd) (hi : i < X.len) (hs : startB (X.byte i) (!isArc c) = true) (hc : 0 < cntL c) (h : (pathL X f (some (nextL c)) i out).2 = ((m : Int), 3)) : i < m := by
  cases f with
  | zero => simp [pathL] at h
  | succ f =>
    unfold pathL at h
    have hn := cnt_next c hc
    have M := args_mono H (nextL c) (cntL (nextL c)) 0 i [] (by omega)
    cases he : argsL X (nextL c) (cntL (nextL c)) 0 i [] with
    | inl y =>
      obtain ⟨xs, j⟩ := y
      rw [he] at h
      have hj := M.1 _ _ he
      have h1 := hj.2.2 hn
      have hb := H.blk j hj.2.1
      have hg := H.gap (X.blkA j) hb.2
      simp only at h
      split at h
      · have := path_mono H f _ _ _ hg.2 _ h; omega
      · split at h
        · have := path_mono H f _ _ _ hb.2 _ h; omega
        · have := path_mono H f _ _ _ hb.2 _ h; omega
    | inr y =>
      obtain ⟨a, e⟩ := y
      rw [he] at h
      have h' : (a : Int) = m ∧ e = 3 := by simpa using h
      obtain ⟨h1, rfl⟩ := h'
      obtain rfl : a = m := by omega
      obtain ⟨n, hn'⟩ : ∃ n, cntL (nextL c) = n + 1 := ⟨cntL (nextL c) - 1, by omega⟩
      rw [hn'] at he
      unfold argsL at he
      have O := one_ok H (nextL c) 0 i (by omega)
      by_cases h0 : (one X (nextL c) 0 i).2.1 = 0
      · rw [if_pos h0] at he
        have := ((args_mono H (nextL c) n 1 _ _ O.hi).2 _ _ he).2.2 rfl
        have := O.ok h0
        omega
      · rw [if_neg h0] at he
        obtain ⟨e1, e2⟩ : (one X (nextL c) 0 i).2.2 = a ∧ (one X (nextL c) 0 i).2.1 = 3 := by simpa using he
        have hsg : one X (nextL c) 0 i = X.num i (!isArc c) := by
          by_cases ha : isArc (nextL c) = false
          · rw [one_plain X 0 i ha, if_pos rfl, ← arc_next c, ha]; rfl
          · replace ha : isArc (nextL c) = true := by simpa using ha
            rw [one_num X i ha (by omega), if_pos rfl, ← arc_next c, ha]; rfl
        rw [hsg] at e1 e2
        have := H.bad i _ (by omega) e2
        have := H.start i _ hi hs
        omega
/-- Cut where it is wrong, the text only lacks something, or is whole. -/
theorem path_syntax {X Y : Tx} {m : Nat} (HX : X.Ok) (C : Cut X Y m) : ∀ (f : Nat) (st : Option Nat) (i : Nat) (out : List Cmd), i ≤ m → (∀ c, st = some c → 0 < cntL c) → (pathL X f st i out).2 = ((m : Int), 3) →
    (pathL Y f st i out).2 = (-1, 0) ∨ (pathL Y f st i out).2 = ((m : Int), 3) := by
  intro f
  induction f with
  | zero => intro st i out hi _ h; cases st <;> simp [pathL] at h
  | succ f ih =>
    intro st i out hi hst h
    have hl := C.le
    have hlen := C.len
    cases st with
    | none =>
      unfold pathL at h ⊢
      rw [hlen]
      by_cases h1 : i < X.len
      · have hb := HX.blk (i + 1) (by omega)
        rw [if_pos h1] at h
        by_cases h2 : cntL (X.byte i) = 99 ∨ (out = [] ∧ X.byte i ≠ 77 ∧ X.byte i ≠ 109)
        · rw [if_pos h2] at h
          have e : (i : Int) = m := by simpa using h
          rw [if_neg (by omega)]
          exact Or.inl rfl
        · rw [if_neg h2] at h
          by_cases h3 : cntL (X.byte i) = 0
          · rw [if_pos h3] at h
            have M := path_mono HX f _ _ _ hb.2 _ h
            have him : i < m := by omega
            rw [if_pos him, C.byte i him, if_neg h2, if_pos h3, C.blk (i + 1) (by omega), Nat.min_eq_left (by omega)]
            exact ih _ _ _ (by omega) (fun _ e => by cases e) h
          · rw [if_neg h3] at h
            have M := path_mono HX f _ _ _ hb.2 _ h
            have him : i < m := by omega
            rw [if_pos him, C.byte i him, if_neg h2, if_neg h3, C.blk (i + 1) (by omega), Nat.min_eq_left (by omega)]
            exact ih _ _ _ (by omega) (fun c e => by cases e; omega) h
      · rw [if_neg h1] at h; simp at h
    | some c =>
      have hc := hst c rfl
      have M := args_mono HX c (cntL c) 0 i [] (by omega)
      have CA := args_cut HX C c (cntL c) 0 i [] hi
      unfold pathL at h ⊢
      cases he : argsL X c (cntL c) 0 i [] with
      | inr y =>
        obtain ⟨a, e⟩ := y
        rw [he] at h
        have h' : (a : Int) = m ∧ e = 3 := by simpa using h
        obtain ⟨h1, rfl⟩ := h'
        obtain rfl : a = m := by omega
        rw [CA.2 _ he (Nat.le_refl _)]
        exact Or.inr rfl
      | inl y =>
        obtain ⟨xs, j⟩ := y
        rw [he] at h
        have hj := M.1 _ _ he
        have hb := HX.blk j hj.2.1
        have hg := HX.gap (X.blkA j) hb.2
        have hn : ∀ c', 0 < cntL (nextL c) → some (nextL c) = some c' → 0 < cntL c' := fun c' h e => by cases e; exact h
        have hnl : 0 < cntL (nextL c) := by
          unfold nextL
          split
          · decide
          · split
            · decide
            · exact hc
        simp only at h ⊢
        by_cases h1 : X.blkA j < X.len ∧ X.byte (X.blkA j) = 44
        · rw [if_pos h1] at h
          have P := path_mono HX f _ _ _ hg.2 _ h
          have hcm := HX.comma _ h1.1 h1.2
          have e1 : Y.blkA j = X.blkA j := by rw [C.blk j (by omega)]; omega
          have e2 : Y.gapA (X.blkA j) = X.gapA (X.blkA j) := by rw [C.gap _ (by omega)]; omega
          rw [CA.1 _ _ he (by omega)]
          simp only
          rw [e1, hlen, C.byte _ (by omega), if_pos ⟨by omega, h1.2⟩, e2]
          exact ih _ _ _ (by omega) (fun c' => hn c' hnl) h
        · rw [if_neg h1] at h
          by_cases h2 : X.blkA j < X.len ∧ startB (X.byte (X.blkA j)) (!isArc c) = true
          · rw [if_pos h2] at h
            have P := path_mono HX f _ _ _ hb.2 _ h
            -- a number that begins goes on
            have hlt : X.blkA j < m := by
              refine start_lt HX f c _ _ h2.1 h2.2 hc h
            have e1 : Y.blkA j = X.blkA j := by rw [C.blk j (by omega)]; omega
            rw [CA.1 _ _ he (by omega)]
            simp only
            rw [e1, hlen, C.byte _ hlt, if_neg (fun h => h1 ⟨by omega, h.2⟩), if_pos ⟨hlt, h2.2⟩]
            exact ih _ _ _ (by omega) (fun c' => hn c' hnl) h
          · rw [if_neg h2] at h
            have P := path_mono HX f _ _ _ hb.2 _ h
            have e1 : Y.blkA j = X.blkA j := by rw [C.blk j (by omega)]; omega
            rw [CA.1 _ _ he (by omega)]
            simp only
            rw [e1, hlen]
            rw [if_neg (fun h => h1 ⟨by omega, by rw [← C.byte _ h.1]; exact h.2⟩), if_neg (fun h => h2 ⟨by omega, by rw [← C.byte _ h.1]; exact h.2⟩)]
            exact ih _ _ _ (by omega) (fun _ e => by cases e) h

/-- At the end there is nothing more. -/
theorem path_end (Y : Tx) (f : Nat) (out : List Cmd) : pathL Y f none Y.len out = (out, -1, 0) := by
  cases f with
  | zero => rfl
  | succ f => unfold pathL; rw [if_neg (Nat.lt_irrefl _)]
theorem path_end_some {Y : Tx} (H : Y.Ok) (f c : Nat) (out G : List Cmd) (hc : 0 < cntL c) (h : pathL Y f (some c) Y.len out = (G, -1, 0)) : G = out := by
  cases f with
  | zero => unfold pathL at h; exact (Prod.mk.inj h).1.symm
  | succ f =>
    unfold pathL at h
    have M := args_mono H c (cntL c) 0 Y.len [] (Nat.le_refl _)
    cases he : argsL Y c (cntL c) 0 Y.len [] with
    | inl y =>
      obtain ⟨xs, j⟩ := y
      have := M.1 _ _ he
      have := this.2.2 hc
      omega
    | inr y =>
      obtain ⟨a, e⟩ := y
      rw [he] at h
      exact (Prod.mk.inj h).1.symm
/-- The groups of a text that is cut, but the last one, are a beginning of the whole text's. -/
theorem path_front {X Y : Tx} {m : Nat} (HX : X.Ok) (HY : Y.Ok) (C : Cut X Y m) : ∀ (f : Nat) (st : Option Nat) (i : Nat) (out : List Cmd), i ≤ m → (∀ c, st = some c → 0 < cntL c) → ∀ G, pathL Y f st i out = (G, -1, 0) → G.dropLast <+: (pathL X f st i out).1 := by
  intro f
  induction f with
  | zero =>
    intro st i out hi _ G h
    have e : G = out := by cases st <;> (unfold pathL at h; exact (Prod.mk.inj h).1.symm)
    subst e
    exact (List.dropLast_prefix _).trans (path_out X _ _ _ _)
  | succ f ih =>
    intro st i out hi hst G h
    have hl := C.le
    have hlen := C.len
    have PO := path_out X (f + 1) st i out
    have same : G = out → G.dropLast <+: (pathL X (f + 1) st i out).1 := fun e => by subst e; exact (List.dropLast_prefix _).trans PO
    have last : ∀ x, G = out ++ [x] → G.dropLast <+: (pathL X (f + 1) st i out).1 := fun x e => by subst e; rw [List.dropLast_concat]; exact PO
    cases st with
    | none =>
      by_cases h1 : i < m
      · have hb := HX.blk (i + 1) (by omega)
        have hbY := C.blk (i + 1) (by omega)
        unfold pathL at h
        rw [hlen, if_pos h1, C.byte i h1] at h
        by_cases h2 : cntL (X.byte i) = 99 ∨ (out = [] ∧ X.byte i ≠ 77 ∧ X.byte i ≠ 109)
        · rw [if_pos h2] at h
          exact same (Prod.mk.inj h).1.symm
        · rw [if_neg h2] at h
          by_cases h3 : cntL (X.byte i) = 0
          · rw [if_pos h3] at h
            by_cases h4 : X.blkA (i + 1) ≤ m
            · rw [show Y.blkA (i + 1) = X.blkA (i + 1) by rw [hbY]; omega] at h
              unfold pathL
              rw [if_pos (by omega), if_neg h2, if_pos h3]
              exact ih _ _ _ h4 (fun _ e => by cases e) G h
            · rw [show Y.blkA (i + 1) = Y.len by rw [hbY]; omega, path_end] at h
              exact last _ (Prod.mk.inj h).1.symm
          · rw [if_neg h3] at h
            by_cases h4 : X.blkA (i + 1) ≤ m
            · rw [show Y.blkA (i + 1) = X.blkA (i + 1) by rw [hbY]; omega] at h
              unfold pathL
              rw [if_pos (by omega), if_neg h2, if_neg h3]
              exact ih _ _ _ h4 (fun c e => by cases e; omega) G h
            · rw [show Y.blkA (i + 1) = Y.len by rw [hbY]; omega] at h
              exact same (path_end_some HY _ _ _ _ (by omega) h)
      · unfold pathL at h
        rw [hlen, if_neg h1] at h
        exact same (Prod.mk.inj h).1.symm
    | some c =>
      have hc := hst c rfl
      have hn := cnt_next c hc
      have hnn : ∀ c', some (nextL c) = some c' → 0 < cntL c' := fun c' e => by cases e; exact hn
      have M := args_mono HY c (cntL c) 0 i [] (by omega)
      unfold pathL at h
      cases he : argsL Y c (cntL c) 0 i [] with
      | inr y =>
        obtain ⟨a, e⟩ := y
        rw [he] at h
        exact same (Prod.mk.inj h).1.symm
      | inl y =>
        obtain ⟨xs, j⟩ := y
        rw [he] at h
        have hj := M.1 _ _ he
        have hbY := HY.blk j hj.2.1
        simp only at h
        have fin : Y.blkA j = Y.len → G.dropLast <+: (pathL X (f + 1) (some c) i out).1 := by
          intro e
          rw [e, if_neg (fun h => Nat.lt_irrefl _ h.1), if_neg (fun h => Nat.lt_irrefl _ h.1), path_end] at h
          exact last _ (Prod.mk.inj h).1.symm
        rcases args_back HX HY C c (cntL c) 0 i [] hi xs j he with hX | hX
        · have hbX := HX.blk j (by omega)
          have hB := C.blk j (by omega)
          by_cases h4 : X.blkA j < m
          · have e1 : Y.blkA j = X.blkA j := by rw [hB]; omega
            have eb := C.byte _ h4
            rw [e1, hlen, eb] at h
            have hG := C.gap (X.blkA j) (by omega)
            unfold pathL
            rw [hX]
            simp only
            by_cases h5 : X.byte (X.blkA j) = 44
            · rw [if_pos ⟨h4, h5⟩] at h
              rw [if_pos ⟨by omega, h5⟩]
              by_cases h6 : X.gapA (X.blkA j) ≤ m
              · rw [show Y.gapA (X.blkA j) = X.gapA (X.blkA j) by rw [hG]; omega] at h
                exact ih _ _ _ h6 hnn G h
              · rw [show Y.gapA (X.blkA j) = Y.len by rw [hG]; omega] at h
                have := path_end_some HY _ _ _ _ hn h
                subst this
                rw [List.dropLast_concat]
                exact (List.prefix_append _ _).trans (path_out X _ _ _ _)
            · rw [if_neg (fun h => h5 h.2)] at h
              rw [if_neg (fun h => h5 h.2)]
              by_cases h6 : startB (X.byte (X.blkA j)) (!isArc c) = true
              · rw [if_pos ⟨h4, h6⟩] at h
                rw [if_pos ⟨by omega, h6⟩]
                exact ih _ _ _ (by omega) hnn G h
              · rw [if_neg (fun h => h6 h.2)] at h
                rw [if_neg (fun h => h6 h.2)]
                exact ih _ _ _ (by omega) (fun _ e => by cases e) G h
          · exact fin (by rw [hB]; omega)
        · exact fin (by omega)

/-- More steps make no difference, once there are enough. -/
theorem path_fuel {X : Tx} (H : X.Ok) : ∀ (f : Nat) (st : Option Nat) (i : Nat) (out : List Cmd), i ≤ X.len → X.len - i + 1 ≤ f → (∀ c, st = some c → 0 < cntL c) → pathL X (f + 1) st i out = pathL X f st i out := by
  intro f
  induction f with
  | zero => intro st i out _ h _; omega
  | succ f ih =>
    intro st i out hi hf hst
    cases st with
    | none =>
      conv => lhs; unfold pathL
      conv => rhs; unfold pathL
      by_cases h1 : i < X.len
      · have hb := H.blk (i + 1) (by omega)
        rw [if_pos h1, if_pos h1]
        by_cases h2 : cntL (X.byte i) = 99 ∨ (out = [] ∧ X.byte i ≠ 77 ∧ X.byte i ≠ 109)
        · rw [if_pos h2, if_pos h2]
        · rw [if_neg h2, if_neg h2]
          by_cases h3 : cntL (X.byte i) = 0
          · rw [if_pos h3, if_pos h3]; exact ih _ _ _ hb.2 (by omega) (fun _ e => by cases e)
          · rw [if_neg h3, if_neg h3]; exact ih _ _ _ hb.2 (by omega) (fun c e => by cases e; omega)
      · rw [if_neg h1, if_neg h1]
    | some c =>
      have hc := hst c rfl
      have hn : ∀ c', some (nextL c) = some c' → 0 < cntL c' := fun c' e => by cases e; exact cnt_next c hc
      have M := args_mono H c (cntL c) 0 i [] hi
      conv => lhs; unfold pathL
      conv => rhs; unfold pathL
      cases he : argsL X c (cntL c) 0 i [] with
      | inr y => rfl
      | inl y =>
        obtain ⟨xs, j⟩ := y
        have hj := M.1 _ _ he
        have hlt := hj.2.2 hc
        have hb := H.blk j hj.2.1
        have hg := H.gap (X.blkA j) hb.2
        simp only
        by_cases h1 : X.blkA j < X.len ∧ X.byte (X.blkA j) = 44
        · rw [if_pos h1, if_pos h1]; exact ih _ _ _ hg.2 (by omega) hn
        · rw [if_neg h1, if_neg h1]
          by_cases h2 : X.blkA j < X.len ∧ startB (X.byte (X.blkA j)) (!isArc c) = true
          · rw [if_pos h2, if_pos h2]; exact ih _ _ _ hb.2 (by omega) hn
          · rw [if_neg h2, if_neg h2]; exact ih _ _ _ hb.2 (by omega) (fun _ e => by cases e)
theorem path_more {X : Tx} (H : X.Ok) (st : Option Nat) (i : Nat) (out : List Cmd) (hi : i ≤ X.len) (hst : ∀ c, st = some c → 0 < cntL c) (f : Nat) (hf : X.len - i + 1 ≤ f) : ∀ g, pathL X (f + g) st i out = pathL X f st i out := by
  intro g
  induction g with
  | zero => rfl
  | succ g ih => rw [← Nat.add_assoc, path_fuel H (f + g) st i out hi (by omega) hst, ih]
/-- All of the text. -/
def pathAll (X : Tx) : List Cmd × Int × Int := pathL X (X.len + 1) none (X.blkA 0) []
/-- With as many steps as the greater text wants. -/
theorem all_more {X : Tx} (H : X.Ok) (n : Nat) (hn : X.len ≤ n) : pathL X (n + 1) none (X.blkA 0) [] = pathAll X := by
  obtain ⟨g, rfl⟩ : ∃ g, n = X.len + g := ⟨n - X.len, by omega⟩
  have hb := H.blk 0 (by omega)
  rw [show X.len + g + 1 = (X.len + 1) + g from by omega]
  exact path_more H none _ [] hb.2 (fun _ e => by cases e) (X.len + 1) (by omega) g
/-- Cut where it is wrong, a text only lacks something, or is whole. -/
theorem all_syntax {X Y : Tx} {m : Nat} (HX : X.Ok) (HY : Y.Ok) (C : Cut X Y m) (h : (pathAll X).2 = ((m : Int), 3)) : (pathAll Y).2 = (-1, 0) ∨ (pathAll Y).2 = ((m : Int), 3) := by
  have hb := HX.blk 0 (by omega)
  have M := path_mono HX _ none _ [] hb.2 _ h
  have e : Y.blkA 0 = X.blkA 0 := by rw [C.blk 0 (by omega)]; omega
  have P := path_syntax HX C (X.len + 1) none (X.blkA 0) [] (by omega) (fun _ e => by cases e) h
  rw [← e, all_more HY X.len (by have := C.len; have := C.le; omega)] at P
  exact P
/-- The groups of a text that is cut, but the last one, are a beginning of the whole text's. -/
theorem all_front {X Y : Tx} {m : Nat} (HX : X.Ok) (HY : Y.Ok) (C : Cut X Y m) (G : List Cmd) (h : pathAll Y = (G, -1, 0)) : G.dropLast <+: (pathAll X).1 := by
  have hl := C.len
  have hm := C.le
  rw [← all_more HY X.len (by omega)] at h
  by_cases h1 : X.blkA 0 ≤ m
  · rw [show Y.blkA 0 = X.blkA 0 by rw [C.blk 0 (by omega)]; omega] at h
    exact path_front HX HY C _ none _ [] h1 (fun _ e => by cases e) G h
  · rw [show Y.blkA 0 = Y.len by rw [C.blk 0 (by omega)]; omega, path_end] at h
    rw [← (Prod.mk.inj h).1]
    exact List.nil_prefix
end Go.Proofs.YtgiibcnakiggaaaDoor
namespace Go.Proofs.YtgiibcnakiggaaaDoor

/-- The value of a row of digits. -/
def val : List Nat → Nat
  | [] => 0
  | d :: r => d + 65536 * val r

/-- Without noughts ahead. -/
def trimL : List Nat → List Nat
  | [] => []
  | d :: r => if trimL r = [] ∧ d = 0 then [] else d :: trimL r

def Small (zs : List Nat) : Prop := ∀ z ∈ zs, z < 65536

/-- The digits of a number. -/
def dg (x : Nat) : List Nat := if x = 0 then [] else x % 65536 :: dg (x / 65536)
  decreasing_by omega

theorem dg_zero : dg 0 = [] := by rw [dg]; simp
theorem dg_pos (x : Nat) (h : x ≠ 0) : dg x = x % 65536 :: dg (x / 65536) := by rw [dg, if_neg h]
theorem dg_nil (x : Nat) : dg x = [] ↔ x = 0 := by
  constructor
  · intro h
    refine Decidable.byContradiction fun hx => ?_
    rw [dg_pos x hx] at h; cases h
  · rintro rfl; exact dg_zero

theorem val_dg (x : Nat) : val (dg x) = x := by
  by_cases h : x = 0
  · subst h; rw [dg_zero]; rfl
  · rw [dg_pos x h, val, val_dg (x / 65536)]; omega
  termination_by x
  decreasing_by omega

theorem small_dg (x : Nat) : Small (dg x) := by
  by_cases h : x = 0
  · subst h; rw [dg_zero]; intro z hz; cases hz
  · rw [dg_pos x h]
    intro z hz
    rcases List.mem_cons.1 hz with rfl | hz
    · omega
    · exact small_dg (x / 65536) z hz
  termination_by x
  decreasing_by omega

theorem dg_length (k x : Nat) (h : x < 65536 ^ k) : (dg x).length ≤ k := by
  induction k generalizing x with
  | zero => have : x = 0 := by simpa using h
            subst this; rw [dg_zero]; simp
  | succ k ih =>
    by_cases h0 : x = 0
    · subst h0; rw [dg_zero]; simp
    · rw [dg_pos x h0, List.length_cons]
      have := ih (x / 65536) (by rw [Nat.pow_succ] at h; omega)
      omega

theorem Small.tail {d : Nat} {r : List Nat} (h : Small (d :: r)) : Small r := fun z hz => h z (List.mem_cons_of_mem _ hz)

/-- A row without its noughts ahead is the row of its value. -/
theorem trim_dg (zs : List Nat) (h : Small zs) : trimL zs = dg (val zs) := by
  induction zs with
  | nil => rw [val, dg_zero]; rfl
  | cons d r ih =>
    have hd := h d (List.mem_cons_self ..)
    have e := ih h.tail
    rw [trimL, val, e]
    by_cases hz : d + 65536 * val r = 0
    · rw [hz, dg_zero, if_pos ⟨(dg_nil _).2 (by omega), by omega⟩]
    · rw [if_neg (by rw [dg_nil]; omega), dg_pos _ hz, show (d + 65536 * val r) % 65536 = d from by omega, show (d + 65536 * val r) / 65536 = val r from by omega]

theorem val_append (l r : List Nat) : val (l ++ r) = val l + 65536 ^ l.length * val r := by
  induction l with
  | nil => simp [val]
  | cons d l ih =>
    rw [List.cons_append, val, val, ih, List.length_cons, Nat.pow_succ, Nat.mul_add, Nat.mul_comm (65536 ^ l.length) 65536, Nat.mul_assoc]
    omega

theorem val_snoc (l : List Nat) (d : Nat) : val (l ++ [d]) = val l + 65536 ^ l.length * d := by
  rw [val_append]; simp [val]

theorem val_lt (l : List Nat) (h : Small l) : val l < 65536 ^ l.length := by
  induction l with
  | nil => simp [val]
  | cons d l ih =>
    have hd := h d (List.mem_cons_self ..)
    have := ih h.tail
    rw [val, List.length_cons, Nat.pow_succ]
    omega

theorem small_snoc {l : List Nat} {d : Nat} (h : Small l) (hd : d < 65536) : Small (l ++ [d]) := by
  intro z hz
  rcases List.mem_append.1 hz with hz | hz
  · exact h z hz
  · have : z = d := by simpa using hz
    subst this; exact hd
theorem small_take {l : List Nat} (h : Small l) (k : Nat) : Small (l.take k) := fun z hz => h z (List.mem_of_mem_take hz)
theorem small_get {l : List Nat} (h : Small l) (k : Nat) : l.getD k 0 < 65536 := by
  by_cases hk : k < l.length
  · rw [List.getD_eq_getElem?_getD, List.getElem?_eq_getElem hk]; exact h _ (List.getElem_mem hk)
  · rw [List.getD_eq_getElem?_getD, List.getElem?_eq_none (by omega)]; decide

theorem trim_snoc_zero (l : List Nat) : trimL (l ++ [0]) = trimL l := by
  induction l with
  | nil => simp [trimL]
  | cons d l ih => rw [List.cons_append, trimL, ih, trimL]
theorem trim_snoc_pos (l : List Nat) (d : Nat) (h : d ≠ 0) : trimL (l ++ [d]) = l ++ [d] := by
  induction l with
  | nil => simp [trimL, h]
  | cons x l ih => rw [List.cons_append, trimL, ih, if_neg (by simp)]

theorem take_snoc (zs : List Nat) (k : Nat) (h : k < zs.length) : zs.take (k + 1) = zs.take k ++ [zs.getD k 0] := by
  rw [List.take_succ_eq_append_getElem h, List.getD_eq_getElem?_getD, List.getElem?_eq_getElem h]; rfl

theorem val_take (zs : List Nat) (k : Nat) (h : k < zs.length) : val (zs.take (k + 1)) = val (zs.take k) + 65536 ^ k * zs.getD k 0 := by
  rw [take_snoc zs k h, val_snoc, List.length_take, Nat.min_eq_left (by omega)]

theorem val_take_all (zs : List Nat) (k : Nat) (h : zs.length ≤ k) : zs.take k = zs := List.take_of_length_le h

/-- The digit at a place, 0 beyond the end: the value of the first digits goes on by it. -/
theorem val_take' (zs : List Nat) (k : Nat) : val (zs.take (k + 1)) = val (zs.take k) + 65536 ^ k * zs.getD k 0 := by
  by_cases h : k < zs.length
  · exact val_take zs k h
  · rw [val_take_all zs k (by omega), val_take_all zs (k + 1) (by omega), List.getD_eq_getElem?_getD, List.getElem?_eq_none (by omega)]
    simp

/-- Is one row less than another one? (the document's way) -/
def lessB (a b : List Nat) : Bool := if a.length ≠ b.length then decide (a.length < b.length) else decide (val a < val b)

theorem dg_length_lt (x y : Nat) (h : (dg x).length < (dg y).length) : x < y := by
  have h1 := val_lt (dg x) (small_dg x)
  rw [val_dg] at h1
  refine Nat.lt_of_not_le fun hle => ?_
  have h2 : (dg y).length ≤ (dg x).length := dg_length _ _ (Nat.lt_of_le_of_lt hle h1)
  omega

theorem less_dg (x y : Nat) : lessB (dg x) (dg y) = decide (x < y) := by
  unfold lessB
  by_cases h : (dg x).length = (dg y).length
  · rw [if_neg (by simpa using h), val_dg, val_dg]
  · rw [if_pos h]
    by_cases hl : (dg x).length < (dg y).length
    · have := dg_length_lt x y hl
      simp [hl, this]
    · have := dg_length_lt y x (by omega)
      simp [hl]; omega

/-- Two rows of one length that are alike from place k + 1 on, and unlike at k. -/
theorem less_at (a b : List Nat) (k : Nat) (ha : Small a) (hb : Small b) (hl : a.length = b.length) (hk : k < a.length) (ht : a.drop (k + 1) = b.drop (k + 1)) (hne : a.getD k 0 ≠ b.getD k 0) :
    decide (val a < val b) = decide (a.getD k 0 < b.getD k 0) := by
  have ea : val a = val (a.take k) + 65536 ^ k * (a.getD k 0 + 65536 * val (a.drop (k + 1))) := by
    conv => lhs; rw [← List.take_append_drop k a]
    rw [val_append, List.length_take, Nat.min_eq_left (by omega), List.drop_eq_getElem_cons hk, val, List.getD_eq_getElem?_getD, List.getElem?_eq_getElem hk]
    rfl
  have eb : val b = val (b.take k) + 65536 ^ k * (b.getD k 0 + 65536 * val (b.drop (k + 1))) := by
    conv => lhs; rw [← List.take_append_drop k b]
    rw [val_append, List.length_take, Nat.min_eq_left (by omega), List.drop_eq_getElem_cons (by omega), val, List.getD_eq_getElem?_getD, List.getElem?_eq_getElem (by omega)]
    rfl
  have la := val_lt (a.take k) (small_take ha k)
  have lb := val_lt (b.take k) (small_take hb k)
  rw [List.length_take, Nat.min_eq_left (by omega)] at la lb
  rw [ea, eb, ht]
  generalize val (a.take k) = p at *
  generalize val (b.take k) = q at *
  generalize val (b.drop (k + 1)) = t at *
  generalize a.getD k 0 = x at *
  generalize b.getD k 0 = y at *
  generalize 65536 ^ k = M at *
  rw [Bool.eq_iff_iff, decide_eq_true_iff, decide_eq_true_iff]
  constructor
  · intro h
    refine Nat.lt_of_not_le fun hle => ?_
    have h1 : y + 1 ≤ x := by omega
    have h2 := Nat.mul_le_mul_left M (show y + 65536 * t + 1 ≤ x + 65536 * t by omega)
    rw [Nat.mul_add] at h2
    omega
  · intro h
    have h2 := Nat.mul_le_mul_left M (show x + 65536 * t + 1 ≤ y + 65536 * t by omega)
    rw [Nat.mul_add] at h2
    omega
end Go.Proofs.YtgiibcnakiggaaaDoor
