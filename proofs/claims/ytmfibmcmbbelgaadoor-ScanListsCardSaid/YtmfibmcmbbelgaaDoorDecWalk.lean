/-
  Numbers' texts, as plain mathematics: the table of states, how far a number's text goes, and what it is made of. No memory, no program.
-/
namespace Go.Proofs.YtmfibmcmbbelgaaDoor

def isDig (b : UInt8) : Bool := decide (48 ≤ b.toNat) && decide (b.toNat ≤ 57)
def isSgn (b : UInt8) : Bool := b.toNat == 43 || b.toNat == 45
def isPt (b : UInt8) : Bool := b.toNat == 46
def isLet (b : UInt8) : Bool := b.toNat == 101 || b.toNat == 69
/-- What a byte is: a digit (0), a sign (1), a point (2), a letter (3), or none of them (4). -/
def kindB (b : UInt8) : Nat := if isDig b then 0 else if isSgn b then 1 else if isPt b then 2 else if isLet b then 3 else 4
def follow : Nat → Nat → Nat
  | 1, 0 => 3 | 1, 1 => 2 | 1, 2 => 4 | 2, 0 => 3 | 2, 2 => 4 | 3, 0 => 3 | 3, 2 => 5 | 3, 3 => 6 | 4, 0 => 5 | 5, 0 => 5 | 5, 3 => 6 | 6, 0 => 8 | 6, 1 => 7 | 7, 0 => 8 | 8, 0 => 8
  | _, _ => 0
/-- Where the walk ends, and in which state. -/
def walkL : List UInt8 → Nat → Nat × Nat
  | [], st => (0, st)
  | b :: t, st => if follow st (kindB b) = 0 then (0, st) else ((walkL t (follow st (kindB b))).1 + 1, (walkL t (follow st (kindB b))).2)
def wholeS (st : Nat) : Bool := st == 3 || st == 5 || st == 8

/-- How many digits there are. -/
def run : List UInt8 → Nat
  | [] => 0
  | b :: t => if isDig b then run t + 1 else 0
def headIs (p : UInt8 → Bool) : List UInt8 → Bool
  | [] => false
  | b :: _ => p b
/-- Behind the letter. -/
def scanPow (t : List UInt8) : Nat × Bool :=
  if headIs isSgn t then (1 + run (t.drop 1), decide (0 < run (t.drop 1))) else (run t, decide (0 < run t))
/-- Behind the digits and the point. -/
def scanTail (t : List UInt8) : Nat × Bool := if headIs isLet t then (1 + (scanPow (t.drop 1)).1, (scanPow (t.drop 1)).2) else (0, true)
/-- Behind the sign. -/
def scanBody (l : List UInt8) : Nat × Bool :=
  if headIs isPt (l.drop (run l)) then
    if run l = 0 ∧ run (l.drop (run l + 1)) = 0 then (1, false)
    else (run l + 1 + run (l.drop (run l + 1)) + (scanTail (l.drop (run l + 1 + run (l.drop (run l + 1))))).1, (scanTail (l.drop (run l + 1 + run (l.drop (run l + 1))))).2)
  else if run l = 0 then (0, false) else (run l + (scanTail (l.drop (run l))).1, (scanTail (l.drop (run l))).2)
def scanL (signed : Bool) (l : List UInt8) : Nat × Bool :=
  if signed && headIs isSgn l then (1 + (scanBody (l.drop 1)).1, (scanBody (l.drop 1)).2) else scanBody l

theorem kind_dig {b : UInt8} (h : isDig b = true) : kindB b = 0 := by simp [kindB, h]
theorem kind_cases (b : UInt8) : (isDig b = true ∧ kindB b = 0) ∨ (isDig b = false ∧ isSgn b = true ∧ kindB b = 1) ∨ (isDig b = false ∧ isSgn b = false ∧ isPt b = true ∧ kindB b = 2) ∨ (isDig b = false ∧ isSgn b = false ∧ isPt b = false ∧ isLet b = true ∧ kindB b = 3) ∨ (isDig b = false ∧ isSgn b = false ∧ isPt b = false ∧ isLet b = false ∧ kindB b = 4) := by
  unfold kindB
  cases h1 : isDig b <;> cases h2 : isSgn b <;> cases h3 : isPt b <;> cases h4 : isLet b <;> simp
theorem sgn_not {b : UInt8} (h : isSgn b = true) : isDig b = false ∧ isPt b = false ∧ isLet b = false := by
  unfold isSgn at h; unfold isDig isPt isLet
  have : b.toNat = 43 ∨ b.toNat = 45 := by simpa using h
  rcases this with e | e <;> simp [e]
theorem pt_not {b : UInt8} (h : isPt b = true) : isDig b = false ∧ isSgn b = false ∧ isLet b = false := by
  unfold isPt at h; unfold isDig isSgn isLet
  have : b.toNat = 46 := by simpa using h
  simp [this]
theorem let_not {b : UInt8} (h : isLet b = true) : isDig b = false ∧ isSgn b = false ∧ isPt b = false := by
  unfold isLet at h; unfold isDig isSgn isPt
  have : b.toNat = 101 ∨ b.toNat = 69 := by simpa using h
  rcases this with e | e <;> simp [e]
theorem dig_not {b : UInt8} (h : isDig b = true) : isSgn b = false ∧ isPt b = false ∧ isLet b = false := by
  unfold isDig at h; unfold isLet isSgn isPt
  have h : 48 ≤ b.toNat ∧ b.toNat ≤ 57 := by simpa using h
  refine ⟨?_, ?_, ?_⟩ <;> simp <;> omega

theorem run_le (l : List UInt8) : run l ≤ l.length := by
  induction l with
  | nil => simp [run]
  | cons b t ih => unfold run; split <;> simp <;> omega
theorem walk_fst_le (l : List UInt8) : ∀ st, (walkL l st).1 ≤ l.length := by
  induction l with
  | nil => intro st; simp [walkL]
  | cons b t ih => intro st; unfold walkL; split; · simp
                   · have := ih (follow st (kindB b)); simp; omega
theorem scanPow_le (l : List UInt8) : (scanPow l).1 ≤ l.length := by
  unfold scanPow
  split
  · rename_i h
    cases l with
    | nil => simp [headIs] at h
    | cons b t => have := run_le t; simp; omega
  · exact run_le l

/-- The digits are gone through in one state. -/
theorem walk_run (st : Nat) (h : follow st 0 = st) (h0 : st ≠ 0) (l : List UInt8) : walkL l st = (run l + (walkL (l.drop (run l)) st).1, (walkL (l.drop (run l)) st).2) := by
  induction l with
  | nil => simp [run]
  | cons b t ih =>
    unfold run
    by_cases hd : isDig b = true
    · simp only [hd, if_true, List.drop_succ_cons]
      conv => lhs; unfold walkL
      rw [kind_dig hd, h, if_neg h0, ih]
      refine Prod.ext ?_ rfl
      simp; omega
    · simp [hd]
theorem walk_first (st st' : Nat) (h : follow st 0 = st') (h' : follow st' 0 = st') (l : List UInt8) (hr : 0 < run l) (h0 : st' ≠ 0) : walkL l st = walkL l st' := by
  cases l with
  | nil => simp [run] at hr
  | cons b t =>
    by_cases hd : isDig b = true
    · unfold walkL; rw [kind_dig hd, h, h', if_neg h0, if_neg h0]
    · simp [run, hd] at hr
end Go.Proofs.YtmfibmcmbbelgaaDoor
