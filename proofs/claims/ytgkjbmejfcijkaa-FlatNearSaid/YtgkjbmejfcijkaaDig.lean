/-
  Plain arithmetic of rows of digits base 2^16, the lowest one first: values, noughts ahead, order. No program in this text.
-/
namespace Go.Proofs.Ytgkjbmejfcijkaa

/-- The value of a row of digits. -/
def val : List Nat → Nat
  | [] => 0
  | d :: r => d + 65536 * val r

/-- Without noughts ahead. -/
def trimL : List Nat → List Nat
  | [] => []
  | d :: r => if trimL r = [] ∧ d = 0 then [] else d :: trimL r

def Small (zs : List Nat) : Prop := ∀ z ∈ zs, z < 65536

/-- The digits of a number. -/
def dg (x : Nat) : List Nat := if x = 0 then [] else x % 65536 :: dg (x / 65536)
  decreasing_by omega

theorem dg_zero : dg 0 = [] := by rw [dg]; simp
theorem dg_pos (x : Nat) (h : x ≠ 0) : dg x = x % 65536 :: dg (x / 65536) := by rw [dg, if_neg h]
theorem dg_nil (x : Nat) : dg x = [] ↔ x = 0 := by
  constructor
  · intro h
    refine Decidable.byContradiction fun hx => ?_
    rw [dg_pos x hx] at h; cases h
  · rintro rfl; exact dg_zero

theorem val_dg (x : Nat) : val (dg x) = x := by
  by_cases h : x = 0
  · subst h; rw [dg_zero]; rfl
  · rw [dg_pos x h, val, val_dg (x / 65536)]; omega
  termination_by x
  decreasing_by omega

theorem small_dg (x : Nat) : Small (dg x) := by
  by_cases h : x = 0
  · subst h; rw [dg_zero]; intro z hz; cases hz
  · rw [dg_pos x h]
    intro z hz
    rcases List.mem_cons.1 hz with rfl | hz
    · omega
    · exact small_dg (x / 65536) z hz
  termination_by x
  decreasing_by omega

theorem dg_length (k x : Nat) (h : x < 65536 ^ k) : (dg x).length ≤ k := by
  induction k generalizing x with
  | zero => have : x = 0 := by simpa using h
            subst this; rw [dg_zero]; simp
  | succ k ih =>
    by_cases h0 : x = 0
    · subst h0; rw [dg_zero]; simp
    · rw [dg_pos x h0, List.length_cons]
      have := ih (x / 65536) (by rw [Nat.pow_succ] at h; omega)
      omega

theorem Small.tail {d : Nat} {r : List Nat} (h : Small (d :: r)) : Small r := fun z hz => h z (List.mem_cons_of_mem _ hz)

/-- A row without its noughts ahead is the row of its value. -/
theorem trim_dg (zs : List Nat) (h : Small zs) : trimL zs = dg (val zs) := by
  induction zs with
  | nil => rw [val, dg_zero]; rfl
  | cons d r ih =>
    have hd := h d (List.mem_cons_self ..)
    have e := ih h.tail
    rw [trimL, val, e]
    by_cases hz : d + 65536 * val r = 0
    · rw [hz, dg_zero, if_pos ⟨(dg_nil _).2 (by omega), by omega⟩]
    · rw [if_neg (by rw [dg_nil]; omega), dg_pos _ hz, show (d + 65536 * val r) % 65536 = d from by omega, show (d + 65536 * val r) / 65536 = val r from by omega]

theorem val_append (l r : List Nat) : val (l ++ r) = val l + 65536 ^ l.length * val r := by
  induction l with
  | nil => simp [val]
  | cons d l ih =>
    rw [List.cons_append, val, val, ih, List.length_cons, Nat.pow_succ, Nat.mul_add, Nat.mul_comm (65536 ^ l.length) 65536, Nat.mul_assoc]
    omega

theorem val_snoc (l : List Nat) (d : Nat) : val (l ++ [d]) = val l + 65536 ^ l.length * d := by
  rw [val_append]; simp [val]

theorem val_lt (l : List Nat) (h : Small l) : val l < 65536 ^ l.length := by
  induction l with
  | nil => simp [val]
  | cons d l ih =>
    have hd := h d (List.mem_cons_self ..)
    have := ih h.tail
    rw [val, List.length_cons, Nat.pow_succ]
    omega

theorem small_snoc {l : List Nat} {d : Nat} (h : Small l) (hd : d < 65536) : Small (l ++ [d]) := by
  intro z hz
  rcases List.mem_append.1 hz with hz | hz
  · exact h z hz
  · have : z = d := by simpa using hz
    subst this; exact hd
theorem small_take {l : List Nat} (h : Small l) (k : Nat) : Small (l.take k) := fun z hz => h z (List.mem_of_mem_take hz)
theorem small_get {l : List Nat} (h : Small l) (k : Nat) : l.getD k 0 < 65536 := by
  by_cases hk : k < l.length
  · rw [List.getD_eq_getElem?_getD, List.getElem?_eq_getElem hk]; exact h _ (List.getElem_mem hk)
  · rw [List.getD_eq_getElem?_getD, List.getElem?_eq_none (by omega)]; decide

theorem trim_snoc_zero (l : List Nat) : trimL (l ++ [0]) = trimL l := by
  induction l with
  | nil => simp [trimL]
  | cons d l ih => rw [List.cons_append, trimL, ih, trimL]
theorem trim_snoc_pos (l : List Nat) (d : Nat) (h : d ≠ 0) : trimL (l ++ [d]) = l ++ [d] := by
  induction l with
  | nil => simp [trimL, h]
  | cons x l ih => rw [List.cons_append, trimL, ih, if_neg (by simp)]

theorem take_snoc (zs : List Nat) (k : Nat) (h : k < zs.length) : zs.take (k + 1) = zs.take k ++ [zs.getD k 0] := by
  rw [List.take_succ_eq_append_getElem h, List.getD_eq_getElem?_getD, List.getElem?_eq_getElem h]; rfl

theorem val_take (zs : List Nat) (k : Nat) (h : k < zs.length) : val (zs.take (k + 1)) = val (zs.take k) + 65536 ^ k * zs.getD k 0 := by
  rw [take_snoc zs k h, val_snoc, List.length_take, Nat.min_eq_left (by omega)]

theorem val_take_all (zs : List Nat) (k : Nat) (h : zs.length ≤ k) : zs.take k = zs := List.take_of_length_le h

/-- The digit at a place, 0 beyond the end: the value of the first digits goes on by it. -/
theorem val_take' (zs : List Nat) (k : Nat) : val (zs.take (k + 1)) = val (zs.take k) + 65536 ^ k * zs.getD k 0 := by
  by_cases h : k < zs.length
  · exact val_take zs k h
  · rw [val_take_all zs k (by omega), val_take_all zs (k + 1) (by omega), List.getD_eq_getElem?_getD, List.getElem?_eq_none (by omega)]
    simp

/-- Is one row less than another one? (the document's way) -/
def lessB (a b : List Nat) : Bool := if a.length ≠ b.length then decide (a.length < b.length) else decide (val a < val b)

theorem dg_length_lt (x y : Nat) (h : (dg x).length < (dg y).length) : x < y := by
  have h1 := val_lt (dg x) (small_dg x)
  rw [val_dg] at h1
  refine Nat.lt_of_not_le fun hle => ?_
  have h2 : (dg y).length ≤ (dg x).length := dg_length _ _ (Nat.lt_of_le_of_lt hle h1)
  omega

theorem less_dg (x y : Nat) : lessB (dg x) (dg y) = decide (x < y) := by
  unfold lessB
  by_cases h : (dg x).length = (dg y).length
  · rw [if_neg (by simpa using h), val_dg, val_dg]
  · rw [if_pos h]
    by_cases hl : (dg x).length < (dg y).length
    · have := dg_length_lt x y hl
      simp [hl, this]
    · have := dg_length_lt y x (by omega)
      simp [hl]; omega

/-- Two rows of one length that are alike from place k + 1 on, and unlike at k. -/
theorem less_at (a b : List Nat) (k : Nat) (ha : Small a) (hb : Small b) (hl : a.length = b.length) (hk : k < a.length) (ht : a.drop (k + 1) = b.drop (k + 1)) (hne : a.getD k 0 ≠ b.getD k 0) :
    decide (val a < val b) = decide (a.getD k 0 < b.getD k 0) := by
  have ea : val a = val (a.take k) + 65536 ^ k * (a.getD k 0 + 65536 * val (a.drop (k + 1))) := by
    conv => lhs; rw [← List.take_append_drop k a]
    rw [val_append, List.length_take, Nat.min_eq_left (by omega), List.drop_eq_getElem_cons hk, val, List.getD_eq_getElem?_getD, List.getElem?_eq_getElem hk]
    rfl
  have eb : val b = val (b.take k) + 65536 ^ k * (b.getD k 0 + 65536 * val (b.drop (k + 1))) := by
    conv => lhs; rw [← List.take_append_drop k b]
    rw [val_append, List.length_take, Nat.min_eq_left (by omega), List.drop_eq_getElem_cons (by omega), val, List.getD_eq_getElem?_getD, List.getElem?_eq_getElem (by omega)]
    rfl
  have la := val_lt (a.take k) (small_take ha k)
  have lb := val_lt (b.take k) (small_take hb k)
  rw [List.length_take, Nat.min_eq_left (by omega)] at la lb
  rw [ea, eb, ht]
  generalize val (a.take k) = p at *
  generalize val (b.take k) = q at *
  generalize val (b.drop (k + 1)) = t at *
  generalize a.getD k 0 = x at *
  generalize b.getD k 0 = y at *
  generalize 65536 ^ k = M at *
  rw [Bool.eq_iff_iff, decide_eq_true_iff, decide_eq_true_iff]
  constructor
  · intro h
    refine Nat.lt_of_not_le fun hle => ?_
    have h1 : y + 1 ≤ x := by omega
    have h2 := Nat.mul_le_mul_left M (show y + 65536 * t + 1 ≤ x + 65536 * t by omega)
    rw [Nat.mul_add] at h2
    omega
  · intro h
    have h2 := Nat.mul_le_mul_left M (show x + 65536 * t + 1 ≤ y + 65536 * t by omega)
    rw [Nat.mul_add] at h2
    omega
end Go.Proofs.Ytgkjbmejfcijkaa
