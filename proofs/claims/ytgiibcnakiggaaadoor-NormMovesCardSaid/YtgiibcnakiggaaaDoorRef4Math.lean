/-
  How the document reads a number's text, as plain mathematics: digit by digit, and the power, cut short. No program.
-/
import Derived.Test.YtgiibcnakiggaaaDoorJDec
namespace Go.Proofs.YtgiibcnakiggaaaDoor

/-- One byte of the digits: the number so far, whether the point was met, and how many digits are behind it. -/
def mst (st : Nat × Bool × Nat) (c : UInt8) : Nat × Bool × Nat := if c.toNat = 46 then (st.1, true, st.2.2) else (10 * st.1 + dv c, st.2.1, if st.2.1 then st.2.2 + 1 else st.2.2)
theorem mst_dig {c : UInt8} (h : isDig c = true) (N : Nat) (p : Bool) (b : Nat) : mst (N, p, b) c = (10 * N + dv c, p, if p then b + 1 else b) := by
  unfold mst
  rw [if_neg (by unfold isDig at h; simp at h; omega)]
theorem mst_pt (N : Nat) (p : Bool) (b : Nat) : mst (N, p, b) 46 = (N, true, b) := rfl
theorem mfold_digs (l : List UInt8) : ∀ (N : Nat) (p : Bool) (b : Nat), AllDig l → l.foldl mst (N, p, b) = (N * 10 ^ l.length + nat10 l, p, if p then b + l.length else b) := by
  induction l with
  | nil => intro N p b _; cases p <;> simp [nat10]
  | cons c t ih =>
    intro N p b h
    rw [List.foldl_cons, mst_dig (h c (by simp)), ih _ _ _ (fun x hx => h x (by simp [hx])), nat10_cons, List.length_cons, Nat.pow_succ]
    refine Prod.ext ?_ (Prod.ext rfl ?_)
    · show (10 * N + dv c) * 10 ^ t.length + nat10 t = _
      grind
    · cases p
      · rfl
      · show b + 1 + t.length = b + (t.length + 1)
        omega
theorem mfold_num {l s a : List UInt8} {pt : Bool} {b : List UInt8} {x : Expo} (h : IsNum l s a pt b x) : (a ++ ptL pt b).foldl mst (0, false, 0) = (nat10 (a ++ b), pt, b.length) := by
  rw [List.foldl_append, mfold_digs a _ _ _ h.ha, Nat.zero_mul, Nat.zero_add]
  cases pt with
  | false => rw [h.hpt rfl]; simp [ptL]
  | true =>
    show (46 :: b).foldl mst (nat10 a, false, 0) = _
    rw [List.foldl_cons, mst_pt, mfold_digs b _ _ _ h.hb, nat10_append]
    refine Prod.ext rfl (Prod.ext rfl ?_)
    exact Nat.zero_add _

/-- The power, cut at a thousand. -/
def capF : List UInt8 → Nat → Nat
  | [], p => p
  | c :: t, p => capF t (min 1000 (p * 10 + dv c))
theorem capF_eq (l : List UInt8) : ∀ p : Nat, p ≤ 1000 → capF l p = min 1000 (p * 10 ^ l.length + nat10 l) := by
  induction l with
  | nil => intro p hp; simp [capF, nat10]; omega
  | cons c t ih =>
    intro p hp
    have e : p * (10 ^ t.length * 10) + (dv c * 10 ^ t.length + nat10 t) = (p * 10 + dv c) * 10 ^ t.length + nat10 t := by grind
    show capF t (min 1000 (p * 10 + dv c)) = _
    rw [nat10_cons, List.length_cons, Nat.pow_succ, e]
    have h1 : 1 ≤ 10 ^ t.length := Nat.pow_pos (by decide)
    by_cases h : p * 10 + dv c ≤ 1000
    · rw [Nat.min_eq_right h]; exact ih _ h
    · rw [Nat.min_eq_left (by omega), ih 1000 (by omega)]
      have g : (p * 10 + dv c) * 1 ≤ (p * 10 + dv c) * 10 ^ t.length := Nat.mul_le_mul_left _ h1
      have g' : 1000 * 1 ≤ 1000 * 10 ^ t.length := Nat.mul_le_mul_left _ h1
      rw [Nat.min_eq_left (by omega), Nat.min_eq_left (by omega)]
theorem capF_le (l : List UInt8) (p : Nat) (h : p ≤ 1000) : capF l p ≤ 1000 := by rw [capF_eq l p h]; omega
/-- The document's power. -/
def exC : Expo → Int
  | none => 0
  | some (_, s, d) => sg (decide (s = [45])) (capF d 0)
theorem exC_bd (x : Expo) : -1000 ≤ exC x ∧ exC x ≤ 1000 := by
  cases x with
  | none => simp [exC]
  | some y =>
    obtain ⟨c, s, d⟩ := y
    have := capF_le d 0 (by omega)
    show -1000 ≤ sg _ _ ∧ sg _ _ ≤ 1000
    cases decide (s = [45])
    · rw [sg_false]; omega
    · rw [sg_true]; omega
theorem ans_cap (neg : Bool) (D L bl : Nat) (x : Expo) (hD : D < 10 ^ L) (hL : L ≤ 200) (hb : bl ≤ 200) : ansV (nearV neg D (exC x - bl)) = ansV (nearV neg D (exV x - bl)) := by
  cases x with
  | none => rfl
  | some y =>
    obtain ⟨c, s, d⟩ := y
    show ansV (nearV neg D (sg (decide (s = [45])) (capF d 0) - bl)) = ansV (nearV neg D (sg (decide (s = [45])) (nat10 d) - bl))
    rw [capF_eq d 0 (by omega), Nat.zero_mul, Nat.zero_add]
    by_cases h : nat10 d ≤ 1000
    · rw [Nat.min_eq_right h]
    · rw [Nat.min_eq_left (by omega)]
      generalize nat10 d = m at *
      cases decide (s = [45])
      · rw [sg_false, sg_false, far_up neg D _ (by omega), far_up neg D _ (by omega)]
      · rw [sg_true, sg_true, far_down neg D _ L hD (by omega), far_down neg D _ L hD (by omega)]
theorem num_lens {l s a : List UInt8} {pt : Bool} {b : List UInt8} {x : Expo} (h : IsNum l s a pt b x) : (a ++ b).length ≤ l.length ∧ (a ++ ptL pt b).length ≤ l.length := by
  have e := congrArg List.length h.text
  simp only [List.length_append] at e
  have : b.length ≤ (ptL pt b).length := by
    cases pt with
    | false => rw [h.hpt rfl]; simp
    | true => simp [ptL]
  simp only [List.length_append]
  omega
/-- The document's answer. -/
theorem ref_num {l s a : List UInt8} {pt : Bool} {b : List UInt8} {x : Expo} (h : IsNum l s a pt b x) (hl : l.length ≤ 200) :
    ansV (nearV (decide (s = [45])) (nat10 (a ++ b)) (exC x - b.length)) = ansF s a b x := by
  have e := num_lens h
  have lt := nat10_lt (a ++ b) (fun c hc => by
    rcases List.mem_append.1 hc with hc | hc
    · exact h.ha c hc
    · exact h.hb c hc)
  have : (a ++ b).length = a.length + b.length := by simp
  exact ans_cap _ _ (a ++ b).length b.length x lt (by omega) (by omega)
end Go.Proofs.YtgiibcnakiggaaaDoor
