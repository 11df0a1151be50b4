/-
  Numbers' texts, as plain mathematics: what a text that is one is made of: a sign, digits, a point, digits, and a power. No memory, no program.
-/
import Derived.Test.YtmfibmcmbbelgaaDoorDecNear
namespace Go.Proofs.YtmfibmcmbbelgaaDoor

def SgnL (l : List UInt8) : Prop := l = [] ∨ l = [43] ∨ l = [45]
abbrev Expo := Option (UInt8 × List UInt8 × List UInt8)
def expo : Expo → List UInt8
  | none => []
  | some (c, s, d) => c :: (s ++ d)
def XOk : Expo → Prop
  | none => True
  | some (c, s, d) => isLet c = true ∧ SgnL s ∧ AllDig d ∧ d ≠ []
def ptL (pt : Bool) (b : List UInt8) : List UInt8 := if pt then 46 :: b else []

/-- The text is the sign, the digits, the point and its digits, and the power. -/
structure IsNum (l sg a : List UInt8) (pt : Bool) (b : List UInt8) (x : Expo) : Prop where
  hsg : SgnL sg
  ha : AllDig a
  hb : AllDig b
  hpt : pt = false → b = []
  h0 : 0 < a.length + b.length
  hx : XOk x
  text : l = sg ++ (a ++ ptL pt b ++ expo x)

def exV : Expo → Int
  | none => 0
  | some (_, s, d) => sg (decide (s = [45])) (nat10 d)
/-- The text's answer. -/
def ansF (s a b : List UInt8) (x : Expo) : Int × Int := ansV (nearV (decide (s = [45])) (nat10 (a ++ b)) (exV x - b.length))

/-- The walk goes to the end, and may end there. -/
def Acc (l : List UInt8) (st : Nat) : Prop := (walkL l st).1 = l.length ∧ wholeS (walkL l st).2 = true
theorem acc_nil (st : Nat) : Acc [] st ↔ wholeS st = true := by simp [Acc, walkL]
theorem acc_cons (b : UInt8) (t : List UInt8) (st : Nat) : Acc (b :: t) st ↔ follow st (kindB b) ≠ 0 ∧ Acc t (follow st (kindB b)) := by
  unfold Acc
  constructor
  · intro h
    unfold walkL at h
    by_cases e : follow st (kindB b) = 0
    · rw [if_pos e] at h; simp at h
    · rw [if_neg e] at h
      simp at h
      exact ⟨e, h⟩
  · rintro ⟨e, h1, h2⟩
    unfold walkL
    rw [if_neg e]
    simp
    exact ⟨h1, h2⟩

theorem eq_of_toNat {a b : UInt8} (h : a.toNat = b.toNat) : a = b := UInt8.toNat_inj.1 h
theorem sgn_eq {b : UInt8} (h : isSgn b = true) : b = 43 ∨ b = 45 := by
  have : b.toNat = 43 ∨ b.toNat = 45 := by simpa [isSgn] using h
  rcases this with e | e
  · exact Or.inl (eq_of_toNat e)
  · exact Or.inr (eq_of_toNat e)
theorem pt_eq {b : UInt8} (h : isPt b = true) : b = 46 := eq_of_toNat (by simpa [isPt] using h)
theorem sgnL_one {b : UInt8} (h : isSgn b = true) : SgnL [b] := by
  rcases sgn_eq h with rfl | rfl
  · exact Or.inr (Or.inl rfl)
  · exact Or.inr (Or.inr rfl)
theorem allDig_nil : AllDig [] := fun _ h => by cases h
theorem allDig_cons {b : UInt8} {t : List UInt8} (h : isDig b = true) (ht : AllDig t) : AllDig (b :: t) := fun x hx => by
  rcases List.mem_cons.1 hx with rfl | hx
  · exact h
  · exact ht x hx
theorem kind_sgn {b : UInt8} (h : isSgn b = true) : kindB b = 1 := by have := sgn_not h; simp [kindB, h, this]
theorem kind_pt {b : UInt8} (h : isPt b = true) : kindB b = 2 := by have := pt_not h; simp [kindB, h, this]
theorem kind_let {b : UInt8} (h : isLet b = true) : kindB b = 3 := by have := let_not h; simp [kindB, h, this]

theorem acc8 : ∀ l : List UInt8, Acc l 8 → AllDig l := by
  intro l
  induction l with
  | nil => intro _; exact allDig_nil
  | cons b t ih =>
    intro h
    rw [acc_cons] at h
    rcases kind_cases b with ⟨k1, k2⟩ | ⟨_, _, k2⟩ | ⟨_, _, _, k2⟩ | ⟨_, _, _, _, k2⟩ | ⟨_, _, _, _, k2⟩ <;> rw [k2] at h <;> simp [follow] at h
    exact allDig_cons k1 (ih h)
theorem acc7 : ∀ l : List UInt8, Acc l 7 → AllDig l ∧ l ≠ [] := by
  intro l h
  cases l with
  | nil => simp [acc_nil, wholeS] at h
  | cons b t =>
    rw [acc_cons] at h
    rcases kind_cases b with ⟨k1, k2⟩ | ⟨_, _, k2⟩ | ⟨_, _, _, k2⟩ | ⟨_, _, _, _, k2⟩ | ⟨_, _, _, _, k2⟩ <;> rw [k2] at h <;> simp [follow] at h
    exact ⟨allDig_cons k1 (acc8 t h), by simp⟩
theorem acc6 : ∀ l : List UInt8, Acc l 6 → ∃ s d, SgnL s ∧ AllDig d ∧ d ≠ [] ∧ l = s ++ d := by
  intro l h
  cases l with
  | nil => simp [acc_nil, wholeS] at h
  | cons b t =>
    rw [acc_cons] at h
    rcases kind_cases b with ⟨k1, k2⟩ | ⟨_, k1, k2⟩ | ⟨_, _, _, k2⟩ | ⟨_, _, _, _, k2⟩ | ⟨_, _, _, _, k2⟩ <;> rw [k2] at h <;> simp [follow] at h
    · exact ⟨[], b :: t, Or.inl rfl, allDig_cons k1 (acc8 t h), by simp, rfl⟩
    · exact ⟨[b], t, sgnL_one k1, (acc7 t h).1, (acc7 t h).2, rfl⟩
theorem acc_let {b : UInt8} {t : List UInt8} (hb : isLet b = true) (h : Acc t 6) : ∃ x, XOk x ∧ b :: t = expo x := by
  obtain ⟨s, d, h1, h2, h3, rfl⟩ := acc6 t h
  exact ⟨some (b, s, d), ⟨hb, h1, h2, h3⟩, rfl⟩
theorem acc5 : ∀ l : List UInt8, Acc l 5 → ∃ b x, AllDig b ∧ XOk x ∧ l = b ++ expo x := by
  intro l
  induction l with
  | nil => intro _; exact ⟨[], none, allDig_nil, trivial, rfl⟩
  | cons c t ih =>
    intro h
    rw [acc_cons] at h
    rcases kind_cases c with ⟨k1, k2⟩ | ⟨_, _, k2⟩ | ⟨_, _, _, k2⟩ | ⟨_, _, _, k1, k2⟩ | ⟨_, _, _, _, k2⟩ <;> rw [k2] at h <;> simp [follow] at h
    · obtain ⟨b, x, h1, h2, rfl⟩ := ih h
      exact ⟨c :: b, x, allDig_cons k1 h1, h2, rfl⟩
    · obtain ⟨x, h1, h2⟩ := acc_let k1 h
      exact ⟨[], x, allDig_nil, h1, h2⟩
theorem acc4 : ∀ l : List UInt8, Acc l 4 → ∃ b x, AllDig b ∧ b ≠ [] ∧ XOk x ∧ l = b ++ expo x := by
  intro l h
  cases l with
  | nil => simp [acc_nil, wholeS] at h
  | cons c t =>
    rw [acc_cons] at h
    rcases kind_cases c with ⟨k1, k2⟩ | ⟨_, _, k2⟩ | ⟨_, _, _, k2⟩ | ⟨_, _, _, k1, k2⟩ | ⟨_, _, _, _, k2⟩ <;> rw [k2] at h <;> simp [follow] at h
    obtain ⟨b, x, h1, h2, rfl⟩ := acc5 t h
    exact ⟨c :: b, x, allDig_cons k1 h1, by simp, h2, rfl⟩
theorem acc3 : ∀ l : List UInt8, Acc l 3 → ∃ a pt b x, AllDig a ∧ AllDig b ∧ (pt = false → b = []) ∧ XOk x ∧ l = a ++ ptL pt b ++ expo x := by
  intro l
  induction l with
  | nil => intro _; exact ⟨[], false, [], none, allDig_nil, allDig_nil, fun _ => rfl, trivial, rfl⟩
  | cons c t ih =>
    intro h
    rw [acc_cons] at h
    rcases kind_cases c with ⟨k1, k2⟩ | ⟨_, _, k2⟩ | ⟨_, _, k1, k2⟩ | ⟨_, _, _, k1, k2⟩ | ⟨_, _, _, _, k2⟩ <;> rw [k2] at h <;> simp [follow] at h
    · obtain ⟨a, pt, b, x, h1, h2, h3, h4, rfl⟩ := ih h
      exact ⟨c :: a, pt, b, x, allDig_cons k1 h1, h2, h3, h4, rfl⟩
    · obtain ⟨b, x, h1, h2, rfl⟩ := acc5 t h
      exact ⟨[], true, b, x, allDig_nil, h1, (fun e => by cases e), h2, by rw [pt_eq k1]; rfl⟩
    · obtain ⟨x, h1, h2⟩ := acc_let k1 h
      exact ⟨[], false, [], x, allDig_nil, allDig_nil, fun _ => rfl, h1, h2⟩
theorem acc2 : ∀ l : List UInt8, Acc l 2 → ∃ a pt b x, IsNum l [] a pt b x := by
  intro l h
  cases l with
  | nil => simp [acc_nil, wholeS] at h
  | cons c t =>
    rw [acc_cons] at h
    rcases kind_cases c with ⟨k1, k2⟩ | ⟨_, _, k2⟩ | ⟨_, _, k1, k2⟩ | ⟨_, _, _, k1, k2⟩ | ⟨_, _, _, _, k2⟩ <;> rw [k2] at h <;> simp [follow] at h
    · obtain ⟨a, pt, b, x, h1, h2, h3, h4, rfl⟩ := acc3 t h
      exact ⟨c :: a, pt, b, x, Or.inl rfl, allDig_cons k1 h1, h2, h3, by simp; omega, h4, rfl⟩
    · obtain ⟨b, x, h1, h2, h3, rfl⟩ := acc4 t h
      exact ⟨[], true, b, x, Or.inl rfl, allDig_nil, h1, (fun e => by cases e), by have := List.length_pos_iff.2 h2; simp; omega, h3, by rw [pt_eq k1]; rfl⟩
/-- A text that the walk takes whole is a number's. -/
theorem acc1 (l : List UInt8) (h : Acc l 1) : ∃ s a pt b x, IsNum l s a pt b x := by
  cases l with
  | nil => simp [acc_nil, wholeS] at h
  | cons c t =>
    rcases kind_cases c with ⟨k1, k2⟩ | ⟨_, k1, k2⟩ | ⟨_, _, k1, k2⟩ | ⟨_, _, _, k1, k2⟩ | ⟨_, _, _, _, k2⟩
    · obtain ⟨a, pt, b, x, hh⟩ := acc2 (c :: t) (by rw [acc_cons, k2] at h ⊢; exact h)
      exact ⟨[], a, pt, b, x, hh⟩
    · rw [acc_cons, k2] at h
      obtain ⟨a, pt, b, x, hh⟩ := acc2 t h.2
      exact ⟨[c], a, pt, b, x, sgnL_one k1, hh.ha, hh.hb, hh.hpt, hh.h0, hh.hx, by rw [hh.text]; rfl⟩
    · obtain ⟨a, pt, b, x, hh⟩ := acc2 (c :: t) (by rw [acc_cons, k2] at h ⊢; exact h)
      exact ⟨[], a, pt, b, x, hh⟩
    · rw [acc_cons, k2] at h; simp [follow] at h
    · rw [acc_cons, k2] at h; simp [follow] at h

theorem digs_acc (st : Nat) (hst : follow st 0 = st) (h0 : st ≠ 0) : ∀ a t : List UInt8, AllDig a → Acc t st → Acc (a ++ t) st := by
  intro a t ha ht
  induction a with
  | nil => exact ht
  | cons b a ih =>
    show Acc (b :: (a ++ t)) st
    rw [acc_cons, kind_dig (ha b (by simp)), hst]
    exact ⟨h0, ih (fun x hx => ha x (by simp [hx]))⟩
theorem expo_acc (x : Expo) (h : XOk x) : ∀ st, (st = 3 ∨ st = 5) → Acc (expo x) st := by
  intro st hst
  cases x with
  | none => rcases hst with rfl | rfl <;> simp [expo, acc_nil, wholeS]
  | some y =>
    obtain ⟨c, s, d⟩ := y
    obtain ⟨h1, h2, h3, h4⟩ := h
    have e8 : ∀ d : List UInt8, AllDig d → Acc d 8 := fun d hd => by
      have := digs_acc 8 rfl (by decide) d [] hd (by simp [acc_nil, wholeS])
      simpa using this
    have e6 : Acc (s ++ d) 6 := by
      cases d with
      | nil => exact absurd rfl h4
      | cons b t =>
        have hb := h3 b (by simp)
        have ht := e8 t (fun x hx => h3 x (by simp [hx]))
        rcases h2 with rfl | rfl | rfl
        · show Acc (b :: t) 6
          rw [acc_cons, kind_dig hb]
          exact ⟨by decide, ht⟩
        · show Acc (43 :: b :: t) 6
          rw [acc_cons, acc_cons, kind_dig hb]
          exact ⟨by decide, by decide, ht⟩
        · show Acc (45 :: b :: t) 6
          rw [acc_cons, acc_cons, kind_dig hb]
          exact ⟨by decide, by decide, ht⟩
    show Acc (c :: (s ++ d)) st
    rw [acc_cons, kind_let h1]
    rcases hst with rfl | rfl <;> exact ⟨by decide, e6⟩
/-- A number's text is taken whole. -/
theorem IsNum.acc {l s a : List UInt8} {pt : Bool} {b : List UInt8} {x : Expo} (h : IsNum l s a pt b x) : Acc l 1 := by
  obtain ⟨hsg, ha, hb, hpt, h0, hx, rfl⟩ := h
  have t5 : Acc (b ++ expo x) 5 := digs_acc 5 rfl (by decide) b _ hb (expo_acc x hx 5 (Or.inr rfl))
  have t3 : Acc (ptL pt b ++ expo x) 3 := by
    cases pt with
    | false => exact expo_acc x hx 3 (Or.inl rfl)
    | true => show Acc (46 :: (b ++ expo x)) 3
              rw [acc_cons]
              exact ⟨by decide, t5⟩
  have body : ∀ st, (st = 1 ∨ st = 2) → Acc (a ++ ptL pt b ++ expo x) st := by
    intro st hst
    rw [List.append_assoc]
    cases a with
    | cons c a =>
      show Acc (c :: (a ++ (ptL pt b ++ expo x))) st
      rw [acc_cons, kind_dig (ha c (by simp))]
      have := digs_acc 3 rfl (by decide) a _ (fun x hx => ha x (by simp [hx])) t3
      rcases hst with rfl | rfl <;> exact ⟨by decide, this⟩
    | nil =>
      cases b with
      | nil => simp at h0
      | cons c b =>
        cases pt with
        | false => exact absurd (hpt rfl) (by simp)
        | true =>
          show Acc (46 :: c :: (b ++ expo x)) st
          have := digs_acc 5 rfl (by decide) b _ (fun x hx => hb x (by simp [hx])) (expo_acc x hx 5 (Or.inr rfl))
          rw [acc_cons, acc_cons]
          have k : kindB (46 : UInt8) = 2 := by decide
          rw [k, kind_dig (hb c (by simp))]
          rcases hst with rfl | rfl <;> exact ⟨by decide, by decide, this⟩
  rcases hsg with rfl | rfl | rfl
  · exact body 1 (Or.inl rfl)
  · show Acc (43 :: (a ++ ptL pt b ++ expo x)) 1
    rw [acc_cons]
    exact ⟨by decide, body 2 (Or.inr rfl)⟩
  · show Acc (45 :: (a ++ ptL pt b ++ expo x)) 1
    rw [acc_cons]
    exact ⟨by decide, body 2 (Or.inr rfl)⟩
end Go.Proofs.YtmfibmcmbbelgaaDoor
