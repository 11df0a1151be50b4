/- Joined: DecForm, ScanMath, ScanRd, PathFn, Shelf, DecFn. -/
import Derived.Test.YtbjabclgekkpaaaGreatDoorProg
import Derived.Test.YtbjabclgekkpaaaGreatDoorQOM02
import Derived.Test.YtbjabclgekkpaaaGreatDoorQOM08
import Derived.Lib.Bytealg
import Derived.Shelf.Strings.Cut
import Derived.Shelf.Strings.IndexAnyAll
import Derived.Shelf.Strings.Prefix
import Derived.Shelf.Strings.SlTrimAscii
namespace Go.Proofs.YtbjabclgekkpaaaGreatDoor
def SgnL (l : List UInt8) : Prop := l = [] ∨ l = [43] ∨ l = [45]
abbrev Expo := Option (UInt8 × List UInt8 × List UInt8)
def expo : Expo → List UInt8
  | none => []
  | some (c, s, d) => c :: (s ++ d)
def XOk : Expo → Prop
  | none => True
  | some (c, s, d) => isLet c = true ∧ SgnL s ∧ AllDig d ∧ d ≠ []
def ptL (pt : Bool) (b : List UInt8) : List UInt8 := if pt then 46 :: b else []
/-- The text is the sign, the digits, the point and its digits, and the power. -/
structure IsNum (l sg a : List UInt8) (pt : Bool) (b : List UInt8) (x : Expo) : Prop where
  hsg : SgnL sg
  ha : AllDig a
  hb : AllDig b
  hpt : pt = false → b = []
  h0 : 0 < a.length + b.length
  hx : XOk x
  text : l = sg ++ (a ++ ptL pt b ++ expo x)
def exV : Expo → Int
  | none => 0
  | some (_, s, d) => sg (decide (s = [45])) (nat10 d)
/-- The text's answer. -/
def ansF (s a b : List UInt8) (x : Expo) : Int × Int := ansV (nearV (decide (s = [45])) (nat10 (a ++ b)) (exV x - b.length))
/-- The walk goes to the end, and may end there. -/
def Acc (l : List UInt8) (st : Nat) : Prop := (walkL l st).1 = l.length ∧ wholeS (walkL l st).2 = true
theorem acc_nil (st : Nat) : Acc [] st ↔ wholeS st = true := by simp [Acc, walkL]
theorem acc_cons (b : UInt8) (t : List UInt8) (st : Nat) : Acc (b :: t) st ↔ follow st (kindB b) ≠ 0 ∧ Acc t (follow st (kindB b)) := by
  unfold Acc
  constructor
  · intro h
    unfold walkL at h
    by_cases e : follow st (kindB b) = 0
    · rw [if_pos e] at h; simp at h
    · rw [if_neg e] at h
      simp at h
      exact ⟨e, h⟩
  · rintro ⟨e, h1, h2⟩
    unfold walkL
    rw [if_neg e]
    simp
    exact ⟨h1, h2⟩
theorem eq_of_toNat {a b : UInt8} (h : a.toNat = b.toNat) : a = b := UInt8.toNat_inj.1 h
theorem sgn_eq {b : UInt8} (h : isSgn b = true) : b = 43 ∨ b = 45 := by
  have : b.toNat = 43 ∨ b.toNat = 45 := by simpa [isSgn] using h
  rcases this with e | e
  · exact Or.inl (eq_of_toNat e)
  · exact Or.inr (eq_of_toNat e)
theorem pt_eq {b : UInt8} (h : isPt b = true) : b = 46 := eq_of_toNat (by simpa [isPt] using h)
theorem sgnL_one {b : UInt8} (h : isSgn b = true) : SgnL [b] := by
  rcases sgn_eq h with rfl | rfl
  · exact Or.inr (Or.inl rfl)
  · exact Or.inr (Or.inr rfl)
theorem allDig_nil : AllDig [] := fun _ h => by cases h
theorem allDig_cons {b : UInt8} {t : List UInt8} (h : isDig b = true) (ht : AllDig t) : AllDig (b :: t) := fun x hx => by
  rcases List.mem_cons.1 hx with rfl | hx
  · exact h
  · exact ht x hx
theorem kind_sgn {b : UInt8} (h : isSgn b = true) : kindB b = 1 := by have := sgn_not h; simp [kindB, h, this]
theorem kind_let {b : UInt8} (h : isLet b = true) : kindB b = 3 := by have := let_not h; simp [kindB, h, this]
theorem acc8 : ∀ l : List UInt8, Acc l 8 → AllDig l := by
  intro l
  induction l with
  | nil => intro _; exact allDig_nil
  | cons b t ih =>
    intro h
    rw [acc_cons] at h
    rcases kind_cases b with ⟨k1, k2⟩ | ⟨_, _, k2⟩ | ⟨_, _, _, k2⟩ | ⟨_, _, _, _, k2⟩ | ⟨_, _, _, _, k2⟩ <;> rw [k2] at h <;> simp [follow] at h
    exact allDig_cons k1 (ih h)
theorem acc7 : ∀ l : List UInt8, Acc l 7 → AllDig l ∧ l ≠ [] := by
  intro l h
  cases l with
  | nil => simp [acc_nil, wholeS] at h
  | cons b t =>
    rw [acc_cons] at h
    rcases kind_cases b with ⟨k1, k2⟩ | ⟨_, _, k2⟩ | ⟨_, _, _, k2⟩ | ⟨_, _, _, _, k2⟩ | ⟨_, _, _, _, k2⟩ <;> rw [k2] at h <;> simp [follow] at h
    exact ⟨allDig_cons k1 (acc8 t h), by simp⟩
theorem acc6 : ∀ l : List UInt8, Acc l 6 → ∃ s d, SgnL s ∧ AllDig d ∧ d ≠ [] ∧ l = s ++ d := by
  intro l h
  cases l with
  | nil => simp [acc_nil, wholeS] at h
  | cons b t =>
    rw [acc_cons] at h
    rcases kind_cases b with ⟨k1, k2⟩ | ⟨_, k1, k2⟩ | ⟨_, _, _, k2⟩ | ⟨_, _, _, _, k2⟩ | ⟨_, _, _, _, k2⟩ <;> rw [k2] at h <;> simp [follow] at h
    · exact ⟨[], b :: t, Or.inl rfl, allDig_cons k1 (acc8 t h), by simp, rfl⟩
    · exact ⟨[b], t, sgnL_one k1, (acc7 t h).1, (acc7 t h).2, rfl⟩
theorem acc_let {b : UInt8} {t : List UInt8} (hb : isLet b = true) (h : Acc t 6) : ∃ x, XOk x ∧ b :: t = expo x := by
  obtain ⟨s, d, h1, h2, h3, rfl⟩ := acc6 t h
  exact ⟨some (b, s, d), ⟨hb, h1, h2, h3⟩, rfl⟩
theorem acc5 : ∀ l : List UInt8, Acc l 5 → ∃ b x, AllDig b ∧ XOk x ∧ l = b ++ expo x := by
  intro l
  induction l with
  | nil => intro _; exact ⟨[], none, allDig_nil, trivial, rfl⟩
  | cons c t ih =>
    intro h
    rw [acc_cons] at h
    rcases kind_cases c with ⟨k1, k2⟩ | ⟨_, _, k2⟩ | ⟨_, _, _, k2⟩ | ⟨_, _, _, k1, k2⟩ | ⟨_, _, _, _, k2⟩ <;> rw [k2] at h <;> simp [follow] at h
    · obtain ⟨b, x, h1, h2, rfl⟩ := ih h
      exact ⟨c :: b, x, allDig_cons k1 h1, h2, rfl⟩
    · obtain ⟨x, h1, h2⟩ := acc_let k1 h
      exact ⟨[], x, allDig_nil, h1, h2⟩
theorem acc4 : ∀ l : List UInt8, Acc l 4 → ∃ b x, AllDig b ∧ b ≠ [] ∧ XOk x ∧ l = b ++ expo x := by
  intro l h
  cases l with
  | nil => simp [acc_nil, wholeS] at h
  | cons c t =>
    rw [acc_cons] at h
    rcases kind_cases c with ⟨k1, k2⟩ | ⟨_, _, k2⟩ | ⟨_, _, _, k2⟩ | ⟨_, _, _, k1, k2⟩ | ⟨_, _, _, _, k2⟩ <;> rw [k2] at h <;> simp [follow] at h
    obtain ⟨b, x, h1, h2, rfl⟩ := acc5 t h
    exact ⟨c :: b, x, allDig_cons k1 h1, by simp, h2, rfl⟩
theorem acc3 : ∀ l : List UInt8, Acc l 3 → ∃ a pt b x, AllDig a ∧ AllDig b ∧ (pt = false → b = []) ∧ XOk x ∧ l = a ++ ptL pt b ++ expo x := by
  intro l
  induction l with
  | nil => intro _; exact ⟨[], false, [], none, allDig_nil, allDig_nil, fun _ => rfl, trivial, rfl⟩
  | cons c t ih =>
    intro h
    rw [acc_cons] at h
    rcases kind_cases c with ⟨k1, k2⟩ | ⟨_, _, k2⟩ | ⟨_, _, k1, k2⟩ | ⟨_, _, _, k1, k2⟩ | ⟨_, _, _, _, k2⟩ <;> rw [k2] at h <;> simp [follow] at h
    · obtain ⟨a, pt, b, x, h1, h2, h3, h4, rfl⟩ := ih h
      exact ⟨c :: a, pt, b, x, allDig_cons k1 h1, h2, h3, h4, rfl⟩
    · obtain ⟨b, x, h1, h2, rfl⟩ := acc5 t h
      exact ⟨[], true, b, x, allDig_nil, h1, (fun e => by cases e), h2, by rw [pt_eq k1]; rfl⟩
    · obtain ⟨x, h1, h2⟩ := acc_let k1 h
      exact ⟨[], false, [], x, allDig_nil, allDig_nil, fun _ => rfl, h1, h2⟩
theorem acc2 : ∀ l : List UInt8, Acc l 2 → ∃ a pt b x, IsNum l [] a pt b x := by
  intro l h
  cases l with
  | nil => simp [acc_nil, wholeS] at h
  | cons c t =>
    rw [acc_cons] at h
    rcases kind_cases c with ⟨k1, k2⟩ | ⟨_, _, k2⟩ | ⟨_, _, k1, k2⟩ | ⟨_, _, _, k1, k2⟩ | ⟨_, _, _, _, k2⟩ <;> rw [k2] at h <;> simp [follow] at h
    · obtain ⟨a, pt, b, x, h1, h2, h3, h4, rfl⟩ := acc3 t h
      exact ⟨c :: a, pt, b, x, Or.inl rfl, allDig_cons k1 h1, h2, h3, by simp; omega, h4, rfl⟩
    · obtain ⟨b, x, h1, h2, h3, rfl⟩ := acc4 t h
      exact ⟨[], true, b, x, Or.inl rfl, allDig_nil, h1, (fun e => by cases e), by have := List.length_pos_iff.2 h2; simp; omega, h3, by rw [pt_eq k1]; rfl⟩
/-- A text that the walk takes whole is a number's. -/
theorem acc1 (l : List UInt8) (h : Acc l 1) : ∃ s a pt b x, IsNum l s a pt b x := by
  cases l with
  | nil => simp [acc_nil, wholeS] at h
  | cons c t =>
    rcases kind_cases c with ⟨k1, k2⟩ | ⟨_, k1, k2⟩ | ⟨_, _, k1, k2⟩ | ⟨_, _, _, k1, k2⟩ | ⟨_, _, _, _, k2⟩
    · obtain ⟨a, pt, b, x, hh⟩ := acc2 (c :: t) (by rw [acc_cons, k2] at h ⊢; exact h)
      exact ⟨[], a, pt, b, x, hh⟩
    · rw [acc_cons, k2] at h
      obtain ⟨a, pt, b, x, hh⟩ := acc2 t h.2
      exact ⟨[c], a, pt, b, x, sgnL_one k1, hh.ha, hh.hb, hh.hpt, hh.h0, hh.hx, by rw [hh.text]; rfl⟩
    · obtain ⟨a, pt, b, x, hh⟩ := acc2 (c :: t) (by rw [acc_cons, k2] at h ⊢; exact h)
      exact ⟨[], a, pt, b, x, hh⟩
    · rw [acc_cons, k2] at h; simp [follow] at h
    · rw [acc_cons, k2] at h; simp [follow] at h
theorem digs_acc (st : Nat) (hst : follow st 0 = st) (h0 : st ≠ 0) : ∀ a t : List UInt8, AllDig a → Acc t st → Acc (a ++ t) st := by
  intro a t ha ht
  induction a with
  | nil => exact ht
  | cons b a ih =>
    show Acc (b :: (a ++ t)) st
    rw [acc_cons, kind_dig (ha b (by simp)), hst]
    exact ⟨h0, ih (fun x hx => ha x (by simp [hx]))⟩
theorem expo_acc (x : Expo) (h : XOk x) : ∀ st, (st = 3 ∨ st = 5) → Acc (expo x) st := by
  intro st hst
  cases x with
  | none => rcases hst with rfl | rfl <;> simp [expo, acc_nil, wholeS]
  | some y =>
    obtain ⟨c, s, d⟩ := y
    obtain ⟨h1, h2, h3, h4⟩ := h
    have e8 : ∀ d : List UInt8, AllDig d → Acc d 8 := fun d hd => by
      have := digs_acc 8 rfl (by decide) d [] hd (by simp [acc_nil, wholeS])
      simpa using this
    have e6 : Acc (s ++ d) 6 := by
      cases d with
      | nil => exact absurd rfl h4
      | cons b t =>
        have hb := h3 b (by simp)
        have ht := e8 t (fun x hx => h3 x (by simp [hx]))
        rcases h2 with rfl | rfl | rfl
        · show Acc (b :: t) 6
          rw [acc_cons, kind_dig hb]
          exact ⟨by decide, ht⟩
        · show Acc (43 :: b :: t) 6
          rw [acc_cons, acc_cons, kind_dig hb]
          exact ⟨by decide, by decide, ht⟩
        · show Acc (45 :: b :: t) 6
          rw [acc_cons, acc_cons, kind_dig hb]
          exact ⟨by decide, by decide, ht⟩
    show Acc (c :: (s ++ d)) st
    rw [acc_cons, kind_let h1]
    rcases hst with rfl | rfl <;> exact ⟨by decide, e6⟩
/-- A number's text is taken whole. -/
theorem IsNum.acc {l s a : List UInt8} {pt : Bool} {b : List UInt8} {x : Expo} (h : IsNum l s a pt b x) : Acc l 1 := by
  obtain ⟨hsg, ha, hb, hpt, h0, hx, rfl⟩ := h
  have t5 : Acc (b ++ expo x) 5 := digs_acc 5 rfl (by decide) b _ hb (expo_acc x hx 5 (Or.inr rfl))
  have t3 : Acc (ptL pt b ++ expo x) 3 := by
    cases pt with
    | false => exact expo_acc x hx 3 (Or.inl rfl)
    | true => show Acc (46 :: (b ++ expo x)) 3
              rw [acc_cons]
              exact ⟨by decide, t5⟩
  have body : ∀ st, (st = 1 ∨ st = 2) → Acc (a ++ ptL pt b ++ expo x) st := by
    intro st hst
    rw [List.append_assoc]
    cases a with
    | cons c a =>
      show Acc (c :: (a ++ (ptL pt b ++ expo x))) st
      rw [acc_cons, kind_dig (ha c (by simp))]
      have := digs_acc 3 rfl (by decide) a _ (fun x hx => ha x (by simp [hx])) t3
      rcases hst with rfl | rfl <;> exact ⟨by decide, this⟩
    | nil =>
      cases b with
      | nil => simp at h0
      | cons c b =>
        cases pt with
        | false => exact absurd (hpt rfl) (by simp)
        | true =>
          show Acc (46 :: c :: (b ++ expo x)) st
          have := digs_acc 5 rfl (by decide) b _ (fun x hx => hb x (by simp [hx])) (expo_acc x hx 5 (Or.inr rfl))
          rw [acc_cons, acc_cons]
          have k : kindB (46 : UInt8) = 2 := by decide
          rw [k, kind_dig (hb c (by simp))]
          rcases hst with rfl | rfl <;> exact ⟨by decide, by decide, this⟩
  rcases hsg with rfl | rfl | rfl
  · exact body 1 (Or.inl rfl)
  · show Acc (43 :: (a ++ ptL pt b ++ expo x)) 1
    rw [acc_cons]
    exact ⟨by decide, body 2 (Or.inr rfl)⟩
  · show Acc (45 :: (a ++ ptL pt b ++ expo x)) 1
    rw [acc_cons]
    exact ⟨by decide, body 2 (Or.inr rfl)⟩
end Go.Proofs.YtbjabclgekkpaaaGreatDoor
namespace Go.Proofs.YtbjabclgekkpaaaGreatDoor
def isBlN (n : Nat) : Bool := n == 9 || n == 10 || n == 13 || n == 32
def isBl (b : UInt8) : Bool := isBlN b.toNat
def isCm (b : UInt8) : Bool := b.toNat == 44
theorem bl_not_cm {b : UInt8} (h : isBl b = true) : isCm b = false := by
  unfold isBl isBlN at h; unfold isCm
  simp at h ⊢; omega
theorem cm_not_bl {b : UInt8} (h : isCm b = true) : isBl b = false := by
  cases e : isBl b with
  | false => rfl
  | true => rw [bl_not_cm e] at h; cases h
/-- How many blanks a text begins with. -/
def blk : List UInt8 → Nat
  | [] => 0
  | b :: t => if isBl b then blk t + 1 else 0
theorem blk_le (l : List UInt8) : blk l ≤ l.length := by
  induction l with
  | nil => exact Nat.le_refl _
  | cons b t ih => unfold blk; split <;> simp <;> omega
theorem blk_head (l : List UInt8) : headIs isBl (l.drop (blk l)) = false := by
  induction l with
  | nil => rfl
  | cons b t ih =>
    unfold blk
    by_cases h : isBl b = true
    · rw [if_pos h, List.drop_succ_cons]; exact ih
    · rw [if_neg h]; simpa [headIs] using h
theorem blk_zero (l : List UInt8) (h : headIs isBl l = false) : blk l = 0 := by
  cases l with
  | nil => rfl
  | cons b t => have : isBl b = false := h
                simp [blk, this]
theorem blk_pos (l : List UInt8) (h : headIs isBl l = true) : blk l = blk (l.drop 1) + 1 := by
  cases l with
  | nil => cases h
  | cons b t => have : isBl b = true := h
                simp [blk, this]
/-- How long the gap is that a text begins with, c commas having been met. -/
def gap : Nat → List UInt8 → Nat
  | _, [] => 0
  | c, b :: t => if isCm b then (if c = 0 then gap 1 t + 1 else 0) else if isBl b then gap c t + 1 else 0
theorem gap_le (l : List UInt8) : ∀ c, gap c l ≤ l.length := by
  induction l with
  | nil => intro c; exact Nat.le_refl _
  | cons b t ih =>
    intro c
    have h1 := ih 1
    have h2 := ih c
    unfold gap
    split
    · split <;> simp <;> omega
    · split <;> simp <;> omega
theorem gap_one (l : List UInt8) : ∀ c, c ≠ 0 → gap c l = blk l := by
  induction l with
  | nil => intro c _; rfl
  | cons b t ih =>
    intro c hc
    unfold gap blk
    by_cases h : isCm b = true
    · rw [if_pos h, if_neg hc, if_neg (by rw [cm_not_bl h]; simp)]
    · rw [if_neg h]
      split
      · rw [ih c hc]
      · rfl
/-- The document's gap. -/
theorem gap_zero (l : List UInt8) : gap 0 l = if headIs isCm (l.drop (blk l)) then blk l + 1 + blk (l.drop (blk l + 1)) else blk l := by
  induction l with
  | nil => rfl
  | cons b t ih =>
    unfold gap
    by_cases h : isCm b = true
    · have hb := cm_not_bl h
      have e : blk (b :: t) = 0 := by simp [blk, hb]
      rw [if_pos h, if_pos rfl, e, List.drop_zero, if_pos (by exact h), gap_one t 1 (by decide)]
      simp; omega
    · rw [if_neg h]
      by_cases hb : isBl b = true
      · have e : blk (b :: t) = blk t + 1 := by simp [blk, hb]
        rw [if_pos hb, ih, e, List.drop_succ_cons, List.drop_succ_cons]
        split <;> omega
      · have e : blk (b :: t) = 0 := by simp [blk, hb]
        rw [if_neg hb, e, List.drop_zero, if_neg (by exact h)]
theorem gap_pos_of (c : Nat) (l : List UInt8) (h : headIs isBl l = true) : gap c l = gap c (l.drop 1) + 1 := by
  cases l with
  | nil => cases h
  | cons b t => have hb : isBl b = true := h
                simp [gap, hb, bl_not_cm hb]
theorem gap_comma (l : List UInt8) (h : headIs isCm l = true) : gap 0 l = gap 1 (l.drop 1) + 1 := by
  cases l with
  | nil => cases h
  | cons b t => have hb : isCm b = true := h
                simp [gap, hb]
theorem gap_comma2 (c : Nat) (l : List UInt8) (h : headIs isCm l = true) (hc : c ≠ 0) : gap c l = 0 := by
  cases l with
  | nil => cases h
  | cons b t => have hb : isCm b = true := h
                simp [gap, hb, hc]
theorem gap_none (c : Nat) (l : List UInt8) (h : headIs isBl l = false) (h2 : headIs isCm l = false) : gap c l = 0 := by
  cases l with
  | nil => rfl
  | cons b t => have hb : isBl b = false := h
                have hc : isCm b = false := h2
                simp [gap, hb, hc]
end Go.Proofs.YtbjabclgekkpaaaGreatDoor
namespace Go.Proofs.YtbjabclgekkpaaaGreatDoor
open Go.RowKit Go.Shelf
/-- Of the world nothing that was there has turned, but for block b. -/
structure Turned (b : Nat) (w w' : World) : Prop where
  os : w'.os = w.os
  tape : w'.tape = w.tape
  output : w'.output = w.output
  size : w.heap.size ≤ w'.heap.size
  block : ∀ k, k < w.heap.size → k ≠ b → w'.heap[k]? = w.heap[k]?
theorem Turned.refl (b : Nat) (w : World) : Turned b w w := ⟨rfl, rfl, rfl, Nat.le_refl _, fun _ _ _ => rfl⟩
theorem Turned.trans {b : Nat} {u v w : World} (h : Turned b u v) (k : Turned b v w) : Turned b u w :=
  ⟨k.os.trans h.os, k.tape.trans h.tape, k.output.trans h.output, Nat.le_trans h.size k.size, fun i hi hn => (k.block i (Nat.lt_of_lt_of_le hi h.size) hn).trans (h.block i hi hn)⟩
theorem Turned.drew {b : Nat} {u w : World} (h : Turned b u w) : Turned b u w.drew := ⟨h.os, h.tape, h.output, h.size, h.block⟩
theorem Turned.set {b : Nat} {u w : World} (h : Turned b u w) (o : Nat) (v : Value) : Turned b u (w.setCell ⟨b, o, none⟩ v) :=
  h.trans ⟨rfl, rfl, rfl, by simp [World.setCell], fun k _ hn => Below.heap_setCell _ _ _ _ hn⟩
theorem Turned.setNew {b q : Nat} {u w : World} (h : Turned b u w) (hq : u.heap.size ≤ q) (o : Nat) (v : Value) : Turned b u (w.setCell ⟨q, o, none⟩ v) :=
  ⟨h.os, h.tape, h.output, by have := h.size; simpa [World.setCell] using this, fun k hk hn => (Below.heap_setCell _ _ _ _ (by show k ≠ q; omega)).trans (h.block k hk hn)⟩
theorem Turned.of_below {b : Nat} {w w' : World} (h : Below w.heap.size w w') : Turned b w w' := ⟨h.os, h.tape, h.output, h.size, fun k hk _ => h.block k hk⟩
theorem Turned.below {b B : Nat} {w w' : World} (t : Turned b w w') (h : B ≤ b) (hB : B ≤ w.heap.size) : Below B w w' :=
  ⟨t.os, t.tape, t.output, t.size, fun k hk => t.block k (by omega) (by omega)⟩
theorem drewq (w : World) (n : Nat) : Below w.heap.size w (w.drewN n) :=
  have h := Below.refl w.heap.size w
  ⟨h.os, h.tape, h.output, h.size, h.block⟩
/-- Block b is a reader of the text s at the place k. -/
def Rdr (b : Nat) (s : ByteArray) (k : Nat) (w : World) : Prop := w.heap[b]? = some (.cells #[.string s, .int .i64 (k : Int)] 184)
theorem Rdr.lt {b : Nat} {s : ByteArray} {k : Nat} {w : World} (H : Rdr b s k w) : b < w.heap.size := by
  unfold Rdr at H; exact (Array.getElem?_eq_some_iff.1 H).1
theorem Rdr.c0 {b : Nat} {s : ByteArray} {k : Nat} {w : World} (H : Rdr b s k w) : w.cell? ⟨b, 0, none⟩ = some (.string s) := by
  unfold Rdr at H; simp [World.cell?, H]
theorem Rdr.c1 {b : Nat} {s : ByteArray} {k : Nat} {w : World} (H : Rdr b s k w) : w.cell? ⟨b, 1, none⟩ = some (.int .i64 (k : Int)) := by
  unfold Rdr at H; simp [World.cell?, H]
theorem Rdr.z1 {b : Nat} {s : ByteArray} {k : Nat} {w : World} (H : Rdr b s k w) : w.frozen? ⟨b, 1, none⟩ = false := by
  unfold Rdr at H; simp [World.frozen?, H]
theorem Rdr.set {b : Nat} {s : ByteArray} {k j : Nat} {w : World} (H : Rdr b s k w) : Rdr b s j (w.setCell ⟨b, 1, none⟩ (.int .i64 (j : Int))) := by
  unfold Rdr at *
  simp only [World.setCell, Array.getElem?_modify, H]
  simp
theorem Rdr.below {b B : Nat} {s : ByteArray} {k : Nat} {w w' : World} (H : Rdr b s k w) (t : Below B w w') (hn : b < B) : Rdr b s k w' := by
  unfold Rdr at *
  rw [t.block b hn]; exact H
theorem Rdr.next {b : Nat} {s : ByteArray} {k : Nat} {w w' : World} (H : Rdr b s k w) (t : Below w.heap.size w w') : Rdr b s k w' := H.below t H.lt
theorem Rdr.new (w : World) (s : ByteArray) : Rdr w.heap.size s 0 (w.alloc (.cells #[.string s, .int .i64 0] 184)) := by
  show (w.heap.push _)[w.heap.size]? = _
  rw [Array.getElem?_push, if_pos rfl]; rfl
theorem New_any (s : ByteArray) (w : World) : Calls Tryz.prog 83 #[.string s] w fun e w' => e = .returned (.pointer (some ⟨w.heap.size, 0, none⟩)) ∧ Rdr w.heap.size s 0 w' ∧ Below w.heap.size w w' := by
  have R := Lib.hid (Rdr.new w s)
  have B := Lib.hid ((Below.refl w.heap.size w).alloc (Nat.le_refl _) (.cells #[.string s, .int .i64 0] 184))
  go_enter Tryz.func83, Tryz.ntmps83
  go_wp2_with fail
  go_ret
  exact ⟨rfl, R.out, B.out⟩
theorem At_any (b : Nat) (s : ByteArray) (k : Nat) (w : World) (H : Rdr b s k w) : Calls Tryz.prog 90 #[.pointer (some ⟨b, 0, none⟩)] w fun e w' => e = .returned (.int .i64 (k : Int)) ∧ w = w' := by
  have c1 := H.c1
  clear H
  go_enter Tryz.func90, Tryz.ntmps90
  go_wp2_with fail
  go_ret
  exact ⟨rfl, rfl⟩
theorem Left_any (b : Nat) (s : ByteArray) (k : Nat) (w : World) (H : Rdr b s k w) (hs : s.size ≤ maxLen) (hk : k ≤ s.size) : Calls Tryz.prog 85 #[.pointer (some ⟨b, 0, none⟩)] w fun e w' => e = .returned (.int .i64 ((s.size - k : Nat) : Int)) ∧ Below w.heap.size w w' ∧ Rdr b s k w' := by
  have c0 := H.c0
  have c1 := H.c1
  have HR := Lib.hid H
  have hs' : s.size ≤ 9223372036854775807 := hs
  have e : IntKind.i64.wrap ((s.size : Int) - (k : Int)) = ((s.size - k : Nat) : Int) := by rw [IntWalk.i64_in _ (by omega)]; omega
  clear H hs hs'
  go_enter Tryz.func85, Tryz.ntmps85
  go_wp2_with fail
  go_quiet (fail)
  go_wp2_with fail
  go_ret
  have d := drewq w nq
  exact ⟨rfl, d, HR.out.next d⟩
/-- The byte at a place, 0 at the end. -/
def pk (s : ByteArray) (k : Nat) : Nat := if h : k < s.size then s[k].toNat else 0
theorem pk_in {s : ByteArray} {k : Nat} (h : k < s.size) : pk s k = s[k].toNat := dif_pos h
theorem pk_out {s : ByteArray} {k : Nat} (h : ¬ k < s.size) : pk s k = 0 := dif_neg h
theorem pk_lt (s : ByteArray) (k : Nat) : pk s k < 256 := by
  unfold pk; split
  · exact UInt8.toNat_lt _
  · decide
def PeekPost (b : Nat) (s : ByteArray) (k : Nat) (w : World) (e : Ending) (w' : World) : Prop := e = .returned (.tuple #[.int .u8 (pk s k : Int), .bool (decide (k < s.size))]) ∧ Below w.heap.size w w' ∧ Rdr b s k w'
theorem Peek_any (b : Nat) (s : ByteArray) (k : Nat) (w : World) (H : Rdr b s k w) (hs : s.size ≤ maxLen) (hk : k ≤ s.size) : Calls Tryz.prog 126 #[.pointer (some ⟨b, 0, none⟩)] w (PeekPost b s k w) := by
  have c0 := H.c0
  have c1 := H.c1
  have HR := Lib.hid H
  have hs' : s.size ≤ 9223372036854775807 := hs
  clear H hs
  by_cases h : k < s.size
  · have hp := Lib.hid (pk_in h)
    have hq := Lib.hid (decide_eq_true h)
    have hne : ((k : Int) == (s.size : Int)) = false := by rw [beq_eq_false_iff_ne]; omega
    go_enter Tryz.func126, Tryz.ntmps126
    go_wp2_with fail
    go_quiet (fail)
    have d := Lib.hid (drewq w nq)
    have c0' := (d.out.cell (p := ⟨b, 0, none⟩) (by exact HR.out.lt)).trans c0
    have c1' := (d.out.cell (p := ⟨b, 1, none⟩) (by exact HR.out.lt)).trans c1
    have R' := Lib.hid (HR.out.next d.out)
    generalize w.drewN nq = w1 at *
    go_wp2_with fail
    go_quiet (fail)
    have d2 := Lib.hid (drewq w1 nq)
    have R2 := Lib.hid (R'.out.next d2.out)
    generalize w1.drewN nq = w2 at *
    go_wp2_with fail
    go_ret2
    exact ⟨by rw [hp.out, hq.out]; rfl, d.out.trans (d2.out.mono d.out.size), R2.out⟩
  · have hp := Lib.hid (pk_out h)
    have hq := Lib.hid (decide_eq_false h)
    have hne : ((k : Int) == (s.size : Int)) = true := by rw [beq_iff_eq]; omega
    go_enter Tryz.func126, Tryz.ntmps126
    go_wp2_with fail
    go_quiet (fail)
    have d := Lib.hid (drewq w nq)
    have R' := Lib.hid (HR.out.next d.out)
    generalize w.drewN nq = w1 at *
    go_wp2_with fail
    go_ret2
    exact ⟨by rw [hp.out, hq.out]; rfl, d.out, R'.out⟩
/-- One byte further, but not beyond the end. -/
def stp (s : ByteArray) (k : Nat) : Nat := if k < s.size then k + 1 else k
theorem stp_in {s : ByteArray} {k : Nat} (h : k < s.size) : stp s k = k + 1 := if_pos h
theorem stp_out {s : ByteArray} {k : Nat} (h : ¬ k < s.size) : stp s k = k := if_neg h
def RTakePost (b : Nat) (s : ByteArray) (k : Nat) (w : World) (e : Ending) (w' : World) : Prop := e = .returned (.tuple #[.int .u8 (pk s k : Int), .bool (decide (k < s.size))]) ∧ Turned b w w' ∧ Rdr b s (stp s k) w'
theorem rtake_any (b : Nat) (s : ByteArray) (k : Nat) (w : World) (H : Rdr b s k w) (hs : s.size ≤ maxLen) (hk : k ≤ s.size) : Calls Tryz.prog 167 #[.pointer (some ⟨b, 0, none⟩)] w (RTakePost b s k w) := by
  have P := Lib.hid (Peek_any b s k w H hs hk)
  unfold PeekPost at P
  have hs' : s.size ≤ 9223372036854775807 := hs
  clear H hs
  by_cases h : k < s.size
  · have hq := Lib.hid (stp_in h)
    unfold RTakePost
    rw [hq.out]
    rw [decide_eq_true h] at P ⊢
    have e1 : IntKind.i64.wrap ((k : Int) + 1) = ((k + 1 : Nat) : Int) := by rw [IntWalk.i64_in _ (by omega)]; omega
    generalize pk s k = c at *
    go_enter Tryz.func167, Tryz.ntmps167
    go_wp2_with fail
    refine P.out.mono ?_
    rintro e w1 ⟨rfl, b1, R1⟩
    have HR := Lib.hid R1
    have c1 := R1.c1
    have z1 := R1.z1
    have B1 := Lib.hid b1
    clear R1 b1 P
    go_wp2_with fail
    go_ret2
    exact ⟨rfl, (Turned.of_below B1.out).set 1 _, HR.out.set⟩
  · have hq := Lib.hid (stp_out h)
    unfold RTakePost
    rw [hq.out]
    rw [decide_eq_false h] at P ⊢
    generalize pk s k = c at *
    go_enter Tryz.func167, Tryz.ntmps167
    go_wp2_with fail
    refine P.out.mono ?_
    rintro e w1 ⟨rfl, b1, R1⟩
    have HR := Lib.hid R1
    have B1 := Lib.hid b1
    clear R1 b1 P
    go_wp2_with fail
    go_ret2
    exact ⟨rfl, Turned.of_below B1.out, HR.out⟩
theorem Skip_any (b : Nat) (s : ByteArray) (k : Nat) (w : World) (H : Rdr b s k w) (hs : s.size ≤ maxLen) (hk : k ≤ s.size) : Calls Tryz.prog 130 #[.pointer (some ⟨b, 0, none⟩)] w fun e w' => e = .returned (.bool (decide (k < s.size))) ∧ Turned b w w' ∧ Rdr b s (stp s k) w' := by
  have P := Lib.hid (rtake_any b s k w H hs hk)
  unfold RTakePost at P
  clear H hs
  generalize pk s k = c at *
  generalize decide (k < s.size) = ok at *
  generalize stp s k = k' at *
  go_enter Tryz.func130, Tryz.ntmps130
  go_wp2_with fail
  refine P.out.mono ?_
  rintro e w1 ⟨rfl, b1, R1⟩
  have HR := Lib.hid R1
  have B1 := Lib.hid b1
  clear R1 b1 P
  go_wp2_with fail
  go_ret
  exact ⟨rfl, B1.out, HR.out⟩
/-- The table of blanks lies in memory as its text says. -/
def Blks (w : World) : Prop := ∀ i : Nat, i ≤ 32 → w.cell? ⟨0, i, none⟩ = some (.bool (isBlN i))
theorem blank_any (c : Nat) (w : World) (hc : c < 256) (T : Blks w) : Calls Tryz.prog 127 #[.int .u8 (c : Int)] w fun e w' => e = .returned (.bool (isBlN c)) ∧ w = w' := by
  have m1 : IntKind.i64.wrap (c : Int) = (c : Int) := IntWalk.i64_in _ (by omega)
  by_cases h : c ≤ 32
  · have hT := T c h
    clear T
    have h1 : (c : Int) < 33 := by omega
    generalize isBlN c = z at *
    go_enter Tryz.func127, Tryz.ntmps127
    go_wp2_with fail
    go_ret
    exact ⟨rfl, rfl⟩
  · have h1 : ¬ (c : Int) < 33 := by omega
    have h2 : isBlN c = false := by unfold isBlN; simp; omega
    rw [h2]
    clear T
    go_enter Tryz.func127, Tryz.ntmps127
    go_wp2_with fail
    go_ret
    exact ⟨rfl, rfl⟩
/-- Of the byte 0 or 1: its value, and one byte further. -/
def flg (s : ByteArray) (k : Nat) : Int × Int × Nat := if pk s k = 48 then (0, 0, k + 1) else if pk s k = 49 then (1, 0, k + 1) else (0, 3, k)
theorem Flag_any (b : Nat) (s : ByteArray) (k : Nat) (w : World) (H : Rdr b s k w) (hs : s.size ≤ maxLen) (hk : k ≤ s.size) : Calls Tryz.prog 170 #[.pointer (some ⟨b, 0, none⟩)] w fun e w' => e = .returned (.tuple #[.int .i64 (flg s k).1, .int .i64 (flg s k).2.1]) ∧ Turned b w w' ∧ Rdr b s (flg s k).2.2 w' := by
  have P := Lib.hid (Peek_any b s k w H hs hk)
  unfold PeekPost at P
  have hs' : s.size ≤ 9223372036854775807 := hs
  have hlt : k = s.size → pk s k = 0 := fun h => pk_out (by omega)
  have hl := pk_lt s k
  clear H hs
  unfold flg
  generalize pk s k = c at *
  generalize decide (k < s.size) = ok at *
  by_cases h0 : c = 48
  · subst h0
    have hk' : k < s.size := by omega
    have e1 : IntKind.i64.wrap ((k : Int) + 1) = ((k + 1 : Nat) : Int) := by rw [IntWalk.i64_in _ (by omega)]; omega
    go_enter Tryz.func170, Tryz.ntmps170
    go_wp2_with fail
    refine P.out.mono ?_
    rintro e w1 ⟨rfl, b1, R1⟩
    have HR := Lib.hid R1
    have c1 := R1.c1
    have z1 := R1.z1
    have B1 := Lib.hid b1
    clear R1 b1 P
    go_wp2_with fail
    go_ret2
    exact ⟨rfl, (Turned.of_below B1.out).set 1 _, HR.out.set⟩
  · rw [if_neg h0]
    by_cases h1 : c = 49
    · subst h1
      have hk' : k < s.size := by omega
      have e1 : IntKind.i64.wrap ((k : Int) + 1) = ((k + 1 : Nat) : Int) := by rw [IntWalk.i64_in _ (by omega)]; omega
      go_enter Tryz.func170, Tryz.ntmps170
      go_wp2_with fail
      refine P.out.mono ?_
      rintro e w1 ⟨rfl, b1, R1⟩
      have HR := Lib.hid R1
      have c1 := R1.c1
      have z1 := R1.z1
      have B1 := Lib.hid b1
      clear R1 b1 P
      go_wp2_with fail
      go_ret2
      exact ⟨rfl, (Turned.of_below B1.out).set 1 _, HR.out.set⟩
    · rw [if_neg h1]
      have e1 : ((c : Int) == 48) = false := by rw [beq_eq_false_iff_ne]; omega
      have e2 : ((c : Int) == 49) = false := by rw [beq_eq_false_iff_ne]; omega
      have e3 : ((c : Int) != 48) = true := by rw [bne, e1]; rfl
      have e4 : ((c : Int) != 49) = true := by rw [bne, e2]; rfl
      go_enter Tryz.func170, Tryz.ntmps170
      go_wp2_with fail
      refine P.out.mono ?_
      rintro e w1 ⟨rfl, b1, R1⟩
      have HR := Lib.hid R1
      have B1 := Lib.hid b1
      clear R1 b1 P
      go_wp2_with fail
      go_ret2
      exact ⟨rfl, Turned.of_below B1.out, HR.out⟩
end Go.Proofs.YtbjabclgekkpaaaGreatDoor
namespace Go.Proofs.YtbjabclgekkpaaaGreatDoor
open Go.RowKit Go.Shelf
set_option maxRecDepth 100000 in
/-- IndexByte, of any text. -/
theorem indexByte_any (s : ByteArray) (c : Int) (w : World) :
    Calls Tryz.prog 166 #[.string s, .int .u8 c] w fun e w' => e = .returned (.int .i64 (Lib.indexByte s.data.toList c.toNat.toUInt8)) ∧ w = w' := by
  have H : ∀ w, Calls Tryz.prog 198 #[.string s, .int .u8 c] w fun e w' => e = .returned (.int .i64 (Lib.indexByte s.data.toList c.toNat.toUInt8)) ∧ w = w' := by
    intro w
    go_enter Tryz.func198, Tryz.ntmps198
    go_wp2
    rw [run_callFunc_extern Tryz.func228 (by kernel_rfl) (by kernel_rfl) (by kernel_rfl) (e := Extern.BytealgIndexByte.indexByte) (by kernel_rfl), Lib.run_indexByteString, Result.andThen, Oper.upon_value]
    go_wp2
    go_ret
    exact ⟨rfl, rfl⟩
  go_enter Tryz.func166, Tryz.ntmps166
  go_wp2_with fail
  refine (H _).mono ?_
  rintro e w1 ⟨rfl, rfl⟩
  go_wp2_with fail
  go_ret
  exact ⟨rfl, rfl⟩
/-- The table's letters and kinds. -/
def letR : Nat → ByteArray
  | 0 => ⟨#[77, 109, 76, 108, 84, 116]⟩
  | 1 => ⟨#[72, 104, 86, 118]⟩
  | 2 => ⟨#[67, 99]⟩
  | 3 => ⟨#[83, 115, 81, 113]⟩
  | 4 => ⟨#[65, 97]⟩
  | 5 => ⟨#[90, 122]⟩
  | _ => ⟨#[]⟩
def kinR : Nat → ByteArray
  | 0 => ⟨#[110, 110]⟩
  | 1 => ⟨#[110]⟩
  | 2 => ⟨#[110, 110, 110, 110, 110, 110]⟩
  | 3 => ⟨#[110, 110, 110, 110]⟩
  | 4 => ⟨#[114, 114, 110, 70, 102, 110, 110]⟩
  | _ => ⟨#[]⟩
def hitR (i c : Nat) : Bool := decide (0 ≤ Lib.indexByte (letR i).data.toList c.toUInt8)
/-- The row of a letter; 6: none. -/
def rowR (c : Nat) : Nat := if hitR 0 c then 0 else if hitR 1 c then 1 else if hitR 2 c then 2 else if hitR 3 c then 3 else if hitR 4 c then 4 else if hitR 5 c then 5 else 6
/-- The kinds of a letter's arguments. -/
def kinL (c : Nat) : ByteArray := kinR (rowR c)
def knownL (c : Nat) : Bool := decide (cntL c ≠ 99)
theorem row_table : ∀ c : Fin 256, (decide (rowR c < 6) = knownL c) ∧ (cntL c ≠ 99 → (kinL c).size = cntL c) ∧ (decide (rowR c = 4) = isArc c) ∧ (cntL c = 99 → kinL c = ⟨#[]⟩) ∧ (rowR c ≠ 4 → ∀ k : Fin 10, (hk : k.1 < (kinL c).size) → (kinL c)[k.1] = 110) := by decide +kernel
theorem row_known {c : Nat} (hc : c < 256) : decide (rowR c < 6) = knownL c := (row_table ⟨c, hc⟩).1
theorem kin_size {c : Nat} (hc : c < 256) (h : cntL c ≠ 99) : (kinL c).size = cntL c := (row_table ⟨c, hc⟩).2.1 h
theorem kin_none {c : Nat} (hc : c < 256) (h : cntL c = 99) : kinL c = ⟨#[]⟩ := (row_table ⟨c, hc⟩).2.2.2.1 h
theorem kin_arc {c : Nat} (hc : c < 256) (h : isArc c = true) : kinL c = ⟨#[114, 114, 110, 70, 102, 110, 110]⟩ := by
  have := (row_table ⟨c, hc⟩).2.2.1
  rw [show isArc ((⟨c, hc⟩ : Fin 256) : Nat) = true from h] at this
  unfold kinL
  rw [show rowR c = 4 from by simpa using this]
  rfl
theorem cnt_le (c : Nat) : cntL c ≤ 7 ∨ cntL c = 99 := by
  unfold cntL
  split
  · left; omega
  split
  · left; omega
  split
  · left; omega
  split
  · left; omega
  split
  · left; omega
  split
  · left; omega
  right; rfl
theorem kin_plain {c : Nat} (hc : c < 256) (h : isArc c = false) {k : Nat} (hk : k < (kinL c).size) : (kinL c)[k] = 110 := by
  have A := (row_table ⟨c, hc⟩).2.2.1
  have hr : rowR c ≠ 4 := by
    intro e
    rw [show isArc ((⟨c, hc⟩ : Fin 256) : Nat) = false from h] at A
    simp [e] at A
  have hs : (kinL c).size ≤ 7 := by
    by_cases h9 : cntL c = 99
    · rw [kin_none hc h9]; decide
    · rw [kin_size hc h9]; have := cnt_le c; omega
  exact (row_table ⟨c, hc⟩).2.2.2.2 hr ⟨k, by omega⟩ hk
/-- The table lies in memory as its text says. -/
def Rws (w : World) : Prop := ∀ i : Nat, i < 6 → w.cell? ⟨1, 2 * i, none⟩ = some (.string (letR i)) ∧ w.cell? ⟨1, 2 * i + 1, none⟩ = some (.string (kinR i))
set_option maxRecDepth 100000 in
set_option maxHeartbeats 1000000 in
theorem lookUp_any (c : Nat) (hc : c < 256) (w : World) (T : Rws w) :
    Calls Tryz.prog 128 #[.int .u8 (c : Int)] w fun e w' => e = .returned (.tuple #[.string (kinL c), .bool (knownL c)]) ∧ Below w.heap.size w w' := by
  have I := Lib.hid (fun s w => indexByte_any s (c : Int) w)
  have HK := Lib.hid (row_known hc)
  obtain ⟨a0, b0⟩ := T 0 (by decide)
  obtain ⟨a1, b1⟩ := T 1 (by decide)
  obtain ⟨a2, b2⟩ := T 2 (by decide)
  obtain ⟨a3, b3⟩ := T 3 (by decide)
  obtain ⟨a4, b4⟩ := T 4 (by decide)
  obtain ⟨a5, b5⟩ := T 5 (by decide)
  simp only [Nat.reduceMul, Nat.reduceAdd] at a0 a1 a2 a3 a4 a5 b0 b1 b2 b3 b4 b5
  clear T
  have x0 : ∀ W, Sem.run Tryz.prog (Instr.index 225 (Value.agg #[.string (letR 0), .string (kinR 0), .string (letR 1), .string (kinR 1), .string (letR 2), .string (kinR 2), .string (letR 3), .string (kinR 3), .string (letR 4), .string (kinR 4), .string (letR 5), .string (kinR 5)]) (.int .i64 0)) W = .ok (.agg #[.string (letR 0), .string (kinR 0)]) W := fun _ => by kernel_rfl
  have x1 : ∀ W, Sem.run Tryz.prog (Instr.index 225 (Value.agg #[.string (letR 0), .string (kinR 0), .string (letR 1), .string (kinR 1), .string (letR 2), .string (kinR 2), .string (letR 3), .string (kinR 3), .string (letR 4), .string (kinR 4), .string (letR 5), .string (kinR 5)]) (.int .i64 1)) W = .ok (.agg #[.string (letR 1), .string (kinR 1)]) W := fun _ => by kernel_rfl
  have x2 : ∀ W, Sem.run Tryz.prog (Instr.index 225 (Value.agg #[.string (letR 0), .string (kinR 0), .string (letR 1), .string (kinR 1), .string (letR 2), .string (kinR 2), .string (letR 3), .string (kinR 3), .string (letR 4), .string (kinR 4), .string (letR 5), .string (kinR 5)]) (.int .i64 2)) W = .ok (.agg #[.string (letR 2), .string (kinR 2)]) W := fun _ => by kernel_rfl
  have x3 : ∀ W, Sem.run Tryz.prog (Instr.index 225 (Value.agg #[.string (letR 0), .string (kinR 0), .string (letR 1), .string (kinR 1), .string (letR 2), .string (kinR 2), .string (letR 3), .string (kinR 3), .string (letR 4), .string (kinR 4), .string (letR 5), .string (kinR 5)]) (.int .i64 3)) W = .ok (.agg #[.string (letR 3), .string (kinR 3)]) W := fun _ => by kernel_rfl
  have x4 : ∀ W, Sem.run Tryz.prog (Instr.index 225 (Value.agg #[.string (letR 0), .string (kinR 0), .string (letR 1), .string (kinR 1), .string (letR 2), .string (kinR 2), .string (letR 3), .string (kinR 3), .string (letR 4), .string (kinR 4), .string (letR 5), .string (kinR 5)]) (.int .i64 4)) W = .ok (.agg #[.string (letR 4), .string (kinR 4)]) W := fun _ => by kernel_rfl
  have x5 : ∀ W, Sem.run Tryz.prog (Instr.index 225 (Value.agg #[.string (letR 0), .string (kinR 0), .string (letR 1), .string (kinR 1), .string (letR 2), .string (kinR 2), .string (letR 3), .string (kinR 3), .string (letR 4), .string (kinR 4), .string (letR 5), .string (kinR 5)]) (.int .i64 5)) W = .ok (.agg #[.string (letR 5), .string (kinR 5)]) W := fun _ => by kernel_rfl
  go_enter Tryz.func128, Tryz.ntmps128
  go_wp2_with fail
  go_loopw [7] (fun v wr => ∃ i : Nat, v = .int .i64 (i : Int) ∧ i ≤ 6 ∧ (∀ j, j < i → hitR j c = false) ∧ Below w.heap.size w wr) (fun v _ => 6 - (intOf v).toNat)
  case atStart => exact ⟨0, rfl, by decide, fun j hj => absurd hj (by omega), Below.refl _ _⟩
  case round =>
    obtain ⟨i, rfl, hi, hm, hb⟩ := hrel
    by_cases h6 : i = 6
    · subst h6
      have e : kinL c = ⟨#[]⟩ ∧ knownL c = false := by
        unfold kinL
        rw [← HK.out]
        have : rowR c = 6 := by unfold rowR; rw [hm 0 (by decide), hm 1 (by decide), hm 2 (by decide), hm 3 (by decide), hm 4 (by decide), hm 5 (by decide)]; rfl
        rw [this]; exact ⟨rfl, by decide⟩
      have E := Lib.hid e
      clear hm HK e
      go_wp2_with fail
      go_ret2
      exact ⟨by rw [E.out.1, E.out.2]; rfl, hb⟩
    · have hi' : i = 0 ∨ i = 1 ∨ i = 2 ∨ i = 3 ∨ i = 4 ∨ i = 5 := by omega
      by_cases hh : hitR i c = true
      · have e : rowR c = i := by
          unfold rowR
          rcases hi' with rfl | rfl | rfl | rfl | rfl | rfl <;> simp [hm, hh]
        have e2 : kinL c = kinR i ∧ knownL c = true := by
          unfold kinL
          rw [← HK.out, e]; exact ⟨rfl, by simp; omega⟩
        have E := Lib.hid e2
        have hp : 0 ≤ Lib.indexByte (letR i).data.toList (UInt8.ofNat c) := by simpa [hitR] using hh
        clear hm HK e e2 hh
        rcases hi' with rfl | rfl | rfl | rfl | rfl | rfl
        all_goals
          go_wp2_with fail
          refine (I.out _ _).mono ?_
          rintro e w1 ⟨rfl, rfl⟩
          go_wp2_with fail
          go_ret2
          exact ⟨by rw [E.out.1, E.out.2]; rfl, hb.alloc hb.size _⟩
      · have hp : ¬ 0 ≤ Lib.indexByte (letR i).data.toList (UInt8.ofNat c) := by simpa [hitR] using hh
        have hm2 : ∀ j, j < i + 1 → hitR j c = false := fun j hj => by
          rcases Nat.lt_succ_iff_lt_or_eq.1 hj with h | rfl
          · exact hm j h
          · simpa using hh
        have HM := Lib.hid hm2
        clear hm HK hh hm2
        rcases hi' with rfl | rfl | rfl | rfl | rfl | rfl
        all_goals
          go_wp2_with fail
          refine (I.out _ _).mono ?_
          rintro e w1 ⟨rfl, rfl⟩
          go_wp2_with fail
          go_roundw
          case rel => exact ⟨_, rfl, by decide, HM.out, hb.alloc hb.size _⟩
          case measure => decide
def opensL (c : Nat) : Bool := c == 77 || c == 109
theorem opens_any (c : Nat) (w : World) : Calls Tryz.prog 129 #[.int .u8 (c : Int)] w fun e w' => e = .returned (.bool (opensL c)) ∧ w = w' := by
  unfold opensL
  by_cases h1 : c = 77
  · subst h1
    go_enter Tryz.func129, Tryz.ntmps129
    go_wp2_with fail
    go_ret
    exact ⟨rfl, rfl⟩
  · have e1 : ((c : Int) == 77) = false := by rw [beq_eq_false_iff_ne]; omega
    have f1 : (c == 77) = false := by rw [beq_eq_false_iff_ne]; exact h1
    by_cases h2 : c = 109
    · subst h2
      go_enter Tryz.func129, Tryz.ntmps129
      go_wp2_with fail
      go_ret
      exact ⟨rfl, rfl⟩
    · have e2 : ((c : Int) == 109) = false := by rw [beq_eq_false_iff_ne]; omega
      have f2 : (c == 109) = false := by rw [beq_eq_false_iff_ne]; exact h2
      go_enter Tryz.func129, Tryz.ntmps129
      go_wp2_with fail
      go_ret
      exact ⟨by rw [f1, f2]; rfl, rfl⟩
theorem behind_any (c : Nat) (w : World) : Calls Tryz.prog 89 #[.int .u8 (c : Int)] w fun e w' => e = .returned (.int .u8 (nextL c : Int)) ∧ w = w' := by
  have O := Lib.hid (fun w => opens_any c w)
  unfold opensL at O
  unfold nextL
  by_cases h1 : c = 77
  · subst h1
    go_enter Tryz.func89, Tryz.ntmps89
    go_wp2_with fail
    refine (O.out _).mono ?_
    rintro e w1 ⟨rfl, rfl⟩
    go_wp2_with fail
    go_ret
    exact ⟨rfl, rfl⟩
  · by_cases h2 : c = 109
    · subst h2
      go_enter Tryz.func89, Tryz.ntmps89
      go_wp2_with fail
      refine (O.out _).mono ?_
      rintro e w1 ⟨rfl, rfl⟩
      go_wp2_with fail
      go_ret
      exact ⟨rfl, rfl⟩
    · rw [show (c == 77 || c == 109) = false from by simp [h1, h2]] at O
      rw [if_neg h1, if_neg h2]
      clear h1 h2
      go_enter Tryz.func89, Tryz.ntmps89
      go_wp2_with fail
      refine (O.out _).mono ?_
      rintro e w1 ⟨rfl, rfl⟩
      go_wp2_with fail
      go_ret
      exact ⟨rfl, rfl⟩
def flagK (k : Nat) : Bool := k == 102 || k == 70
theorem isFlag_any (k : Nat) (w : World) : Calls Tryz.prog 169 #[.int .u8 (k : Int)] w fun e w' => e = .returned (.bool (flagK k)) ∧ w = w' := by
  unfold flagK
  by_cases h1 : k = 102
  · subst h1
    go_enter Tryz.func169, Tryz.ntmps169
    go_wp2_with fail
    go_ret
    exact ⟨rfl, rfl⟩
  · have e1 : ((k : Int) == 102) = false := by rw [beq_eq_false_iff_ne]; omega
    have f1 : (k == 102) = false := by rw [beq_eq_false_iff_ne]; exact h1
    by_cases h2 : k = 70
    · subst h2
      go_enter Tryz.func169, Tryz.ntmps169
      go_wp2_with fail
      go_ret
      exact ⟨rfl, rfl⟩
    · have e2 : ((k : Int) == 70) = false := by rw [beq_eq_false_iff_ne]; omega
      have f2 : (k == 70) = false := by rw [beq_eq_false_iff_ne]; exact h2
      go_enter Tryz.func169, Tryz.ntmps169
      go_wp2_with fail
      go_ret
      exact ⟨by rw [f1, f2]; rfl, rfl⟩
theorem Count_any (c : Nat) (hc : c < 256) (w : World) (T : Rws w) :
    Calls Tryz.prog 132 #[.int .u8 (c : Int)] w fun e w' => e = .returned (.int .i64 (if cntL c = 99 then -1 else (cntL c : Int))) ∧ Below w.heap.size w w' := by
  have L := Lib.hid (lookUp_any c hc w T)
  by_cases h : cntL c = 99
  · rw [if_pos h]
    rw [show knownL c = false from by unfold knownL; simp [h]] at L
    clear T h
    generalize kinL c = ks at *
    go_enter Tryz.func132, Tryz.ntmps132
    go_wp2_with fail
    refine L.out.mono ?_
    rintro e w1 ⟨rfl, b1⟩
    have B1 := Lib.hid b1
    clear b1
    go_wp2_with fail
    go_ret
    exact ⟨rfl, B1.out⟩
  · rw [if_neg h]
    rw [show knownL c = true from by unfold knownL; simp [h]] at L
    have hk := Lib.hid (kin_size hc h)
    clear T h
    generalize kinL c = ks at *
    go_enter Tryz.func132, Tryz.ntmps132
    go_wp2_with fail
    refine L.out.mono ?_
    rintro e w1 ⟨rfl, b1⟩
    have B1 := Lib.hid b1
    clear b1
    go_wp2_with fail
    go_ret
    exact ⟨by rw [hk.out]; rfl, B1.out⟩
end Go.Proofs.YtbjabclgekkpaaaGreatDoor
namespace Go.Proofs
open Go.Shelf
def Tryz.lays161_ren : Go.Shelf.Ren := ⟨fun | 161 => 266 | 231 => 272 | 227 => 264 | 233 => 273 | 235 => 274 | 228 => 265 | 197 => 276 | 151 => 277 | 260 => 279 | 152 => 262 | 137 => 166 | 119 => 269 | 224 => 270 | 225 => 271 | 217 => 198 | 266 => 228 | n => n, fun | 9 => 9 | 4 => 4 | 3 => 3 | 5 => 5 | 117 => 316 | 116 => 315 | 0 => 0 | 124 => 321 | 105 => 324 | 21 => 21 | 119 => 330 | 46 => 279 | 139 => 333 | 138 => 332 | n => n, fun | 3 => 6 | 4 => 7 | n => n⟩
theorem Tryz.lays161 : Go.Proofs.Lays.n161 Tryz.prog Tryz.lays161_ren := {
  mixed := by kernel_rfl
  f119 := Tryz.func269.trans (congrArg some (by kernel_rfl))
  f137 := Tryz.func166.trans (congrArg some (by kernel_rfl))
  f151 := Tryz.func277.trans (congrArg some (by kernel_rfl))
  f152 := Tryz.func262.trans (congrArg some (by kernel_rfl))
  f161 := Tryz.func266.trans (congrArg some (by kernel_rfl))
  f197 := Tryz.func276.trans (congrArg some (by kernel_rfl))
  f217 := Tryz.func198.trans (congrArg some (by kernel_rfl))
  f224 := Tryz.func270.trans (congrArg some (by kernel_rfl))
  f225 := Tryz.func271.trans (congrArg some (by kernel_rfl))
  f227 := Tryz.func264.trans (congrArg some (by kernel_rfl))
  f228 := Tryz.func265.trans (congrArg some (by kernel_rfl))
  f231 := Tryz.func272.trans (congrArg some (by kernel_rfl))
  f233 := Tryz.func273.trans (congrArg some (by kernel_rfl))
  f235 := Tryz.func274.trans (congrArg some (by kernel_rfl))
  f260 := Tryz.func279.trans (congrArg some (by kernel_rfl))
  f266 := Tryz.func228.trans (congrArg some (by kernel_rfl))
  t0 := Tryz.underlying0
  a0 := Tryz.isAgg0
  z0 := Tryz.sizeOf0
  v0 := Tryz.zeroValue0
  t3 := Tryz.underlying3
  a3 := Tryz.isAgg3
  z3 := Tryz.sizeOf3
  v3 := Tryz.zeroValue3
  t4 := Tryz.underlying4
  a4 := Tryz.isAgg4
  z4 := Tryz.sizeOf4
  v4 := Tryz.zeroValue4
  t5 := Tryz.underlying5
  a5 := Tryz.isAgg5
  z5 := Tryz.sizeOf5
  v5 := Tryz.zeroValue5
  t9 := Tryz.underlying9
  a9 := Tryz.isAgg9
  z9 := Tryz.sizeOf9
  v9 := Tryz.zeroValue9
  t21 := Tryz.underlying21
  a21 := Tryz.isAgg21
  z21 := Tryz.sizeOf21
  v21 := Tryz.zeroValue21
  t46 := Tryz.underlying279
  a46 := Tryz.isAgg279
  z46 := Tryz.sizeOf279
  v46 := Tryz.zeroValue279
  t105 := Tryz.underlying324
  a105 := Tryz.isAgg324
  z105 := Tryz.sizeOf324
  v105 := Tryz.zeroValue324
  t116 := Tryz.underlying315
  a116 := Tryz.isAgg315
  z116 := Tryz.sizeOf315
  t117 := Tryz.underlying316
  a117 := Tryz.isAgg316
  z117 := Tryz.sizeOf316
  v117 := Tryz.zeroValue316
  t119 := Tryz.underlying330
  a119 := Tryz.isAgg330
  z119 := Tryz.sizeOf330
  t124 := Tryz.underlying321
  a124 := Tryz.isAgg321
  z124 := Tryz.sizeOf321
  v124 := Tryz.zeroValue321
  t138 := Tryz.underlying332
  a138 := Tryz.isAgg332
  z138 := Tryz.sizeOf332
  v138 := Tryz.zeroValue332
  t139 := Tryz.underlying333
  a139 := Tryz.isAgg333
  z139 := Tryz.sizeOf333
  v139 := Tryz.zeroValue333
  g3 := by kernel_rfl
  g4 := by kernel_rfl }
def Tryz.lays99_ren : Go.Shelf.Ren := ⟨fun | 99 => 260 | 206 => 268 | n => n, fun | 9 => 9 | 4 => 4 | 3 => 3 | n => n, fun | n => n⟩
theorem Tryz.lays99 : Go.Proofs.Lays.n99 Tryz.prog Tryz.lays99_ren := {
  mixed := by kernel_rfl
  f99 := Tryz.func260.trans (congrArg some (by kernel_rfl))
  f206 := Tryz.func268.trans (congrArg some (by kernel_rfl))
  t3 := Tryz.underlying3
  a3 := Tryz.isAgg3
  z3 := Tryz.sizeOf3
  v3 := Tryz.zeroValue3
  t4 := Tryz.underlying4
  a4 := Tryz.isAgg4
  z4 := Tryz.sizeOf4
  v4 := Tryz.zeroValue4
  t9 := Tryz.underlying9
  a9 := Tryz.isAgg9
  z9 := Tryz.sizeOf9
  v9 := Tryz.zeroValue9 }
def Tryz.lays145_ren : Go.Shelf.Ren := ⟨fun | 145 => 242 | 220 => 258 | 219 => 267 | 217 => 198 | 225 => 271 | 224 => 270 | 267 => 275 | 266 => 228 | 314 => 278 | n => n, fun | 9 => 9 | 4 => 4 | 59 => 293 | 3 => 3 | 5 => 5 | 46 => 279 | 146 => 328 | 51 => 327 | n => n, fun | 1 => 4 | n => n⟩
theorem Tryz.lays145 : Go.Proofs.Lays.n145 Tryz.prog Tryz.lays145_ren := {
  mixed := by kernel_rfl
  f145 := Tryz.func242.trans (congrArg some (by kernel_rfl))
  f217 := Tryz.func198.trans (congrArg some (by kernel_rfl))
  f219 := Tryz.func267.trans (congrArg some (by kernel_rfl))
  f220 := Tryz.func258.trans (congrArg some (by kernel_rfl))
  f224 := Tryz.func270.trans (congrArg some (by kernel_rfl))
  f225 := Tryz.func271.trans (congrArg some (by kernel_rfl))
  f266 := Tryz.func228.trans (congrArg some (by kernel_rfl))
  f267 := Tryz.func275.trans (congrArg some (by kernel_rfl))
  f314 := Tryz.func278.trans (congrArg some (by kernel_rfl))
  t3 := Tryz.underlying3
  a3 := Tryz.isAgg3
  z3 := Tryz.sizeOf3
  v3 := Tryz.zeroValue3
  t4 := Tryz.underlying4
  a4 := Tryz.isAgg4
  z4 := Tryz.sizeOf4
  v4 := Tryz.zeroValue4
  t5 := Tryz.underlying5
  a5 := Tryz.isAgg5
  z5 := Tryz.sizeOf5
  v5 := Tryz.zeroValue5
  t9 := Tryz.underlying9
  a9 := Tryz.isAgg9
  z9 := Tryz.sizeOf9
  v9 := Tryz.zeroValue9
  t46 := Tryz.underlying279
  a46 := Tryz.isAgg279
  z46 := Tryz.sizeOf279
  v46 := Tryz.zeroValue279
  t51 := Tryz.underlying327
  a51 := Tryz.isAgg327
  z51 := Tryz.sizeOf327
  v51 := Tryz.zeroValue327
  t59 := Tryz.underlying293
  a59 := Tryz.isAgg293
  z59 := Tryz.sizeOf293
  v59 := Tryz.zeroValue293
  t146 := Tryz.underlying328
  a146 := Tryz.isAgg328
  z146 := Tryz.sizeOf328
  v146 := Tryz.zeroValue328
  g1 := by kernel_rfl }
def Tryz.lays153_ren : Go.Shelf.Ren := ⟨fun | 153 => 255 | 152 => 262 | 226 => 263 | 227 => 264 | 228 => 265 | 137 => 166 | 119 => 269 | 224 => 270 | 225 => 271 | 217 => 198 | 266 => 228 | n => n, fun | 9 => 9 | 3 => 3 | 4 => 4 | 5 => 5 | 21 => 21 | 117 => 316 | 116 => 315 | 0 => 0 | 46 => 279 | 124 => 321 | n => n, fun | n => n⟩
theorem Tryz.lays153 : Go.Proofs.Lays.n153 Tryz.prog Tryz.lays153_ren := {
  mixed := by kernel_rfl
  f119 := Tryz.func269.trans (congrArg some (by kernel_rfl))
  f137 := Tryz.func166.trans (congrArg some (by kernel_rfl))
  f152 := Tryz.func262.trans (congrArg some (by kernel_rfl))
  f153 := Tryz.func255.trans (congrArg some (by kernel_rfl))
  f217 := Tryz.func198.trans (congrArg some (by kernel_rfl))
  f224 := Tryz.func270.trans (congrArg some (by kernel_rfl))
  f225 := Tryz.func271.trans (congrArg some (by kernel_rfl))
  f226 := Tryz.func263.trans (congrArg some (by kernel_rfl))
  f227 := Tryz.func264.trans (congrArg some (by kernel_rfl))
  f228 := Tryz.func265.trans (congrArg some (by kernel_rfl))
  f266 := Tryz.func228.trans (congrArg some (by kernel_rfl))
  t0 := Tryz.underlying0
  a0 := Tryz.isAgg0
  z0 := Tryz.sizeOf0
  v0 := Tryz.zeroValue0
  t3 := Tryz.underlying3
  a3 := Tryz.isAgg3
  z3 := Tryz.sizeOf3
  v3 := Tryz.zeroValue3
  t4 := Tryz.underlying4
  a4 := Tryz.isAgg4
  z4 := Tryz.sizeOf4
  v4 := Tryz.zeroValue4
  t5 := Tryz.underlying5
  a5 := Tryz.isAgg5
  z5 := Tryz.sizeOf5
  v5 := Tryz.zeroValue5
  t9 := Tryz.underlying9
  a9 := Tryz.isAgg9
  z9 := Tryz.sizeOf9
  v9 := Tryz.zeroValue9
  t21 := Tryz.underlying21
  a21 := Tryz.isAgg21
  z21 := Tryz.sizeOf21
  v21 := Tryz.zeroValue21
  t46 := Tryz.underlying279
  a46 := Tryz.isAgg279
  z46 := Tryz.sizeOf279
  v46 := Tryz.zeroValue279
  t116 := Tryz.underlying315
  a116 := Tryz.isAgg315
  z116 := Tryz.sizeOf315
  t117 := Tryz.underlying316
  a117 := Tryz.isAgg316
  z117 := Tryz.sizeOf316
  v117 := Tryz.zeroValue316
  t124 := Tryz.underlying321
  a124 := Tryz.isAgg321
  z124 := Tryz.sizeOf321
  v124 := Tryz.zeroValue321 }
end Go.Proofs
namespace Go.Proofs.YtbjabclgekkpaaaGreatDoor
open Go.RowKit Go.Shelf
def p10 (p : Nat) : Nat := 10 ^ p
theorem ret_int {k : IntKind} {a b : Int} (h : a = b) : Ending.returned (.int k a) = .returned (.int k b) := by rw [h]
theorem tenTo_any (p : Nat) (w : World) (h : p ≤ 18) : Calls Tryz.prog 259 #[.int .i64 (p : Int)] w fun e w' => e = .returned (.int .i64 (p10 p : Int)) ∧ w = w' := by
  go_enter Tryz.func259, Tryz.ntmps259
  go_wp2_with fail
  go_loop [3, 5] (fun n i => ∃ (k : Nat) (x : Int), k ≤ p ∧ i = .int .i64 (k : Int) ∧ n = .int .i64 x ∧ 0 ≤ x ∧ x ≤ 1000000000000000000 ∧ Hid (x = (p10 k : Int))) (fun _ i => p - (intOf i).toNat)
  case atStart => exact ⟨0, 1, by omega, rfl, rfl, by omega, by omega, rfl⟩
  case round =>
    obtain ⟨k, x, hk, rfl, rfl, h0, h1, hx⟩ := hrel
    by_cases hlt : k < p
    · have hb : x ≤ 100000000000000000 := by
        rw [hx.out]
        unfold p10
        have : (10 : Nat) ^ k ≤ 10 ^ 17 := Nat.pow_le_pow_right (by decide) (by omega)
        omega
      go_wp2_with fail
      go_round
      case rel => exact ⟨k + 1, x * 10, by omega, by go_num, rfl, by omega, by omega, by unfold Hid; rw [hx.out]; unfold p10; rw [Nat.pow_succ]; omega⟩
      case measure => simp [intOf]; omega
    · obtain rfl : k = p := by omega
      go_wp2_with fail
      go_ret
      exact ⟨ret_int hx.out, rfl⟩
theorem isNegative_any (s : ByteArray) (w : World) : Calls Tryz.prog 245 #[.string s] w fun e w' => e = .returned (.bool (Lib.hasPrefix s.data.toList [45])) ∧ w = w' := by
  have C := Any.strings_HasPrefix Tryz.lays99 s ⟨#[45]⟩ w
  change Calls Tryz.prog 260 _ _ (fun e w' => e = .returned (.bool (Lib.hasPrefix s.data.toList [45])) ∧ w' = w) at C
  have C' := Lib.hid C
  clear C
  generalize Lib.hasPrefix s.data.toList [45] = b at *
  go_enter Tryz.func245, Tryz.ntmps245
  go_wp2_with fail
  refine C'.out.mono ?_
  rintro e w1 ⟨rfl, rfl⟩
  go_wp2_with fail
  go_ret
  exact ⟨rfl, rfl⟩
theorem unsigned_any (s : ByteArray) (w : World) : Calls Tryz.prog 257 #[.string s] w fun e w' => e = .returned (.string ⟨(Lib.trimLeftS s.data.toList [43, 45]).toArray⟩) ∧ Below w.heap.size w w' := by
  have C := Any.strings_TrimLeft_laid Tryz.lays161 (by kernel_rfl) s ⟨#[43, 45]⟩ w (by decide) (ascii_of_all (by decide))
  change Calls Tryz.prog 266 _ _ (fun e w' => e = .returned (.string ⟨(Lib.trimLeftS s.data.toList [43, 45]).toArray⟩) ∧ Below w.heap.size w w') at C
  have C' := Lib.hid C
  clear C
  generalize (⟨(Lib.trimLeftS s.data.toList [43, 45]).toArray⟩ : ByteArray) = r at *
  go_enter Tryz.func257, Tryz.ntmps257
  go_wp2_with fail
  refine C'.out.mono ?_
  rintro e w1 ⟨rfl, b1⟩
  go_wp2_with fail
  go_ret
  exact ⟨rfl, b1⟩
/-- A power's digits, as far as they tell anything. -/
def powF : List UInt8 → Nat → Nat
  | [], n => n
  | b :: t, n => if n < 1125899906842624 then powF t (10 * n + dv b) else n
theorem powF_cons (b : UInt8) (t : List UInt8) (n : Nat) : powF (b :: t) n = if n < 1125899906842624 then powF t (10 * n + dv b) else n := rfl
theorem powF_stop (l : List UInt8) (n : Nat) (h : ¬ n < 1125899906842624) : powF l n = n := by
  cases l with
  | nil => rfl
  | cons b t => unfold powF; rw [if_neg h]
theorem dig_get {s : ByteArray} {k : Nat} (h : k < s.size) (hd : AllDig s.data.toList) : isDig s[k] = true := hd _ (by
  have : s[k] = s.data.toList[k]'(by simpa using h) := rfl
  rw [this]; exact List.getElem_mem _)
theorem dig_bd {b : UInt8} (h : isDig b = true) : 48 ≤ b.toNat ∧ b.toNat ≤ 57 := by
  unfold isDig at h; simpa using h
set_option maxHeartbeats 1000000 in
theorem powerOf_any (s ds : ByteArray) (w : World) (e : (⟨(Lib.trimLeftS s.data.toList [43, 45]).toArray⟩ : ByteArray) = ds) (hds : ds.size ≤ 100000) (hd : AllDig ds.data.toList) :
    Calls Tryz.prog 256 #[.string s] w fun e w' => e = .returned (.int .i64 (sg (Lib.hasPrefix s.data.toList [45]) (powF ds.data.toList 0))) ∧ Below w.heap.size w w' := by
  have A := Lib.hid (unsigned_any s w)
  rw [e] at A
  clear e
  have B := Lib.hid (fun w => isNegative_any s w)
  generalize Lib.hasPrefix s.data.toList [45] = neg at *
  have HD := Lib.hid hd
  clear hd
  go_enter Tryz.func256, Tryz.ntmps256
  go_wp2_with fail
  refine A.out.mono ?_
  rintro e w1 ⟨rfl, b1⟩
  have B1 := Lib.hid b1
  clear b1
  go_wp2_with fail
  go_loop [3, 5] (fun n i => ∃ (k : Nat) (x : Int) (N : Nat), k ≤ ds.size ∧ i = .int .i64 (k : Int) ∧ n = .int .i64 x ∧ 0 ≤ x ∧ x ≤ 11258999068426249 ∧ Hid (x = (N : Int) ∧ powF (ds.data.toList.drop k) N = powF ds.data.toList 0)) (fun _ i => ds.size - (intOf i).toNat)
  case atStart => exact ⟨0, 0, 0, by omega, rfl, rfl, by omega, by omega, ⟨rfl, rfl⟩⟩
  case round =>
    obtain ⟨k, x, N, hk, rfl, rfl, h0, h1, hx⟩ := hrel
    by_cases hlt : k < ds.size
    · have g := dig_bd (dig_get hlt HD.out)
      have g1 : (48 : Int) ≤ (ds[k].toNat : Int) := by omega
      have g2 : (ds[k].toNat : Int) ≤ 57 := by omega
      have HG := Lib.hid (show dv ds[k] = ds[k].toNat - 48 from rfl)
      have HC := Lib.hid (drop_cons ds k hlt)
      clear g
      by_cases hb : x < 1125899906842624
      · go_wp2_with fail
        go_round
        case rel => exact ⟨k + 1, 10 * x + ((ds[k].toNat : Int) - 48), 10 * N + dv ds[k], by omega, by go_num, rfl, by omega, by omega, ⟨by have := hx.out.1; have := HG.out; omega, by
          have e := hx.out.2
          rw [HC.out, powF_cons, if_pos (by have := hx.out.1; omega)] at e
          exact e⟩⟩
        case measure => simp [intOf]; omega
      · have HR := Lib.hid (show powF ds.data.toList 0 = N by rw [← hx.out.2]; exact powF_stop _ _ (by have := hx.out.1; omega))
        cases neg
        all_goals
          go_wp2_with fail
          refine (B.out _).mono ?_
          rintro e w2 ⟨rfl, rfl⟩
          go_wp2_with fail
          go_ret
          exact ⟨ret_int (by rw [HR.out, hx.out.1]; rfl), B1.out⟩
    · have HR := Lib.hid (show powF ds.data.toList 0 = N by rw [← hx.out.2, List.drop_of_length_le (by simp; omega)]; rfl)
      cases neg
      all_goals
        go_wp2_with fail
        refine (B.out _).mono ?_
        rintro e w2 ⟨rfl, rfl⟩
        go_wp2_with fail
        go_ret
        exact ⟨ret_int (by rw [HR.out, hx.out.1]; rfl), B1.out⟩
theorem round_pos (wh kp : Nat) (more : Bool) : ((wh : Int) * 2 * 65536 + (kp : Int) / 762939453125 + 1) / 2 = roundV false wh kp more := by
  unfold roundV halvesN
  have e : ((kp / 762939453125 : Nat) : Int) = (kp : Int) / 762939453125 := Int.natCast_ediv _ _
  rw [← e]
  generalize kp / 762939453125 = q at *
  simp; omega
theorem round_neg (wh kp : Nat) (more : Bool) (h : restB kp more = false) : -(((wh : Int) * 2 * 65536 + (kp : Int) / 762939453125) / 2) = roundV true wh kp more := by
  unfold roundV halvesN
  have e : ((kp / 762939453125 : Nat) : Int) = (kp : Int) / 762939453125 := Int.natCast_ediv _ _
  rw [← e, h]
  generalize kp / 762939453125 = q at *
  simp; omega
theorem round_up (wh kp : Nat) (more : Bool) (h : restB kp more = true) : -(((wh : Int) * 2 * 65536 + (kp : Int) / 762939453125 + 1) / 2) = roundV true wh kp more := by
  unfold roundV halvesN
  have e : ((kp / 762939453125 : Nat) : Int) = (kp : Int) / 762939453125 := Int.natCast_ediv _ _
  rw [← e, h]
  generalize kp / 762939453125 = q at *
  simp; omega
/-- rounded: what is made of the digits that are kept. -/
theorem rounded_any (wh kp : Nat) (more great neg : Bool) (w : World) (h1 : wh < 100000) (h2 : kp < 100000000000000000) :
    Calls Tryz.prog 244 #[.agg #[.int .i64 (wh : Int), .int .i64 (kp : Int), .bool more, .bool great], .bool neg] w fun e w' => e = .returned (.int .i64 (roundV neg wh kp more)) ∧ Below w.heap.size w w' := by
  have b0 : (0 : Int) ≤ (wh : Int) := by omega
  have b1 : (wh : Int) < 100000 := by omega
  have b2 : (0 : Int) ≤ (kp : Int) := by omega
  have b3 : (kp : Int) < 100000000000000000 := by omega
  have e0 : ((kp % 762939453125 : Nat) : Int) = (kp : Int) % 762939453125 := Int.natCast_emod _ _
  by_cases hz : (kp : Int) % 762939453125 = 0
  · have e1 : ((kp : Int) % 762939453125 != 0) = false := by simp [hz]
    have HR := Lib.hid (show restB kp more = more by unfold restB; rw [decide_eq_false (show ¬ kp % 762939453125 ≠ 0 from fun h => h (Int.natCast_inj.1 (by rw [e0, hz]; rfl)))]; simp)
    clear hz h1 h2 e0
    cases more <;> cases neg
    all_goals
      go_enter Tryz.func244, Tryz.ntmps244
      go_wp2_with fail
      go_ret
      exact ⟨ret_int (by first | (with_reducible exact round_pos _ _ _) | (with_reducible exact round_neg _ _ _ HR.out) | (with_reducible exact round_up _ _ _ HR.out)), (Below.refl _ _).alloc (Nat.le_refl _) _⟩
  · have e1 : ((kp : Int) % 762939453125 != 0) = true := bne_iff_ne.2 hz
    have HR := Lib.hid (show restB kp more = true by unfold restB; rw [decide_eq_true (show kp % 762939453125 ≠ 0 from fun h => hz (by rw [← e0, h]; rfl))]; simp)
    clear hz h1 h2 e0
    cases more <;> cases neg
    all_goals
      go_enter Tryz.func244, Tryz.ntmps244
      go_wp2_with fail
      go_ret
      exact ⟨ret_int (by first | (with_reducible exact round_pos _ _ _) | (with_reducible exact round_up _ _ _ HR.out)), (Below.refl _ _).alloc (Nat.le_refl _) _⟩
end Go.Proofs.YtbjabclgekkpaaaGreatDoor
