/-
  Blanks and gaps, as plain mathematics: how far they go. No program.
-/
import Derived.Test.YtmfibmcmbbelgaaDoorDecForm
namespace Go.Proofs.YtmfibmcmbbelgaaDoor

def isBlN (n : Nat) : Bool := n == 9 || n == 10 || n == 13 || n == 32
def isBl (b : UInt8) : Bool := isBlN b.toNat
def isCm (b : UInt8) : Bool := b.toNat == 44
theorem bl_not_cm {b : UInt8} (h : isBl b = true) : isCm b = false := by
  unfold isBl isBlN at h; unfold isCm
  simp at h ⊢; omega
theorem cm_not_bl {b : UInt8} (h : isCm b = true) : isBl b = false := by
  cases e : isBl b with
  | false => rfl
  | true => rw [bl_not_cm e] at h; cases h

/-- How many blanks a text begins with. -/
def blk : List UInt8 → Nat
  | [] => 0
  | b :: t => if isBl b then blk t + 1 else 0
theorem blk_le (l : List UInt8) : blk l ≤ l.length := by
  induction l with
  | nil => exact Nat.le_refl _
  | cons b t ih => unfold blk; split <;> simp <;> omega
theorem blk_head (l : List UInt8) : headIs isBl (l.drop (blk l)) = false := by
  induction l with
  | nil => rfl
  | cons b t ih =>
    unfold blk
    by_cases h : isBl b = true
    · rw [if_pos h, List.drop_succ_cons]; exact ih
    · rw [if_neg h]; simpa [headIs] using h
theorem blk_zero (l : List UInt8) (h : headIs isBl l = false) : blk l = 0 := by
  cases l with
  | nil => rfl
  | cons b t => have : isBl b = false := h
                simp [blk, this]
theorem blk_pos (l : List UInt8) (h : headIs isBl l = true) : blk l = blk (l.drop 1) + 1 := by
  cases l with
  | nil => cases h
  | cons b t => have : isBl b = true := h
                simp [blk, this]

/-- How long the gap is that a text begins with, c commas having been met. -/
def gap : Nat → List UInt8 → Nat
  | _, [] => 0
  | c, b :: t => if isCm b then (if c = 0 then gap 1 t + 1 else 0) else if isBl b then gap c t + 1 else 0
theorem gap_le (l : List UInt8) : ∀ c, gap c l ≤ l.length := by
  induction l with
  | nil => intro c; exact Nat.le_refl _
  | cons b t ih =>
    intro c
    have h1 := ih 1
    have h2 := ih c
    unfold gap
    split
    · split <;> simp <;> omega
    · split <;> simp <;> omega
theorem gap_one (l : List UInt8) : ∀ c, c ≠ 0 → gap c l = blk l := by
  induction l with
  | nil => intro c _; rfl
  | cons b t ih =>
    intro c hc
    unfold gap blk
    by_cases h : isCm b = true
    · rw [if_pos h, if_neg hc, if_neg (by rw [cm_not_bl h]; simp)]
    · rw [if_neg h]
      split
      · rw [ih c hc]
      · rfl
/-- The document's gap. -/
theorem gap_zero (l : List UInt8) : gap 0 l = if headIs isCm (l.drop (blk l)) then blk l + 1 + blk (l.drop (blk l + 1)) else blk l := by
  induction l with
  | nil => rfl
  | cons b t ih =>
    unfold gap
    by_cases h : isCm b = true
    · have hb := cm_not_bl h
      have e : blk (b :: t) = 0 := by simp [blk, hb]
      rw [if_pos h, if_pos rfl, e, List.drop_zero, if_pos (by exact h), gap_one t 1 (by decide)]
      simp; omega
    · rw [if_neg h]
      by_cases hb : isBl b = true
      · have e : blk (b :: t) = blk t + 1 := by simp [blk, hb]
        rw [if_pos hb, ih, e, List.drop_succ_cons, List.drop_succ_cons]
        split <;> omega
      · have e : blk (b :: t) = 0 := by simp [blk, hb]
        rw [if_neg hb, e, List.drop_zero, if_neg (by exact h)]
theorem gap_pos_of (c : Nat) (l : List UInt8) (h : headIs isBl l = true) : gap c l = gap c (l.drop 1) + 1 := by
  cases l with
  | nil => cases h
  | cons b t => have hb : isBl b = true := h
                simp [gap, hb, bl_not_cm hb]
theorem gap_comma (l : List UInt8) (h : headIs isCm l = true) : gap 0 l = gap 1 (l.drop 1) + 1 := by
  cases l with
  | nil => cases h
  | cons b t => have hb : isCm b = true := h
                simp [gap, hb]
theorem gap_comma2 (c : Nat) (l : List UInt8) (h : headIs isCm l = true) (hc : c ≠ 0) : gap c l = 0 := by
  cases l with
  | nil => cases h
  | cons b t => have hb : isCm b = true := h
                simp [gap, hb, hc]
theorem gap_none (c : Nat) (l : List UInt8) (h : headIs isBl l = false) (h2 : headIs isCm l = false) : gap c l = 0 := by
  cases l with
  | nil => rfl
  | cons b t => have hb : isBl b = false := h
                have hc : isCm b = false := h2
                simp [gap, hb, hc]
end Go.Proofs.YtmfibmcmbbelgaaDoor
