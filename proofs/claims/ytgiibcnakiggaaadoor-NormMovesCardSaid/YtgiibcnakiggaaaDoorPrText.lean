/-
  A number's own text, with something behind it that no number has: it is read as it is.
-/
import Derived.Test.YtgiibcnakiggaaaDoorPathTx
import Derived.Test.YtgiibcnakiggaaaDoorJDec
namespace Go.Proofs.YtgiibcnakiggaaaDoor
open Go.RowKit Go.Shelf

theorem walk_append (l r : List UInt8) : ∀ st, (walkL l st).1 = l.length → walkL (l ++ r) st = (l.length + (walkL r (walkL l st).2).1, (walkL r (walkL l st).2).2) := by
  induction l with
  | nil => intro st _; simp [walkL]
  | cons b t ih =>
    intro st h
    have ec : ∀ u : List UInt8, walkL (b :: u) st = if follow st (kindB b) = 0 then (0, st) else ((walkL u (follow st (kindB b))).1 + 1, (walkL u (follow st (kindB b))).2) := fun _ => rfl
    rw [List.cons_append, ec]
    rw [ec] at h ⊢
    by_cases h0 : follow st (kindB b) = 0
    · rw [if_pos h0] at h; simp at h
    · rw [if_neg h0] at h ⊢
      rw [if_neg h0]
      have h' : (walkL t (follow st (kindB b))).1 = t.length := by simpa using h
      rw [ih _ h']
      refine Prod.ext ?_ rfl
      show t.length + (walkL r (walkL t (follow st (kindB b))).2).1 + 1 = t.length + 1 + (walkL r (walkL t (follow st (kindB b))).2).1
      omega
/-- A text that goes on with neither a digit nor a sign, a point or a letter. -/
def Stops (r : List UInt8) : Prop := r = [] ∨ ∃ b t, r = b :: t ∧ kindB b = 4
theorem wk_stops (l r : List UInt8) (st : Nat) (h : Acc l st) (hr : Stops r) : wk (l ++ r) st = (l.length, true) := by
  unfold wk
  rw [walk_append l r st h.1]
  rcases hr with rfl | ⟨b, t, rfl, hk⟩
  · exact Prod.ext rfl h.2
  · have e : ∀ q, walkL (b :: t) q = (0, q) := fun q => by unfold walkL; rw [hk, follow_4, if_pos rfl]
    rw [e]
    exact Prod.ext rfl h.2
/-- The number's text. -/
def pr (z : Int) : List UInt8 := printL (decide (z < 0)) z.natAbs
theorem pr_num (z : Int) : IsNum (pr z) (signL (decide (z < 0))) (digL (z.natAbs / 65536)) (decide (z.natAbs % 65536 ≠ 0)) (frac 16 (z.natAbs % 65536)) none := print_num (decide (z < 0)) z.natAbs
theorem pr_len (z : Int) (h1 : -4294967296 < z) (h2 : z < 4294967296) : (pr z).length ≤ 28 := by
  unfold pr printL
  have a : (signL (decide (z < 0))).length ≤ 1 := by unfold signL; split <;> simp
  have b := digL_len (z.natAbs / 65536) 9 (by omega)
  have c := frac_len 16 (z.natAbs % 65536)
  have d : (ptL (decide (z.natAbs % 65536 ≠ 0)) (frac 16 (z.natAbs % 65536))).length ≤ 17 := by
    unfold ptL; split <;> simp <;> omega
  simp only [List.length_append]
  omega
theorem pr_acc (z : Int) : Acc (pr z) 1 := (pr_num z).acc
theorem pr_ans (z : Int) (h1 : -4294967296 < z) (h2 : z < 4294967296) : ansF (signL (decide (z < 0))) (digL (z.natAbs / 65536)) (frac 16 (z.natAbs % 65536)) none = (z, 0) := by
  rw [print_ans]
  have e : sg (decide (z < 0)) z.natAbs = z := by
    by_cases h : z < 0
    · rw [decide_eq_true h, sg_true]; omega
    · rw [decide_eq_false h, sg_false]; omega
  rw [e]
  unfold ansV
  rw [if_pos (by omega)]
/-- It begins with a digit or a sign. -/
theorem pr_head (z : Int) : ∃ b t, pr z = b :: t ∧ isBl b = false ∧ isCm b = false ∧ (0 ≤ z → isDig b = true) := by
  have hd : ∀ b : UInt8, isDig b = true → isBl b = false ∧ isCm b = false := by
    intro b h
    unfold isDig at h; unfold isBl isBlN isCm
    simp at h ⊢; omega
  unfold pr printL
  by_cases hz : z < 0
  · rw [decide_eq_true hz]; exact ⟨45, _, rfl, by decide, by decide, fun h => by omega⟩
  · rw [decide_eq_false hz]
    have hp := digL_pos (z.natAbs / 65536)
    have ha := digL_all (z.natAbs / 65536)
    cases e : digL (z.natAbs / 65536) with
    | nil => rw [e] at hp; simp at hp
    | cons b t =>
      rw [e] at ha
      have hb := ha b List.mem_cons_self
      exact ⟨b, _, rfl, (hd b hb).1, (hd b hb).2, fun _ => hb⟩
theorem pr_acc2 (z : Int) (h : 0 ≤ z) : Acc (pr z) 2 := by
  obtain ⟨b, t, e, _, _, hd⟩ := pr_head z
  have A := pr_acc z
  rw [e] at A ⊢
  have ec : ∀ st, walkL (b :: t) st = if follow st (kindB b) = 0 then (0, st) else ((walkL t (follow st (kindB b))).1 + 1, (walkL t (follow st (kindB b))).2) := fun _ => rfl
  have e2 : walkL (b :: t) 2 = walkL (b :: t) 1 := by rw [ec, ec, kind_dig (hd h)]; rfl
  unfold Acc at *
  rw [e2]; exact A
/-- A number's own text is read as it is. -/
theorem numT_pr (s : ByteArray) (k : Nat) (z : Int) (r : List UInt8) (sg : Bool) (hs : s.size ≤ 100000) (hk : k ≤ s.size) (h1 : -4294967296 < z) (h2 : z < 4294967296) (hsg : sg = false → 0 ≤ z) (hd : s.data.toList.drop k = pr z ++ r) (hr : Stops r) :
    numT s k sg = (z, 0, k + (pr z).length) := by
  have hw : wk (s.data.toList.drop k) (if sg then 1 else 2) = ((pr z).length, true) := by
    rw [hd]
    cases sg with
    | true => exact wk_stops _ _ 1 (pr_acc z) hr
    | false => exact wk_stops _ _ 2 (pr_acc2 z (hsg rfl)) hr
  have eW : nmW s k sg = true := by unfold nmW; rw [hw]
  have eE : nmE s k sg = k + (pr z).length := by unfold nmE; rw [hw]
  have eX : (s.extract k (nmE s k sg)).data.toList = pr z := by
    rw [Lib.extract_data, hd, eE, show k + (pr z).length - k = (pr z).length from by omega, List.take_left]
  have A := (ansT_spec _ (ext_size s k sg hk hs)).2.2.1 _ _ _ _ _ (by rw [eX]; exact pr_num z)
  rw [pr_ans z h1 h2] at A
  unfold numT numX
  rw [if_pos eW, A, if_pos rfl, eE]
end Go.Proofs.YtgiibcnakiggaaaDoor
