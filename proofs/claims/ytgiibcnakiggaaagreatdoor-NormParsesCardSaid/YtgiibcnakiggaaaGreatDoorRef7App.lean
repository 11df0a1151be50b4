/-
  Rows of segments are appended, at a step of a region that draws.
-/
import Derived.Test.YtgiibcnakiggaaaGreatDoorRef7Ones
import Derived.Deep.Upon
namespace Go.Proofs.YtgiibcnakiggaaaGreatDoor
open Go.RowKit Go.Shelf

theorem flatS_one (l : List Seg) : ∀ u ∈ flatS l, u.oneCell' = true := by
  induction l with
  | nil => intro u h; cases h
  | cons g t ih =>
    intro u hu
    simp only [flatS, List.mem_append] at hu
    rcases hu with hu | hu
    · simp [Seg.cells] at hu; rcases hu with rfl | rfl | rfl | rfl | rfl | rfl | rfl | rfl | rfl | rfl | rfl | rfl <;> rfl
    · exact ih u hu
theorem emptyRow {B e : Nat} {W : World} (h : W.heap[e]? = some (.cells #[] 42)) (hB : B ≤ e) : Segs B (.slice (some ⟨e, 0, none⟩) 0 0) [] W :=
  ⟨rfl, Or.inr ⟨e, 0, #[], rfl, hB, h, Nat.le_refl _, by decide, rfl, rfl⟩⟩
/-- A row of segments is appended, at a step of a region that draws. -/
theorem step_segs {ops : Array Oper} {o : Oper} {a : Act} {K : Act → World → Prop} {Q : Exit → Act → World → Prop} {E : Prop} {W : World} (hgd : o.guard = none) (s x : Operand)
    (ho : o.op = .call { callee := .builtin .append, args := #[s, x], argTypes := #[23, 23] }) {B : Nat} {v : Value} {l : List Seg} (hown : Segs B v l W) (hs : a.eval s = v) {R : Nat} {M : List Seg} {am : Option Addr} {cm : Nat} (hM : Segs R (.slice am M.length cm) M W) (hx : a.eval x = .slice am M.length cm) (h0 : 0 < M.length) (hk : l.length + M.length ≤ 100000000) (hB : B ≤ W.heap.size) (H : Nat) (hH : W.heap.size = H)
    (h : ∀ b cap w', Segs B (.slice (some ⟨b, 0, none⟩) (l.length + M.length) cap) (l ++ M) w' → W.grownBy w' v.ownBlock → (v.ownBlock = some b ∨ b = H) → b < w'.heap.size → K (a.put o.dst (.slice (some ⟨b, 0, none⟩) (l.length + M.length) cap)) w') :
    if Region.wanted o (yielded ops a.tmps) = true then Oper.wp Tryz.prog o a W K Q else E := by
  obtain ⟨i0, hi, hz0, hz1, hz2⟩ := info_parts info_seg
  obtain ⟨b, rfl⟩ : ∃ b, am = some ⟨b, 0, none⟩ := by
    rcases hM.2 with ⟨_, h0'⟩ | ⟨g, cap', cur, hv, _⟩
    · omega
    · cases hv; exact ⟨g, rfl⟩
  refine step_append_lies W hgd s x 23 ho B 42 i0 _ 12 88 Tryz.underlying23 hi hz0 hz1 hz2 rfl (by decide) v l.length (flatS l) hs hown ⟨b, 0, none⟩ M.length cm (flatS M) hx (flatS_len M) ?_ (flatS_one M) h0 (by unfold maxLen; omega) (by omega) hB H hH ?_
  · intro j u hj
    have := own_cell7 hM hj
    rw [Nat.zero_add] at this
    have hadd : (⟨b, 0, none⟩ : Addr).add j = ⟨b, j, none⟩ := by simp [Addr.add]; omega
    rw [hadd]; exact this
  · intro b' cap w' hown' hg hv hlt
    refine h b' cap w' ?_ hg hv hlt
    unfold Segs; rw [flatS_append, List.length_append]; exact hown'
/-- .. onto an empty row. -/
theorem step_segs0 {ops : Array Oper} {o : Oper} {a : Act} {K : Act → World → Prop} {Q : Exit → Act → World → Prop} {E : Prop} {W : World} (hgd : o.guard = none) (s x : Operand)
    (ho : o.op = .call { callee := .builtin .append, args := #[s, x], argTypes := #[23, 23] }) {B : Nat} {v : Value} (hown : Segs B v [] W) (hs : a.eval s = v) {R : Nat} {M : List Seg} {am : Option Addr} {cm : Nat} (hM : Segs R (.slice am M.length cm) M W) (hx : a.eval x = .slice am M.length cm) (h0 : 0 < M.length) (hk : M.length ≤ 100000000) (hB : B ≤ W.heap.size) (H : Nat) (hH : W.heap.size = H)
    (h : ∀ b cap w', Segs B (.slice (some ⟨b, 0, none⟩) M.length cap) M w' → W.grownBy w' v.ownBlock → (v.ownBlock = some b ∨ b = H) → b < w'.heap.size → K (a.put o.dst (.slice (some ⟨b, 0, none⟩) M.length cap)) w') :
    if Region.wanted o (yielded ops a.tmps) = true then Oper.wp Tryz.prog o a W K Q else E := by
  refine step_segs hgd s x ho hown hs hM hx h0 (by rw [List.length_nil, Nat.zero_add]; exact hk) hB H hH ?_
  intro b cap w' h1 h2 h3 h4
  rw [List.nil_append, List.length_nil, Nat.zero_add] at h1
  rw [List.length_nil, Nat.zero_add]
  exact h b cap w' h1 h2 h3 h4
/-- Nothing is appended. -/
theorem step_none {ops : Array Oper} {o : Oper} {a : Act} {K : Act → World → Prop} {Q : Exit → Act → World → Prop} {E : Prop} {W : World} (hgd : o.guard = none) (s x : Operand)
    (ho : o.op = .call { callee := .builtin .append, args := #[s, x], argTypes := #[23, 23] }) {e : Nat} (hs : a.eval s = .slice (some ⟨e, 0, none⟩) 0 0) (hx : a.eval x = .slice none 0 0)
    (h : K (a.put o.dst (.slice (some ⟨e, 0, none⟩) 0 0)) W) :
    if Region.wanted o (yielded ops a.tmps) = true then Oper.wp Tryz.prog o a W K Q else E := by
  obtain ⟨i0, hi, _, _, _⟩ := info_parts info_seg
  have hw : Region.wanted o (yielded ops a.tmps) = true := by simp [Region.wanted, hgd]
  rw [if_pos hw]
  have hr : (Builtin.append_ #[23, 23] o.type #[.slice (some ⟨e, 0, none⟩) 0 0, .slice none 0 0]).run Tryz.prog W = .ok (.slice (some ⟨e, 0, none⟩) 0 0) W := by
    exact run_append_nothing W _ _ o.type 42 i0 Tryz.underlying23 hi _ 0 0 (Nat.le_refl _) _ (Src.ofNil _ Tryz.underlying23 _)
  unfold Oper.wp execOp
  simp only [ho, resolve, invoke, builtin, Sem.run_bind, Sem.run_pure, Result.andThen_ok, List.map_toArray, List.map_cons, List.map_nil, hs, hx, hr]
  exact h
end Go.Proofs.YtgiibcnakiggaaaGreatDoor
