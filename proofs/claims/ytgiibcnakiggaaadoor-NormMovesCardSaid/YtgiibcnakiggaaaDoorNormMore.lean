/-
  What a command leaves of the state, as plain mathematics: the segments grow by one or two, the numbers stay within bounds as long as the last segment does.
-/
import Derived.Test.YtgiibcnakiggaaaDoorNormIn
namespace Go.Proofs.YtgiibcnakiggaaaDoor

theorem openM_out (s : NS) : ∃ x, (openM s).out = s.out ++ x ∧ x.length ≤ 1 := by
  unfold openM
  split
  · exact ⟨[], by simp, by simp⟩
  · exact ⟨[segS 1 s.px s.py 0 0 0 0], rfl, by simp⟩
theorem openM_q {s : NS} (h : NOk s) : In32 (openM s).qx ∧ In32 (openM s).qy := by
  unfold openM
  split
  · exact ⟨h.qx, h.qy⟩
  · exact ⟨h.px, h.py⟩
theorem addM_out (s : NS) (g : Seg) : (∃ x, (addM s g).out = s.out ++ x ∧ 0 < x.length ∧ x.length ≤ 2) ∧ lastM (addM s g) = g := by
  obtain ⟨x, h1, h2⟩ := openM_out s
  refine ⟨⟨x ++ [g], ?_, by simp, by simp; omega⟩, ?_⟩
  · show (openM s).out ++ [g] = _
    rw [h1, List.append_assoc]
  · exact last_of (l := (openM s).out) rfl
/-- A sum's bounds. -/
def In34 (z : Int) : Prop := -17179869184 < z ∧ z < 17179869184
theorem In34.i64 {z : Int} (h : In34 z) : I64 z := by unfold In34 at h; exact ⟨by omega, by omega⟩
theorem In32.w {z : Int} (h : In32 z) : In34 z := by unfold In32 at h; exact ⟨by omega, by omega⟩
theorem in_sum {a b : Int} (ha : In32 a) (hb : In32 b) : In34 (a + b) := by unfold In32 at ha hb; exact ⟨by omega, by omega⟩
theorem in_mir {a b : Int} (ha : In32 a) (hb : In32 b) : In34 (2 * a - b) := by unfold In32 at ha hb; exact ⟨by omega, by omega⟩
theorem z34 : In34 0 := ⟨by decide, by decide⟩
theorem z32 : In32 0 := ⟨by decide, by decide⟩
theorem mir_in {s : NS} (h : NOk s) (hne : s.out ≠ []) (k : Int) : In34 (mirM s k).1 ∧ In34 (mirM s k).2 := by
  obtain ⟨_, _, h1, h2, h3, h4, _⟩ := h.last hne
  unfold mirM
  split
  · split
    · exact ⟨in_mir h.px h3, in_mir h.py h4⟩
    · exact ⟨in_mir h.px h1, in_mir h.py h2⟩
  · exact ⟨h.px.w, h.py.w⟩
theorem seg_i {k x y a b c d : Int} (hk : I64 k) (h1 : In34 x) (h2 : In34 y) (h3 : In34 a) (h4 : In34 b) (h5 : In34 c) (h6 : In34 d) : SegI (segS k x y a b c d) :=
  ⟨hk, h1.i64, h2.i64, h3.i64, h4.i64, h5.i64, h6.i64, z34.i64, z34.i64, z34.i64⟩
theorem I64.small {k : Int} (h : 0 ≤ k ∧ k ≤ 9) : I64 k := ⟨by omega, by omega⟩
/-- One command. -/
structure Took (s s' : NS) : Prop where
  out : ∃ x, s'.out = s.out ++ x ∧ 0 < x.length ∧ x.length ≤ 2
  seg : SegI (lastM s')
  ok : inB (lastM s') → NOk s'
theorem took_add {s : NS} (h : NOk s) (g : Seg) (hg : SegI g) : Took s (addM s g) := by
  obtain ⟨h1, h2⟩ := addM_out s g
  obtain ⟨q1, q2⟩ := openM_q h
  refine ⟨h1, by rw [h2]; exact hg, fun hb => ?_⟩
  rw [h2] at hb
  exact ⟨hb.1, hb.2.1, q1, q2, h.ox, h.oy, fun _ => by rw [h2]; exact hb⟩
theorem took_step {s : NS} (h : NOk s) (L : Nat) (a : List Int) (hA : ∀ i, In32 (nA a i)) (hne : L ≠ 77 → s.out ≠ []) : Took s (stepM L s a) := by
  have X := fun i => in_sum h.ox (hA i)
  have Y := fun i => in_sum h.oy (hA i)
  unfold stepM
  by_cases h77 : L = 77
  · rw [if_pos h77]
    have hl : lastM (begM s (s.ox + nA a 0) (s.oy + nA a 1)) = segS 1 (s.ox + nA a 0) (s.oy + nA a 1) 0 0 0 0 := last_of (l := s.out) rfl
    refine ⟨⟨_, rfl, by simp, by simp⟩, ?_, fun hb => ?_⟩
    · rw [hl]; exact seg_i (I64.small (by decide)) (X 0) (Y 1) z34 z34 z34 z34
    · rw [hl] at hb
      exact ⟨hb.1, hb.2.1, hb.1, hb.2.1, h.ox, h.oy, fun _ => by rw [hl]; exact hb⟩
  · rw [if_neg h77]
    have hn := hne h77
    split
    · exact took_add h _ (seg_i (I64.small (by decide)) (X 0) (Y 1) z34 z34 z34 z34)
    split
    · exact took_add h _ (seg_i (I64.small (by decide)) (X 0) h.py.w z34 z34 z34 z34)
    split
    · exact took_add h _ (seg_i (I64.small (by decide)) h.px.w (Y 0) z34 z34 z34 z34)
    split
    · exact took_add h _ (seg_i (I64.small (by decide)) (X 4) (Y 5) (X 0) (Y 1) (X 2) (Y 3))
    split
    · exact took_add h _ (seg_i (I64.small (by decide)) (X 2) (Y 3) (mir_in h hn 3).1 (mir_in h hn 3).2 (X 0) (Y 1))
    split
    · exact took_add h _ (seg_i (I64.small (by decide)) (X 2) (Y 3) (X 0) (Y 1) z34 z34)
    split
    · exact took_add h _ (seg_i (I64.small (by decide)) (X 0) (Y 1) (mir_in h hn 4).1 (mir_in h hn 4).2 z34 z34)
    split
    · exact took_add h _ ⟨show I64 5 from I64.small (by decide), (X 5).i64, (Y 6).i64, z34.i64, z34.i64, z34.i64, z34.i64, (hA 0).w.i64, (hA 1).w.i64, (hA 2).w.i64⟩
    · obtain ⟨h1, h2⟩ := addM_out s (segS 6 s.qx s.qy 0 0 0 0)
      obtain ⟨q1, q2⟩ := openM_q h
      have h3 : ∀ x y z t, lastM ⟨(addM s (segS 6 s.qx s.qy 0 0 0 0)).out, x, y, z, t, false, s.ox, s.oy⟩ = segS 6 s.qx s.qy 0 0 0 0 := fun _ _ _ _ => h2
      refine ⟨h1, ?_, fun hb => ?_⟩
      · rw [h3]; exact seg_i (I64.small (by decide)) h.qx.w h.qy.w z34 z34 z34 z34
      · exact ⟨h.qx, h.qy, q1, q2, h.ox, h.oy, fun _ => hb⟩
theorem took_take {s : NS} (h : NOk s) (c : Cmd) (hc : CmdW c) (hne : capL c.letter ≠ 77 → s.out ≠ []) : Took s (takeM s c) := by
  have T := took_step (org_ok h c.letter) (capL c.letter) c.args hc.at hne
  exact ⟨T.out, T.seg, T.ok⟩
theorem nok_zero : NOk NS.zero := ⟨z32, z32, z32, z32, z32, z32, fun h => absurd rfl h⟩
/-- The table holds what takes a letter. -/
theorem tab_at (c : Nat) (h : cntL c ≠ 99) : ∃ f, tabV[capL c - 65]? = some (.func (.func f) #[] #[]) ∧ Taken f (capL c) (cntL c) ∧ 65 ≤ capL c ∧ capL c - 65 < 26 := by
  obtain ⟨ten, hcnt⟩ := cap_ten h
  rw [← hcnt]
  rcases ten with e | e | e | e | e | e | e | e | e | e <;> rw [e]
  · exact ⟨_, rfl, ⟨step_move, fun _ _ => by kernel_rfl⟩, by decide, by decide⟩
  · exact ⟨_, rfl, ⟨step_line, fun _ _ => by kernel_rfl⟩, by decide, by decide⟩
  · exact ⟨_, rfl, ⟨step_across, fun _ _ => by kernel_rfl⟩, by decide, by decide⟩
  · exact ⟨_, rfl, ⟨step_down, fun _ _ => by kernel_rfl⟩, by decide, by decide⟩
  · exact ⟨_, rfl, ⟨step_cubic, fun _ _ => by kernel_rfl⟩, by decide, by decide⟩
  · exact ⟨_, rfl, ⟨step_smoothCubic, fun _ _ => by kernel_rfl⟩, by decide, by decide⟩
  · exact ⟨_, rfl, ⟨step_quad, fun _ _ => by kernel_rfl⟩, by decide, by decide⟩
  · exact ⟨_, rfl, ⟨step_smoothQuad, fun _ _ => by kernel_rfl⟩, by decide, by decide⟩
  · exact ⟨_, rfl, ⟨step_arc, fun _ _ => by kernel_rfl⟩, by decide, by decide⟩
  · exact ⟨_, rfl, ⟨step_finish, fun _ _ => by kernel_rfl⟩, by decide, by decide⟩
end Go.Proofs.YtgiibcnakiggaaaDoor
