/-
  Commands that came in, appended to a row of the call's own.
-/
import Derived.Test.YtchngbdkgfjpcaaDoorPathRd
import Derived.Test.YtchngbdkgfjpcaaDoorPathTrod
import Derived.BigFrame
namespace Go.Proofs.YtchngbdkgfjpcaaDoor
open Go.RowKit Go.Shelf

/-- The cells of commands whose arguments lie elsewhere. -/
def Elem (l : List Cmd) (avs : List Value) (w : World) : Prop := avs.length = l.length ∧ ∀ (i : Nat) x av, l[i]? = some x → avs[i]? = some av → ∃ (aa : Option Addr) (ac : Nat), av = .slice aa x.args.length ac ∧ IntsK .i64 aa x.args w ∧ x.letter < 256 ∧ x.args.length ≤ maxLen
theorem Elem.next {l : List Cmd} {avs : List Value} {w w' : World} (h : Elem l avs w) (t : Below w.heap.size w w') : Elem l avs w' :=
  ⟨h.1, fun i x av hx ha => by obtain ⟨aa, ac, e, hI, h1, h2⟩ := h.2 i x av hx ha; exact ⟨aa, ac, e, hI.below t (Nat.le_refl _), h1, h2⟩⟩
theorem flatC_append : ∀ (a : List Cmd) (avs : List Value) (b : List Cmd) (bvs : List Value), avs.length = a.length → flatC (a ++ b) (avs ++ bvs) = flatC a avs ++ flatC b bvs := by
  intro a
  induction a with
  | nil => intro avs b bvs h; obtain rfl : avs = [] := List.length_eq_zero_iff.1 h; rfl
  | cons x t ih =>
    intro avs b bvs h
    cases avs with
    | nil => simp at h
    | cons v vs => simp only [List.cons_append, flatC]; rw [ih vs b bvs (by simpa using h)]
theorem flatC_len : ∀ (a : List Cmd) (avs : List Value), avs.length = a.length → (flatC a avs).length = a.length * 2 := by
  intro a
  induction a with
  | nil => intro avs _; cases avs <;> rfl
  | cons x t ih =>
    intro avs h
    cases avs with
    | nil => simp at h
    | cons v vs => simp only [flatC, List.length_cons]; rw [ih vs (by simpa using h)]; omega
theorem Elem.append {a b : List Cmd} {avs bvs : List Value} {w : World} (h : Elem a avs w) (k : Elem b bvs w) : Elem (a ++ b) (avs ++ bvs) w := by
  refine ⟨by rw [List.length_append, List.length_append, h.1, k.1], fun i x av hx ha => ?_⟩
  by_cases hi : i < a.length
  · rw [List.getElem?_append_left hi] at hx
    rw [List.getElem?_append_left (by rw [h.1]; exact hi)] at ha
    exact h.2 i x av hx ha
  · rw [List.getElem?_append_right (by omega)] at hx
    rw [List.getElem?_append_right (by rw [h.1]; omega), h.1] at ha
    exact k.2 _ x av hx ha
/-- What came in, as such cells. -/
theorem RdC.elem {a : Option Addr} {l : List Cmd} {w : World} (h : RdC a l w) : ∃ avs, Elem l avs w ∧ (∀ b off, a = some ⟨b, off, none⟩ → ∀ j u, (flatC l avs)[j]? = some u → w.cell? ⟨b, off + j, none⟩ = some u) ∧ (l ≠ [] → ∃ b off, a = some ⟨b, off, none⟩) := by
  rcases h with rfl | ⟨b, off, rfl, hb, hc⟩
  · refine ⟨[], ⟨rfl, fun i x av hx => by simp at hx⟩, fun b off _ j u hu => ?_, fun h => absurd rfl h⟩
    simp [flatC] at hu
  · obtain ⟨F, hF⟩ : ∃ F : Nat → Option Addr × Nat, ∀ i, i < l.length → CmdAt b (off + i * 2) l i (F i).1 (F i).2 w :=
      ⟨fun i => if h : i < l.length then ((hc i h).choose, (hc i h).choose_spec.choose) else (none, 0), fun i hi => by simp only [hi, dif_pos]; exact (hc i hi).choose_spec.choose_spec⟩
    have hlen : ((List.range l.length).map fun i => Value.slice (F i).1 (ars l i).length (F i).2).length = l.length := by simp
    have hat : ∀ i, i < l.length → ((List.range l.length).map fun i => Value.slice (F i).1 (ars l i).length (F i).2)[i]? = some (.slice (F i).1 (ars l i).length (F i).2) := fun i hi => by
      rw [List.getElem?_map, List.getElem?_range hi]; rfl
    refine ⟨(List.range l.length).map fun i => Value.slice (F i).1 (ars l i).length (F i).2, ⟨hlen, fun i x av hx ha => ?_⟩, fun b' off' e j u hu => ?_, fun _ => ⟨b, off, rfl⟩⟩
    · have hi := (List.getElem?_eq_some_iff.1 hx).1
      have h1 := at_some l hi
      rw [hx] at h1
      have e1 := Option.some.inj h1
      rw [hat i hi] at ha
      have e2 := Option.some.inj ha
      have A := hF i hi
      subst e1
      exact ⟨_, _, e2.symm, A.row, A.lt, A.len⟩
    · cases e
      have hj : j < l.length * 2 := by have := (List.getElem?_eq_some_iff.1 hu).1; rw [flatC_len _ _ hlen] at this; exact this
      have hi : j / 2 < l.length := by omega
      obtain ⟨f0, f1⟩ := flatC_at l _ hlen (j / 2) _ _ (at_some l hi) (hat (j / 2) hi)
      have A := hF (j / 2) hi
      rcases (show j = j / 2 * 2 ∨ j = j / 2 * 2 + 1 from by omega) with e | e
      · rw [e] at hu
        rw [f0] at hu
        rw [e, ← Option.some.inj hu]; exact A.c0
      · rw [e] at hu
        rw [f1] at hu
        rw [e, ← Option.some.inj hu]; exact A.c1
/-- A row of the call's own, read. -/
theorem rdC_own {R n cap : Nat} {a : Option Addr} {k : Nat} {l : List Cmd} {avs : List Value} {w : World} (h : w.ownsRow R 36 2 (.slice a n cap) k (flatC l avs)) (hE : Elem l avs w) : RdC a l w := by
  by_cases hz : l = []
  · exact .inl hz
  · have hl := h.1
    rw [flatC_len _ _ hE.1] at hl
    have hpos : 0 < l.length := List.length_pos_iff.2 hz
    obtain ⟨b, off, rfl, hb⟩ : ∃ b off, a = some ⟨b, off, none⟩ ∧ b < w.heap.size := by
      rcases h.2 with ⟨_, h0⟩ | ⟨g, cap', cur, hv, hR, hg, _⟩
      · omega
      · cases hv; exact ⟨g, 0, rfl, (Array.getElem?_eq_some_iff.1 hg).1⟩
    refine .inr ⟨b, off, rfl, hb, fun i hi => ?_⟩
    have hx := at_some l hi
    have hil : i < avs.length := by rw [hE.1]; exact hi
    have ha : avs[i]? = some avs[i] := List.getElem?_eq_getElem hil
    obtain ⟨e0, e1⟩ := flatC_at l avs hE.1 i _ _ hx ha
    obtain ⟨aa, ac, hs, hI, h1, h2⟩ := hE.2 i _ _ hx ha
    rw [hs] at e1
    exact ⟨aa, ac, own_cell h e0, by rw [Nat.add_assoc]; exact own_cell h e1, hI, h1, h2⟩
/-- One slice behind the other, in a row of the call's own. -/
theorem append_cmds {ops : Array Oper} {rest : List Oper} {o : Oper} {a : Act} {Q : Exit → Act → World → Prop} (w : World) (hw : Region.wanted o (yielded ops a.tmps) = true) (s x : Operand)
    (ho : o.op = .call { callee := .builtin .append, args := #[s, x], argTypes := #[23, 23] }) {B k : Nat} {v : Value} {os : List Value} (b off m c : Nat) (news : List Value) (hown : w.ownsRow B 36 2 v k os) (hs : a.eval s = v)
    (hx : a.eval x = .slice (some ⟨b, off, none⟩) m c) (hl : news.length = m * 2) (hn : ∀ j u, news[j]? = some u → w.cell? ⟨b, off + j, none⟩ = some u) (h1 : ∀ u ∈ news, u.oneCell' = true) (hk : k + m ≤ 1000000000) (hB : B ≤ w.heap.size)
    (h : ∀ v' w', w'.ownsRow B 36 2 v' (k + m) (os ++ news) → w.grownBy w' v.ownBlock → wpList Tryd.prog ops Q rest (a.put o.dst v') w') :
    wpList Tryd.prog ops Q (o :: rest) a w := by
  obtain ⟨i0, hi, hz0, hz1, hz2⟩ := info_parts info_cmd
  refine Go.BigFrame.wpList_want hw fun K hK => ?_
  refine wp_append_own _ s x 23 ho B 36 i0 (.agg #[.int .u8 0, .slice none 0 0]) 2 32 Tryd.underlying23 hi hz0 hz1 hz2 rfl (by decide) v k os hs hown ⟨b, off, none⟩ m c news hx hl ?_ h1 ?_ ?_ hB ?_
  · intro j u hj; rw [add_none]; exact hn j u hj
  · unfold maxLen; omega
  · omega
  · intro v' w' hown' hg _
    exact hK _ _ (h v' w' hown' hg)
theorem flat_one {l : List Cmd} {avs : List Value} {w : World} (h : Elem l avs w) : ∀ u ∈ flatC l avs, u.oneCell' = true := by
  intro u hu
  obtain ⟨j, hj⟩ := List.getElem?_of_mem hu
  have hlt := (List.getElem?_eq_some_iff.1 hj).1
  rw [flatC_len _ _ h.1] at hlt
  have hi : j / 2 < l.length := by omega
  have hil : j / 2 < avs.length := by rw [h.1]; exact hi
  have ha : avs[j / 2]? = some avs[j / 2] := List.getElem?_eq_getElem hil
  obtain ⟨f0, f1⟩ := flatC_at l avs h.1 (j / 2) _ _ (at_some l hi) ha
  obtain ⟨aa, ac, e, _⟩ := h.2 _ _ _ (at_some l hi) ha
  rcases (show j = j / 2 * 2 ∨ j = j / 2 * 2 + 1 from by omega) with e2 | e2
  · rw [e2, f0] at hj; rw [← Option.some.inj hj]; rfl
  · rw [e2, f1] at hj; rw [← Option.some.inj hj, e]; rfl
end Go.Proofs.YtchngbdkgfjpcaaDoor
