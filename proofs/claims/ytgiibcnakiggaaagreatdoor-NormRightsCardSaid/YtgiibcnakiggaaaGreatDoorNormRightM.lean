/-
  When segments are right, as plain mathematics: going along the row with the last Move's point, and by the document's words; they are one. What commands come to is right.
-/
import Derived.Test.YtgiibcnakiggaaaGreatDoorNormMath
namespace Go.Proofs.YtgiibcnakiggaaaGreatDoor

instance : Inhabited Seg := ⟨zeroS⟩
/-- The segment without what its kind doesn't have. -/
def keptS (g : Seg) : Seg :=
  if g.kind = 3 then ⟨g.kind, g.tx, g.ty, g.ax, g.ay, g.cx, g.cy, 0, 0, 0, false, false⟩
  else if g.kind = 4 then ⟨g.kind, g.tx, g.ty, g.ax, g.ay, 0, 0, 0, 0, 0, false, false⟩
  else if g.kind = 5 then ⟨g.kind, g.tx, g.ty, 0, 0, 0, 0, g.rx, g.ry, g.turn, g.lg, g.sw⟩
  else ⟨g.kind, g.tx, g.ty, 0, 0, 0, 0, 0, 0, 0, false, false⟩
def aloneP (g : Seg) : Prop := 1 ≤ g.kind ∧ g.kind ≤ 6 ∧ g = keptS g ∧ inB g ∧ 0 ≤ g.rx ∧ 0 ≤ g.ry
/-- Going along: the last Move's point, and whether a subpath is open. -/
def rightP : List Seg → Int → Int → Bool → Prop
  | [], _, _, _ => True
  | g :: t, bx, by', op => aloneP g ∧ (if g.kind = 1 then rightP t g.tx g.ty true else if op = false then False else if g.kind = 6 then (g.tx = bx ∧ g.ty = by' ∧ rightP t bx by' false) else rightP t bx by' op)
/-- The document's words, of one segment behind others. -/
def docA (x : Seg) : Prop := ¬ x.kind < 1 ∧ ¬ 6 < x.kind ∧ (In32 x.tx ∧ In32 x.ty) ∧ (In32 x.ax ∧ In32 x.ay) ∧ (In32 x.cx ∧ In32 x.cy) ∧ In32 x.rx ∧ In32 x.ry ∧ In32 x.turn ∧ ¬ x.rx < 0 ∧ ¬ x.ry < 0
def docB (x : Seg) : Prop := (x.kind ≠ 3 → x.cx = 0 ∧ x.cy = 0) ∧ (x.kind ≠ 3 → x.kind ≠ 4 → x.ax = 0 ∧ x.ay = 0)
def docC (x : Seg) : Prop := x.kind ≠ 5 → x.rx = 0 ∧ x.ry = 0 ∧ x.turn = 0 ∧ x.lg = false ∧ x.sw = false
def docD (l : List Seg) (x : Seg) : Prop := (x.kind ≠ 1 → ¬ shutL l) ∧ (x.kind = 6 → x.tx = (begL l).1 ∧ x.ty = (begL l).2)
def docP (l : List Seg) (x : Seg) : Prop := docA x ∧ docB x ∧ docC x ∧ docD l x
def RightR (l : List Seg) : Prop := ∀ i, i < l.length → docP (l.take i) (l.getD i zeroS)
theorem alone_doc (x : Seg) : aloneP x ↔ docA x ∧ docB x ∧ docC x := by
  obtain ⟨k, tx, ty, ax, ay, cx, cy, rx, ry, tu, lg, sw⟩ := x
  unfold aloneP docA docB docC keptS inB
  dsimp only
  constructor
  · rintro ⟨h1, h2, h3, ⟨i1, i2, i3, i4, i5, i6, i7, i8, i9⟩, h5, h6⟩
    refine ⟨⟨by omega, by omega, ⟨i1, i2⟩, ⟨i3, i4⟩, ⟨i5, i6⟩, i7, i8, i9, by omega, by omega⟩, ?_, ?_⟩
    · split at h3
      · rename_i h; exact ⟨fun k => absurd h k, fun k => absurd h k⟩
      · split at h3
        · rename_i h; simp only [Seg.mk.injEq] at h3; exact ⟨fun _ => ⟨h3.2.2.2.2.2.1, h3.2.2.2.2.2.2.1⟩, fun _ k => absurd h k⟩
        · split at h3
          · simp only [Seg.mk.injEq] at h3; exact ⟨fun _ => ⟨h3.2.2.2.2.2.1, h3.2.2.2.2.2.2.1⟩, fun _ _ => ⟨h3.2.2.2.1, h3.2.2.2.2.1⟩⟩
          · simp only [Seg.mk.injEq] at h3; exact ⟨fun _ => ⟨h3.2.2.2.2.2.1, h3.2.2.2.2.2.2.1⟩, fun _ _ => ⟨h3.2.2.2.1, h3.2.2.2.2.1⟩⟩
    · intro h5'
      split at h3
      · simp only [Seg.mk.injEq] at h3; exact h3.2.2.2.2.2.2.2
      · split at h3
        · simp only [Seg.mk.injEq] at h3; exact h3.2.2.2.2.2.2.2
        · simp only [Seg.mk.injEq] at h3; exact h3.2.2.2.2.2.2.2
  · rintro ⟨⟨h1, h2, ⟨i1, i2⟩, ⟨i3, i4⟩, ⟨i5, i6⟩, i7, i8, i9, h5, h6⟩, ⟨b1, b2⟩, c⟩
    refine ⟨by omega, by omega, ?_, ⟨i1, i2, i3, i4, i5, i6, i7, i8, i9⟩, by omega, by omega⟩
    split
    · rename_i h; obtain ⟨c1, c2, c3, c4, c5⟩ := c (by omega); subst c1 c2 c3 c4 c5; rfl
    · rename_i n3
      obtain ⟨e1, e2⟩ := b1 n3
      split
      · rename_i h; obtain ⟨c1, c2, c3, c4, c5⟩ := c (by omega); subst c1 c2 c3 c4 c5 e1 e2; rfl
      · rename_i n4
        obtain ⟨e3, e4⟩ := b2 n3 n4
        split
        · subst e1 e2 e3 e4; rfl
        · rename_i n5; obtain ⟨c1, c2, c3, c4, c5⟩ := c n5; subst c1 c2 c3 c4 c5 e1 e2 e3 e4; rfl
/-- From a beginning on. -/
def RightFrom (pre t : List Seg) : Prop := ∀ i, i < t.length → docP (pre ++ t.take i) (t.getD i zeroS)
theorem from_cons (pre : List Seg) (g : Seg) (t : List Seg) : RightFrom pre (g :: t) ↔ docP pre g ∧ RightFrom (pre ++ [g]) t := by
  constructor
  · intro h
    refine ⟨by have := h 0 (by simp); simpa using this, fun i hi => ?_⟩
    have := h (i + 1) (by simp; omega)
    simpa using this
  · rintro ⟨h0, h1⟩ i hi
    cases i with
    | zero => simpa using h0
    | succ i =>
      have := h1 i (by simpa using hi)
      simpa using this
theorem from_nil (l : List Seg) : RightFrom [] l ↔ RightR l := by unfold RightFrom RightR; simp
theorem right_from : ∀ (t pre : List Seg) (op : Bool), (op = true ↔ ¬ shutL pre) → (rightP t (begL pre).1 (begL pre).2 op ↔ RightFrom pre t) := by
  intro t
  induction t with
  | nil => intro pre op _; exact ⟨fun _ i hi => absurd hi (Nat.not_lt_zero _), fun _ => trivial⟩
  | cons g t ih =>
    intro pre op hop
    rw [from_cons]
    unfold rightP docP docD
    rw [alone_doc]
    have hb := begL_snoc pre g
    have hs := shut_snoc pre g
    by_cases h1 : g.kind = 1
    · have I := ih (pre ++ [g]) true ⟨fun _ => by rw [hs]; omega, fun _ => rfl⟩
      rw [hb, if_pos h1] at I
      rw [if_pos h1, I]
      constructor
      · rintro ⟨⟨a, b, c⟩, d⟩; exact ⟨⟨a, b, c, fun k => absurd h1 k, fun k => absurd k (by omega)⟩, d⟩
      · rintro ⟨⟨a, b, c, _⟩, d⟩; exact ⟨⟨a, b, c⟩, d⟩
    · rw [if_neg h1]
      rw [if_neg h1] at hb
      cases op with
      | false =>
        have hsh : shutL pre := Decidable.byContradiction fun k => by have := hop.2 k; cases this
        rw [if_pos rfl]
        exact ⟨fun k => k.2.elim, fun k => absurd hsh (k.1.2.2.2.1 h1)⟩
      | true =>
        have hns := hop.1 rfl
        rw [if_neg (by decide)]
        by_cases h6 : g.kind = 6
        · have I := ih (pre ++ [g]) false ⟨fun k => (by cases k), fun k => absurd (hs.2 h6) k⟩
          rw [hb] at I
          rw [if_pos h6, I]
          constructor
          · rintro ⟨⟨a, b, c⟩, e1, e2, d⟩; exact ⟨⟨a, b, c, fun _ => hns, fun _ => ⟨e1, e2⟩⟩, d⟩
          · rintro ⟨⟨a, b, c, _, e⟩, d⟩; exact ⟨⟨a, b, c⟩, (e h6).1, (e h6).2, d⟩
        · have I := ih (pre ++ [g]) true ⟨fun _ => by rw [hs]; exact h6, fun _ => rfl⟩
          rw [hb] at I
          rw [if_neg h6, I]
          constructor
          · rintro ⟨⟨a, b, c⟩, d⟩; exact ⟨⟨a, b, c, fun _ => hns, fun k => absurd k h6⟩, d⟩
          · rintro ⟨⟨a, b, c, _, e⟩, d⟩; exact ⟨⟨a, b, c⟩, d⟩
/-- Both ways are one. -/
theorem right_same (l : List Seg) : rightP l 0 0 false ↔ RightR l := by
  rw [← from_nil]
  exact right_from l [] false ⟨fun k => (by cases k), fun k => absurd (Or.inl rfl) k⟩
theorem right_snoc (l : List Seg) (g : Seg) : RightR (l ++ [g]) ↔ RightR l ∧ docP l g := by
  unfold RightR
  constructor
  · intro h
    refine ⟨fun i hi => ?_, ?_⟩
    · have := h i (by simp; omega)
      rw [List.take_append_of_le_length (by omega)] at this
      simpa [List.getD, List.getElem?_append_left hi] using this
    · have := h l.length (by simp)
      simpa [List.getD] using this
  · rintro ⟨h1, h2⟩ i hi
    rw [List.length_append, List.length_singleton] at hi
    by_cases h : i < l.length
    · rw [List.take_append_of_le_length (by omega)]
      have := h1 i h
      simpa [List.getD, List.getElem?_append_left h] using this
    · have e : i = l.length := by omega
      subst e
      simpa [List.getD] using h2
theorem beg_in {l : List Seg} (h : RightR l) : In32 (begL l).1 ∧ In32 (begL l).2 := by
  have key : ∀ n, n ≤ l.length → In32 (begL (l.take n)).1 ∧ In32 (begL (l.take n)).2 := by
    intro n
    induction n with
    | zero => intro _; rw [List.take_zero]; exact ⟨in_zero, in_zero⟩
    | succ n ih =>
      intro hn
      rw [List.take_succ_eq_append_getElem (by omega), begL_snoc]
      split
      · have := (h n (by omega)).1.2.2.1
        simpa [List.getD, List.getElem?_eq_getElem (show n < l.length by omega)] using this
      · exact ih (by omega)
  have := key l.length (Nat.le_refl _)
  rwa [List.take_length] at this
theorem pt_in {l : List Seg} (h : RightR l) : In32 (ptL7 l).1 ∧ In32 (ptL7 l).2 := by
  unfold ptL7
  rcases List.eq_nil_or_concat l with rfl | ⟨m, g, rfl⟩
  · exact ⟨in_zero, in_zero⟩
  · rw [List.concat_eq_append] at *
    rw [last_snoc]
    exact ((right_snoc m g).1 h).2.1.2.2.1
theorem doc_move (l : List Seg) (x y : Int) (hx : In32 x) (hy : In32 y) : docP l (segS 1 x y 0 0 0 0) := by
  have z := in_zero
  refine ⟨⟨by show ¬ (1 : Int) < 1; omega, by show ¬ (6 : Int) < 1; omega, ⟨hx, hy⟩, ⟨z, z⟩, ⟨z, z⟩, z, z, z, by show ¬ (0 : Int) < 0; omega, by show ¬ (0 : Int) < 0; omega⟩, ⟨fun _ => ⟨rfl, rfl⟩, fun _ _ => ⟨rfl, rfl⟩⟩, fun _ => ⟨rfl, rfl, rfl, rfl, rfl⟩, fun k => absurd rfl k, fun k => absurd k (by show ¬ (1 : Int) = 6; omega)⟩
theorem right_open {l : List Seg} (h : RightR l) (c : Cmd) : RightR (openL l c) := by
  unfold openL
  split
  · exact (right_snoc _ _).2 ⟨h, doc_move _ _ _ (pt_in h).1 (pt_in h).2⟩
  · exact h
theorem open_shut {l : List Seg} {c : Cmd} (hc : capL c.letter ≠ 77) : ¬ shutL (openL l c) := by
  unfold openL
  split
  · rw [shut_snoc]; show ¬ (1 : Int) = 6; omega
  · rename_i h; exact fun k => h ⟨k, hc⟩
/-- A command's radii. -/
theorem doc_one (c : Cmd) (hc : CmdW c) (hr : capL c.letter = 65 → 0 ≤ nA c.args 0 ∧ 0 ≤ nA c.args 1) (l : List Seg) (p : Int × Int) (was : Nat) (hi : inR (oneS c p l was)) (hs : capL c.letter ≠ 77 → ¬ shutL l) : docP l (oneS c p l was) := by
  have hk := kind_one c p l was hc.2.1
  have hB := (one_in c hc p l was).2 hi
  obtain ⟨ten, _⟩ := cap_ten hc.2.1
  have hA : docB (oneS c p l was) ∧ docC (oneS c p l was) ∧ (0 ≤ (oneS c p l was).rx ∧ 0 ≤ (oneS c p l was).ry) ∧ ((oneS c p l was).kind = 6 → (oneS c p l was).tx = (begL l).1 ∧ (oneS c p l was).ty = (begL l).2) := by
    clear hB hi hk
    have z : (0 : Int) ≤ 0 := by omega
    unfold oneS docB docC
    rcases ten with h | h | h | h | h | h | h | h | h | h <;> rw [h]
    · exact ⟨⟨fun _ => ⟨rfl, rfl⟩, fun _ _ => ⟨rfl, rfl⟩⟩, fun _ => ⟨rfl, rfl, rfl, rfl, rfl⟩, ⟨z, z⟩, fun k => absurd k (by show ¬ (1 : Int) = 6; omega)⟩
    · exact ⟨⟨fun _ => ⟨rfl, rfl⟩, fun _ _ => ⟨rfl, rfl⟩⟩, fun _ => ⟨rfl, rfl, rfl, rfl, rfl⟩, ⟨z, z⟩, fun k => absurd k (by show ¬ (2 : Int) = 6; omega)⟩
    · exact ⟨⟨fun _ => ⟨rfl, rfl⟩, fun _ _ => ⟨rfl, rfl⟩⟩, fun _ => ⟨rfl, rfl, rfl, rfl, rfl⟩, ⟨z, z⟩, fun k => absurd k (by show ¬ (2 : Int) = 6; omega)⟩
    · exact ⟨⟨fun _ => ⟨rfl, rfl⟩, fun _ _ => ⟨rfl, rfl⟩⟩, fun _ => ⟨rfl, rfl, rfl, rfl, rfl⟩, ⟨z, z⟩, fun k => absurd k (by show ¬ (2 : Int) = 6; omega)⟩
    · exact ⟨⟨fun k => absurd rfl k, fun k => absurd rfl k⟩, fun _ => ⟨rfl, rfl, rfl, rfl, rfl⟩, ⟨z, z⟩, fun k => absurd k (by show ¬ (3 : Int) = 6; omega)⟩
    · by_cases hw : was = 67 ∨ was = 83
      · simp only [if_pos hw]
        exact ⟨⟨fun k => absurd rfl k, fun k => absurd rfl k⟩, fun _ => ⟨rfl, rfl, rfl, rfl, rfl⟩, ⟨z, z⟩, fun k => absurd k (by show ¬ (3 : Int) = 6; omega)⟩
      · simp only [if_neg hw]
        exact ⟨⟨fun k => absurd rfl k, fun k => absurd rfl k⟩, fun _ => ⟨rfl, rfl, rfl, rfl, rfl⟩, ⟨z, z⟩, fun k => absurd k (by show ¬ (3 : Int) = 6; omega)⟩
    · exact ⟨⟨fun _ => ⟨rfl, rfl⟩, fun _ k => absurd rfl k⟩, fun _ => ⟨rfl, rfl, rfl, rfl, rfl⟩, ⟨z, z⟩, fun k => absurd k (by show ¬ (4 : Int) = 6; omega)⟩
    · by_cases hw : was = 81 ∨ was = 84
      · simp only [if_pos hw]
        exact ⟨⟨fun _ => ⟨rfl, rfl⟩, fun _ k => absurd rfl k⟩, fun _ => ⟨rfl, rfl, rfl, rfl, rfl⟩, ⟨z, z⟩, fun k => absurd k (by show ¬ (4 : Int) = 6; omega)⟩
      · simp only [if_neg hw]
        exact ⟨⟨fun _ => ⟨rfl, rfl⟩, fun _ k => absurd rfl k⟩, fun _ => ⟨rfl, rfl, rfl, rfl, rfl⟩, ⟨z, z⟩, fun k => absurd k (by show ¬ (4 : Int) = 6; omega)⟩
    · exact ⟨⟨fun _ => ⟨rfl, rfl⟩, fun _ _ => ⟨rfl, rfl⟩⟩, fun k => absurd rfl k, hr h, fun k => absurd k (by show ¬ (5 : Int) = 6; omega)⟩
    · exact ⟨⟨fun _ => ⟨rfl, rfl⟩, fun _ _ => ⟨rfl, rfl⟩⟩, fun _ => ⟨rfl, rfl, rfl, rfl, rfl⟩, ⟨z, z⟩, fun _ => ⟨rfl, rfl⟩⟩
  obtain ⟨a1, a2, ⟨a3, a4⟩, a5⟩ := hA
  have hkb : 1 ≤ (oneS c p l was).kind ∧ (oneS c p l was).kind ≤ 6 ∧ ((oneS c p l was).kind ≠ 1 → capL c.letter ≠ 77) := by
    rw [hk]
    rcases ten with h | h | h | h | h | h | h | h | h | h <;> rw [h] <;> exact ⟨by decide, by decide, by decide⟩
  generalize oneS c p l was = g at *
  obtain ⟨i1, i2, i3, i4, i5, i6, i7, i8, i9⟩ := hB
  exact ⟨⟨by omega, by omega, ⟨i1, i2⟩, ⟨i3, i4⟩, ⟨i5, i6⟩, i7, i8, i9, by omega, by omega⟩, a1, a2, fun k => hs (hkb.2.2 k), a5⟩
/-- What commands come to is right. -/
theorem walk_right : ∀ (t : List Cmd) (l : List Seg) (was i : Nat), RightR l → (∀ x ∈ t, CmdW x ∧ (capL x.letter = 65 → 0 ≤ nA x.args 0 ∧ 0 ≤ nA x.args 1)) → RightR (walkR l was t i).1 := by
  intro t
  induction t with
  | nil => intro l was i h _; exact h
  | cons c t ih =>
    intro l was i h hc
    unfold walkR
    split
    · rename_i hin
      obtain ⟨c1, c2⟩ := hc c (List.mem_cons_self ..)
      refine ih _ _ _ ((right_snoc _ _).2 ⟨right_open h c, ?_⟩) (fun x hx => hc x (List.mem_cons_of_mem _ hx))
      exact doc_one c c1 c2 _ _ _ hin (fun k => open_shut k)
    · exact h
end Go.Proofs.YtgiibcnakiggaaaGreatDoor
