/-
  A text's pieces, as the machine of path data wants them; what of them a cut leaves.
-/
import Derived.Test.YtgiibcnakiggaaaDoorRef5
import Derived.Test.YtgiibcnakiggaaaDoorJMath
namespace Go.Proofs.YtgiibcnakiggaaaDoor
open Go.RowKit Go.Shelf

theorem blk_take (l : List UInt8) : ∀ m, blk (l.take m) = min (blk l) m := by
  induction l with
  | nil => intro m; simp [blk]
  | cons b t ih =>
    intro m
    cases m with
    | zero => simp [blk]
    | succ m =>
      rw [List.take_succ_cons]
      by_cases h : isBl b = true
      · simp only [blk, h, if_true, ih]; omega
      · simp [blk, h]
theorem gap_take (l : List UInt8) : ∀ m c, gap c (l.take m) = min (gap c l) m := by
  induction l with
  | nil => intro m c; simp [gap]
  | cons b t ih =>
    intro m c
    cases m with
    | zero => simp [gap]
    | succ m =>
      rw [List.take_succ_cons]
      by_cases h : isCm b = true
      · by_cases hc : c = 0
        · simp only [gap, h, hc, if_true, ih]; omega
        · simp [gap, h, hc]
      · by_cases h2 : isBl b = true
        · simp only [gap, h, h2, if_true, ih]
          simp only [Bool.false_eq_true, if_false]
          omega
        · simp [gap, h, h2]
theorem walk_take (l : List UInt8) : ∀ m st, (walkL (l.take m) st).1 = min (walkL l st).1 m ∧ ((walkL l st).1 ≤ m → walkL (l.take m) st = walkL l st) := by
  induction l with
  | nil => intro m st; simp [walkL]
  | cons b t ih =>
    intro m st
    have ec : ∀ u : List UInt8, walkL (b :: u) st = if follow st (kindB b) = 0 then (0, st) else ((walkL u (follow st (kindB b))).1 + 1, (walkL u (follow st (kindB b))).2) := fun _ => rfl
    cases m with
    | zero =>
      rw [List.take_zero]
      refine ⟨by simp [walkL], fun h => ?_⟩
      have := walk_none (b :: t) st (by omega)
      exact Prod.ext (by show 0 = (walkL (b :: t) st).1; omega) (by rw [this]; rfl)
    | succ m =>
      rw [List.take_succ_cons, ec, ec]
      by_cases h0 : follow st (kindB b) = 0
      · rw [if_pos h0, if_pos h0]; simp
      · rw [if_neg h0, if_neg h0]
        have := ih m (follow st (kindB b))
        refine ⟨by show (walkL (t.take m) _).1 + 1 = min ((walkL t _).1 + 1) (m + 1); rw [this.1]; omega, fun h => ?_⟩
        have h' : (walkL t (follow st (kindB b))).1 ≤ m := by simpa using h
        rw [this.2 h']

/-- What both Parses tell of a text: one and the same. -/
theorem parse_both (u : ByteArray) (hu : u.size ≤ 100000) : ∃ an : Int × Int, (an.2 = 0 ∨ (an.1 = 0 ∧ (an.2 = 2 ∨ an.2 = 3))) ∧ (Acc u.data.toList 1 → an.2 ≠ 3) ∧ (∀ s a pt b x, IsNum u.data.toList s a pt b x → an = ansF s a b x) ∧ (∀ w, Tabs w → Calls Tryd.prog 95 #[.string u] w (Tells an w)) ∧ (u.size ≤ 100 → ∀ w, Calls Tryd.prog 48 #[.string u] w (Tells an w)) := by
  by_cases h : Acc u.data.toList 1
  · obtain ⟨sg', a, pt, b, x, hn⟩ := acc1 _ h
    refine ⟨ansF sg' a b x, ansF_ok _ _ _ _, fun _ => ?_, fun _ _ _ _ _ k => ansF_uniq hn k, fun w T => Parse_num u sg' a pt b x w hu T hn, fun hr w => rparse_num u sg' a pt b x w hr hn⟩
    unfold ansF ansV
    split
    · show (0 : Int) ≠ 3; decide
    · show (2 : Int) ≠ 3; decide
  · exact ⟨(0, 3), Or.inr ⟨rfl, Or.inr rfl⟩, fun h' => absurd h' h, (fun _ _ _ _ _ k => absurd k.acc h), fun w T => Parse_bad u w hu T h, fun hr w => rparse_bad u w hr h⟩
open Classical in
/-- A text's number, or why it is none. -/
noncomputable def ansT (u : ByteArray) : Int × Int := if h : u.size ≤ 100000 then (parse_both u h).choose else (0, 3)
theorem ansT_spec (u : ByteArray) (h : u.size ≤ 100000) : ((ansT u).2 = 0 ∨ ((ansT u).1 = 0 ∧ ((ansT u).2 = 2 ∨ (ansT u).2 = 3))) ∧ (Acc u.data.toList 1 → (ansT u).2 ≠ 3) ∧ (∀ s a pt b x, IsNum u.data.toList s a pt b x → ansT u = ansF s a b x) ∧ (∀ w, Tabs w → Calls Tryd.prog 95 #[.string u] w (Tells (ansT u) w)) ∧ (u.size ≤ 100 → ∀ w, Calls Tryd.prog 48 #[.string u] w (Tells (ansT u) w)) := by
  unfold ansT; rw [dif_pos h]; exact (parse_both u h).choose_spec
/-- What is read as a number from a place on. -/
noncomputable def numT (s : ByteArray) (k : Nat) (sg : Bool) : Int × Int × Nat := numX s k sg (ansT (s.extract k (nmE s k sg)))
theorem ext_size (s : ByteArray) (k : Nat) (sg : Bool) (hk : k ≤ s.size) {n : Nat} (hs : s.size ≤ n) : (s.extract k (nmE s k sg)).size ≤ n := by
  have := nmE_le s k sg hk
  simp; omega
/-- Number tells it, and so does the document's. -/
theorem number_T (b : Nat) (s : ByteArray) (k : Nat) (sg : Bool) (w : World) (H : Rdr b s k w) (hs : s.size ≤ 100000) (hk : k ≤ s.size) (T : STabs w) :
    Calls Tryd.prog 86 #[.pointer (some ⟨b, 0, none⟩), .bool sg] w (NumPost b s (numT s k sg) w) :=
  number_x b s k sg _ w H (by unfold maxLen; omega) hk T (ansT_spec _ (ext_size s k sg hk hs)).2.2.2.1
theorem rnumber_T (s : ByteArray) (k : Nat) (sg : Bool) (w : World) (hs : s.size ≤ 100) (hk : k ≤ s.size) :
    Calls Tryd.prog 30 #[.string s, .int .i64 (k : Int), .bool sg] w fun e w' => e = .returned (Got (numT s k sg)) ∧ Below w.heap.size w w' := by
  have A := ansT_spec _ (ext_size s k sg hk (Nat.le_trans hs (by decide : 100 ≤ 100000)))
  have hr := ext_size s k sg hk hs
  unfold numT numX
  by_cases hW : nmW s k sg = true
  · rw [if_pos hW]
    refine rnumber_ok s k sg _ w (by omega) hk hW ?_ (A.2.2.2.2 hr)
    rcases A.1 with h | h
    · exact Or.inl h
    · exact Or.inr h.1
  · rw [if_neg hW]
    exact rnumber_bad s k sg w (by omega) hk (by simpa using hW)
/-- A text that is read to its end as a number is one. -/
theorem nmW_acc (s : ByteArray) (k : Nat) (sg : Bool) (hW : nmW s k sg = true) : Acc (s.extract k (nmE s k sg)).data.toList 1 := by
  rw [Lib.extract_data, show nmE s k sg - k = (wk (s.data.toList.drop k) (if sg then 1 else 2)).1 from by unfold nmE; omega]
  unfold nmW at hW
  generalize s.data.toList.drop k = l at *
  unfold wk at *
  have T := (walk_take l (walkL l (if sg then 1 else 2)).1 (if sg then 1 else 2)).2 (Nat.le_refl _)
  have hle := walk_fst_le l (if sg then 1 else 2)
  generalize hn : (walkL l (if sg then 1 else 2)).1 = n at *
  have hlen : (l.take n).length = n := by rw [List.length_take]; omega
  have e12 : ∀ u : List UInt8, wholeS (walkL u 2).2 = true → walkL u 1 = walkL u 2 := by
    intro u hu
    cases u with
    | nil => cases hu
    | cons b t =>
      have ec : ∀ st, walkL (b :: t) st = if follow st (kindB b) = 0 then (0, st) else ((walkL t (follow st (kindB b))).1 + 1, (walkL t (follow st (kindB b))).2) := fun _ => rfl
      rw [ec] at hu ⊢
      rw [ec]
      rcases kind_cases b with ⟨_, k2⟩ | ⟨_, _, k2⟩ | ⟨_, _, _, k2⟩ | ⟨_, _, _, _, k2⟩ | ⟨_, _, _, _, k2⟩ <;> rw [k2] at hu ⊢ <;> first | rfl | (rw [if_pos (by decide)] at hu; exact absurd hu (by decide))
  cases sg with
  | true =>
    simp only [if_true] at T hW hn
    unfold Acc
    rw [T, hlen]
    exact ⟨hn, hW⟩
  | false =>
    simp only [Bool.false_eq_true, if_false] at T hW hn
    unfold Acc
    rw [e12 _ (by rw [T]; exact hW), T, hlen]
    exact ⟨hn, hW⟩

/-- A text's pieces. -/
noncomputable def txOf (s : ByteArray) : Tx where
  len := s.size
  byte := pk s
  blkA i := i + blk (s.data.toList.drop i)
  gapA i := i + gap 0 (s.data.toList.drop i)
  num := numT s
  ends := nmE s
theorem kind_start (b : UInt8) (sg : Bool) (h : startB b.toNat sg = true) : follow (if sg then 1 else 2) (kindB b) ≠ 0 := by
  unfold startB at h
  simp only [Bool.or_eq_true, Bool.and_eq_true, decide_eq_true_eq, beq_iff_eq] at h
  rcases h with (h | h) | ⟨rfl, h⟩
  · rw [kind_dig (by unfold isDig; simp; omega)]; cases sg <;> decide
  · rw [show kindB b = 2 from by unfold kindB isDig isSgn isPt; simp [h]]; cases sg <;> decide
  · rw [show kindB b = 1 from by unfold kindB isDig isSgn; rcases h with h | h <;> simp [h]]; decide
theorem txOf_ok (s : ByteArray) (hs : s.size ≤ 100000) : (txOf s).Ok where
  blk i hi := ⟨Nat.le_add_right _ _, blk_drop_le s i hi⟩
  gap i hi := ⟨Nat.le_add_right _ _, gap_drop_le s 0 i hi⟩
  comma i hi h := by
    show i < i + gap 0 (s.data.toList.drop i)
    have hh : headIs isCm (s.data.toList.drop i) = true := by
      rw [headCm, decide_eq_true (show i < s.size from hi), show pk s i = 44 from h]; rfl
    rw [gap_comma _ hh]; omega
  ends i sg hi := nmE_le s i sg hi
  er i sg hi := (numX_ok s i sg _ hi (ansT_spec _ (ext_size s i sg hi hs)).1).er
  ok i sg hi h := by
    have A := ansT_spec _ (ext_size s i sg hi hs)
    have O := numX_ok s i sg _ hi A.1
    show (numT s i sg).2.2 = nmE s i sg ∧ i < nmE s i sg
    have h' : (numT s i sg).2.1 = 0 := h
    have hl := O.ok h'
    unfold numT numX at h' ⊢
    by_cases hW : nmW s i sg = true
    · rw [if_pos hW] at h' ⊢
      have h0 : (ansT (s.extract i (nmE s i sg))).2 = 0 := h'
      exact ⟨if_pos h0, nmW_lt s i sg hW⟩
    · rw [if_neg hW] at h'; cases h'
  bad i sg hi h := by
    have A := ansT_spec _ (ext_size s i sg hi hs)
    show (numT s i sg).2.2 = nmE s i sg
    have h' : (numT s i sg).2.1 = 3 := h
    unfold numT numX at h' ⊢
    by_cases hW : nmW s i sg = true
    · rw [if_pos hW] at h'
      exact absurd h' (A.2.1 (nmW_acc s i sg hW))
    · rw [if_neg hW]
  great i sg hi h := (numX_ok s i sg _ hi (ansT_spec _ (ext_size s i sg hi hs)).1).great h
  start i sg hi h := by
    show i < nmE s i sg
    have hi' : i < s.size := hi
    have h' : startB s[i].toNat sg = true := by rw [← pk_in hi']; exact h
    unfold nmE wk
    rw [drop_cons s i hi', show ∀ st u, walkL (s[i] :: u) st = if follow st (kindB s[i]) = 0 then (0, st) else ((walkL u (follow st (kindB s[i]))).1 + 1, (walkL u (follow st (kindB s[i]))).2) from fun _ _ => rfl, if_neg (kind_start _ sg h')]
    show i < i + (_ + 1)
    omega
/-- What a cut leaves. -/
theorem txOf_cut (s : ByteArray) (m : Nat) (hm : m ≤ s.size) : Cut (txOf s) (txOf (s.extract 0 m)) m := by
  have hd : (s.extract 0 m).data.toList = s.data.toList.take m := by rw [Lib.extract_data, List.drop_zero, Nat.sub_zero]
  have hsz : (s.extract 0 m).size = m := by simp; omega
  have hdd : ∀ i, (s.extract 0 m).data.toList.drop i = (s.data.toList.drop i).take (m - i) := fun i => by rw [hd, List.drop_take]
  have hE : ∀ i sg, i ≤ m → nmE (s.extract 0 m) i sg = min (nmE s i sg) m := by
    intro i sg hi
    unfold nmE wk
    rw [hdd]
    have := (walk_take (s.data.toList.drop i) (m - i) (if sg then 1 else 2)).1
    show i + (walkL ((s.data.toList.drop i).take (m - i)) _).1 = min (i + (walkL (s.data.toList.drop i) _).1) m
    rw [this]; omega
  refine ⟨hsz, hm, ?_, ?_, ?_, ?_, hE⟩
  · intro i hi
    show pk (s.extract 0 m) i = pk s i
    rw [pk_in (by omega), pk_in (by omega)]
    simp [ByteArray.getElem_extract]
  · intro i hi
    show i + blk _ = min (i + blk _) m
    rw [hdd, blk_take]; omega
  · intro i hi
    show i + gap 0 _ = min (i + gap 0 _) m
    rw [hdd, gap_take]; omega
  · intro i sg hi he
    have he' : nmE s i sg ≤ m := he
    show numT (s.extract 0 m) i sg = numT s i sg
    have e1 : nmE (s.extract 0 m) i sg = nmE s i sg := by rw [hE i sg hi]; omega
    have e2 : nmW (s.extract 0 m) i sg = nmW s i sg := by
      unfold nmW wk
      rw [hdd, (walk_take (s.data.toList.drop i) (m - i) (if sg then 1 else 2)).2 (by unfold nmE wk at he'; omega)]
    have e3 : (s.extract 0 m).extract i (nmE s i sg) = s.extract i (nmE s i sg) := by
      refine ByteArray.ext (Array.ext' ?_)
      have X1 : ∀ (u : ByteArray) (a b : Nat), (u.extract a b).data.toList = (u.data.toList.drop a).take (b - a) := fun u a b => Lib.extract_data u a b
      rw [X1 (s.extract 0 m) i, hdd, X1 s i, List.take_take, Nat.min_eq_left (by omega)]
    unfold numT numX
    rw [e1, e2, e3]
end Go.Proofs.YtgiibcnakiggaaaDoor
