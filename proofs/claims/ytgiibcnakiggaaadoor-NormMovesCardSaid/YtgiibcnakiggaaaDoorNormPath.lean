/-
  Path data's commands can be brought: as many numbers as their letters ask, within the bound; the first one is an M.
-/
import Derived.Test.YtgiibcnakiggaaaDoorNormBring
import Derived.Test.YtgiibcnakiggaaaDoorPathPrint
namespace Go.Proofs.YtgiibcnakiggaaaDoor
open Go.RowKit Go.Shelf

theorem args_in {c : Nat} : ∀ (l : List Int) (k : Nat), ArgsOk c k l → ∀ v ∈ l, In32 v := by
  intro l
  induction l with
  | nil => intro k _ v hv; cases hv
  | cons a t ih =>
    intro k h v hv
    have h' : ArgOk c k a ∧ ArgsOk c (k + 1) t := h
    rcases List.mem_cons.1 hv with rfl | hv
    · exact ⟨h'.1.1, h'.1.2.1⟩
    · exact ih _ h'.2 v hv
theorem CmdOk.w {x : Cmd} (h : CmdOk x) : CmdW x := ⟨h.1, h.2.1, args_in _ _ h.2.2⟩
theorem ansF_in (s a b : List UInt8) (x : Expo) (h : (ansF s a b x).2 = 0) : In32 (ansF s a b x).1 := by
  unfold ansF ansV at *
  split at h
  · rename_i k; rw [if_pos k]; exact k
  · exact absurd h (by show ¬ (2 : Int) = 0; decide)
theorem numT_in (s : ByteArray) (k : Nat) (sg : Bool) (hs : s.size ≤ 100000) (hk : k ≤ s.size) (h : (numT s k sg).2.1 = 0) : In32 (numT s k sg).1 := by
  have A := ansT_spec (s.extract k (nmE s k sg)) (ext_size s k sg hk hs)
  unfold numT numX at *
  by_cases hW : nmW s k sg = true
  · rw [if_pos hW] at h ⊢
    obtain ⟨sg', a, pt, b, x, hn⟩ := acc1 _ (nmW_acc s k sg hW)
    have e := A.2.2.1 _ _ _ _ _ hn
    rw [e] at h ⊢
    exact ansF_in _ _ _ _ h
  · rw [if_neg hW] at h
    exact absurd h (by show ¬ (3 : Int) = 0; decide)
theorem one_in6 (s : ByteArray) (hs : s.size ≤ 100000) (c k i : Nat) (hi : i ≤ s.size) (h : (one (txOf s) c k i).2.1 = 0) : In32 (one (txOf s) c k i).1 := by
  obtain ⟨j, hj, _, hc⟩ := one_cases (txOf s) c k i
  have hg := (txOf_ok s hs).gap i hi
  have hjl : j ≤ s.size := by rcases hj with rfl | rfl; exact hi; exact hg.2
  rcases hc with ⟨e, _⟩ | ⟨e, _⟩ | ⟨sg, e, _⟩
  · rw [e] at h; exact absurd h (by show ¬ (3 : Int) = 0; decide)
  · rw [e] at h ⊢
    unfold flagA at *
    split at h
    · rename_i hb
      rw [if_pos hb]
      rcases hb.2 with hb | hb
      · show In32 (((txOf s).byte j : Int) - 48); rw [hb]; decide
      · show In32 (((txOf s).byte j : Int) - 48); rw [hb]; decide
    · exact absurd h (by show ¬ (3 : Int) = 0; decide)
  · rw [e] at h ⊢
    exact numT_in s j sg hs hjl h
theorem args_in6 (s : ByteArray) (hs : s.size ≤ 100000) (c : Nat) : ∀ (n k i : Nat) (acc : List Int) xs j, i ≤ s.size → (∀ v ∈ acc, In32 v) → argsL (txOf s) c n k i acc = .inl (xs, j) → (∀ v ∈ xs, In32 v) ∧ j ≤ s.size := by
  intro n
  induction n with
  | zero =>
    intro k i acc xs j hi ha h
    obtain ⟨rfl, rfl⟩ : acc = xs ∧ i = j := by simpa [argsL] using h
    exact ⟨ha, hi⟩
  | succ n ih =>
    intro k i acc xs j hi ha h
    rw [args_step] at h
    split at h
    · rename_i h0
      have hb := one_in6 s hs c k i hi h0
      refine ih _ _ _ _ _ ?_ ?_ h
      · exact (one_ok (txOf_ok s hs) c k i hi).hi
      · intro v hv
        rcases List.mem_append.1 hv with hv | hv
        · exact ha v hv
        · simp at hv; subst hv; exact hb
    · cases h
def HeadM (l : List Cmd) : Prop := ∀ x r, l = x :: r → capL x.letter = 77
theorem headM_snoc {out : List Cmd} {y : Cmd} (h : HeadM out) (hy : out = [] → capL y.letter = 77) : HeadM (out ++ [y]) := by
  intro x r e
  cases out with
  | nil => simp at e; rw [← e.1]; exact hy rfl
  | cons z t => simp at e; exact h x t (by rw [e.1])
theorem path_may (s : ByteArray) (hs : s.size ≤ 100000) : ∀ (f : Nat) (st : Option Nat) (i : Nat) (out : List Cmd), i ≤ s.size → (∀ x ∈ out, CmdW x) → HeadM out → (∀ c, st = some c → cntL c ≠ 99 ∧ (out = [] → capL c = 77)) → (∀ x ∈ (pathL (txOf s) f st i out).1, CmdW x) ∧ HeadM (pathL (txOf s) f st i out).1 := by
  have OKX := txOf_ok s hs
  have hln : (txOf s).len = s.size := rfl
  intro f
  induction f with
  | zero => intro st i out _ h1 h2 _; cases st <;> exact ⟨h1, h2⟩
  | succ f ih =>
    intro st i out hi h1 h2 h3
    cases st with
    | none =>
      unfold pathL
      split
      · rename_i hlt
        split
        · exact ⟨h1, h2⟩
        · rename_i hno
          have hc : cntL ((txOf s).byte i) ≠ 99 := fun e => hno (Or.inl e)
          have hm : out = [] → capL ((txOf s).byte i) = 77 := fun e => by
            have : (txOf s).byte i = 77 ∨ (txOf s).byte i = 109 := Classical.byContradiction fun k => hno (Or.inr ⟨e, fun x => k (Or.inl x), fun x => k (Or.inr x)⟩)
            rcases this with h | h <;> rw [h] <;> rfl
          have hb := OKX.blk (i + 1) (by rw [hln] at *; omega)
          split
          · rename_i hz
            refine ih _ _ _ hb.2 ?_ (headM_snoc h2 hm) (fun c e => by cases e)
            intro x hx
            rcases List.mem_append.1 hx with hx | hx
            · exact h1 x hx
            · simp at hx; subst hx; exact ⟨hz, hc, fun v hv => by cases hv⟩
          · exact ih _ _ _ hb.2 h1 h2 (fun c e => by cases e; exact ⟨hc, hm⟩)
      · exact ⟨h1, h2⟩
    | some c =>
      obtain ⟨hc, hm⟩ := h3 c rfl
      unfold pathL
      split
      · exact ⟨h1, h2⟩
      · rename_i xs j he
        have hlx := args_len (txOf s) c _ _ _ _ _ _ he
        obtain ⟨hin, hj⟩ := args_in6 s hs c _ _ _ _ _ _ hi (fun v hv => by cases hv) he
        have hw : CmdW ⟨c, xs⟩ := ⟨by simp at hlx; exact hlx.symm, hc, hin⟩
        have h1' : ∀ x ∈ out ++ [⟨c, xs⟩], CmdW x := by
          intro x hx
          rcases List.mem_append.1 hx with hx | hx
          · exact h1 x hx
          · simp at hx; subst hx; exact hw
        have h2' := headM_snoc (y := ⟨c, xs⟩) h2 hm
        have hb := OKX.blk j hj
        have hg := OKX.gap _ hb.2
        have hnx : ∀ c', some (nextL c) = some c' → cntL c' ≠ 99 ∧ (out ++ [⟨c, xs⟩] = [] → capL c' = 77) := fun c' e => by
          cases e
          refine ⟨?_, fun e => by simp at e⟩
          unfold nextL
          split
          · decide
          · split
            · decide
            · exact hc
        split
        · exact ih _ _ _ hg.2 h1' h2' hnx
        · split
          · exact ih _ _ _ hb.2 h1' h2' hnx
          · exact ih _ _ _ hb.2 h1' h2' (fun c e => by cases e)
theorem all_may (s : ByteArray) (hs : s.size ≤ 100000) : (∀ x ∈ (pathAll (txOf s)).1, CmdW x) ∧ HeadM (pathAll (txOf s)).1 :=
  path_may s hs _ _ _ _ ((txOf_ok s hs).blk 0 (Nat.zero_le _)).2 (fun x h => by cases h) (fun x r h => by cases h) (fun c h => by cases h)
end Go.Proofs.YtgiibcnakiggaaaDoor
