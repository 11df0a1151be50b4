/-
  The document's machine of path data, step by step, without a count of steps; what package path asks behind a group comes to the same.
-/
import Derived.Test.YtgiibcnakiggaaaDoorPathLet
namespace Go.Proofs.YtgiibcnakiggaaaDoor

/-- Path data from a place on. -/
noncomputable def PA (s : ByteArray) (st : Option Nat) (i : Nat) (out : List Cmd) : List Cmd × Int × Int := pathL (txOf s) (s.size + 1) st i out
theorem pa_all (s : ByteArray) : pathAll (txOf s) = PA s none ((txOf s).blkA 0) [] := rfl
theorem pa_none {s : ByteArray} (hs : s.size ≤ 100000) {i : Nat} (hi : i ≤ s.size) (out : List Cmd) : PA s none i out =
    if i < s.size then
      if cntL (pk s i) = 99 ∨ (out = [] ∧ pk s i ≠ 77 ∧ pk s i ≠ 109) then (out, (i : Int), 3)
      else if cntL (pk s i) = 0 then PA s none ((txOf s).blkA (i + 1)) (out ++ [⟨pk s i, []⟩])
      else PA s (some (pk s i)) ((txOf s).blkA (i + 1)) out
    else (out, -1, 0) := by
  conv => lhs; unfold PA
  rw [← path_fuel (txOf_ok s hs) (s.size + 1) none i out hi (by show s.size - i + 1 ≤ _; omega) (fun _ e => by cases e)]
  rfl
/-- Behind a group. -/
noncomputable def behindA (s : ByteArray) (c j : Nat) (out : List Cmd) : List Cmd × Int × Int :=
  if (txOf s).blkA j < s.size ∧ pk s ((txOf s).blkA j) = 44 then PA s (some (nextL c)) ((txOf s).gapA ((txOf s).blkA j)) out
  else if (txOf s).blkA j < s.size ∧ startB (pk s ((txOf s).blkA j)) (!isArc c) = true then PA s (some (nextL c)) ((txOf s).blkA j) out
  else PA s none ((txOf s).blkA j) out
theorem pa_some {s : ByteArray} (hs : s.size ≤ 100000) {i : Nat} (hi : i ≤ s.size) {c : Nat} (hc : 0 < cntL c) (out : List Cmd) : PA s (some c) i out =
    match argsL (txOf s) c (cntL c) 0 i [] with
    | .inr (at', e) => (out, (at' : Int), e)
    | .inl (xs, j) => behindA s c j (out ++ [⟨c, xs⟩]) := by
  conv => lhs; unfold PA
  rw [← path_fuel (txOf_ok s hs) (s.size + 1) (some c) i out hi (by show s.size - i + 1 ≤ _; omega) (fun _ e => by cases e; exact hc)]
  rfl

theorem kind_stop (b : UInt8) (sg : Bool) (h : startB b.toNat sg = false) : follow (if sg then 1 else 2) (kindB b) = 0 := by
  unfold startB at h
  rcases kind_cases b with ⟨h1, k2⟩ | ⟨_, h1, k2⟩ | ⟨_, _, h1, k2⟩ | ⟨_, _, _, _, k2⟩ | ⟨_, _, _, _, k2⟩ <;> rw [k2]
  · exfalso; unfold isDig at h1; rw [h1] at h; simp at h
  · unfold isSgn at h1
    rw [h1] at h
    cases sg with
    | true => simp at h
    | false => rfl
  · exfalso; unfold isPt at h1; rw [h1] at h; simp at h
  · cases sg <;> rfl
  · cases sg <;> rfl
theorem numT_stop (s : ByteArray) (q : Nat) (sg : Bool) (hq : q < s.size) (h : startB (pk s q) sg = false) : numT s q sg = (0, 3, q) := by
  rw [pk_in hq] at h
  have hw : wk (s.data.toList.drop q) (if sg then 1 else 2) = (0, false) := by
    have : walkL (s.data.toList.drop q) (if sg then 1 else 2) = (0, if sg then 1 else 2) := by rw [walk_cons s q _ hq, if_pos (kind_stop _ sg h)]
    unfold wk
    rw [this]
    cases sg <;> rfl
  unfold numT numX nmE nmW
  rw [hw]; rfl
theorem blk_idem (s : ByteArray) (j : Nat) : blk (s.data.toList.drop (j + blk (s.data.toList.drop j))) = 0 := by
  rw [← List.drop_drop]
  exact blk_zero _ (blk_head _)
theorem gap_of_blk (s : ByteArray) (q : Nat) (h : blk (s.data.toList.drop q) = 0) : 0 < gap 0 (s.data.toList.drop q) ↔ (q < s.size ∧ pk s q = 44) := by
  rw [gap_zero, h, List.drop_zero, headCm]
  by_cases h1 : q < s.size
  · by_cases h2 : pk s q = 44
    · simp [h1, h2]; omega
    · simp [h1, h2]
  · simp [h1]
theorem letter_all : ∀ c : Fin 256, cntL c ≠ 99 → startB c true = false ∧ startB c false = false := by decide +kernel
theorem letter_lt' {c : Nat} (h : cntL c ≠ 99) : startB c true = false ∧ startB c false = false := by
  have hc : c < 256 := by
    refine Nat.lt_of_not_le fun hn => h ?_
    unfold cntL
    rw [if_neg (by omega), if_neg (by omega), if_neg (by omega), if_neg (by omega), if_neg (by omega), if_neg (by omega)]
  exact letter_all ⟨c, hc⟩ h
/-- Behind a group the code goes on as the document says. -/
theorem more_behind (s : ByteArray) (hs : s.size ≤ 100000) (c j : Nat) (out : List Cmd) (hj : j ≤ s.size) (hc : 0 < cntL c) :
    behindA s c j out = if (moreL s j).1 = true then PA s (some (nextL c)) (moreL s j).2 out else PA s none (moreL s j).2 out := by
  have hb : (txOf s).blkA j = j + blk (s.data.toList.drop j) := rfl
  have hq := blk_drop_le s j hj
  have hid := blk_idem s j
  unfold behindA moreL
  rw [hb]
  dsimp only
  generalize j + blk (s.data.toList.drop j) = q at *
  have hg : (txOf s).gapA q = q + gap 0 (s.data.toList.drop q) := rfl
  have hiff := gap_of_blk s q hid
  by_cases h1 : q < s.size ∧ pk s q = 44
  · rw [if_pos h1, if_pos (hiff.2 h1), if_pos rfl, hg]
  · rw [if_neg h1, if_neg (fun e => h1 (hiff.1 e))]
    by_cases h2 : q < s.size ∧ startB (pk s q) (!isArc c) = true
    · have h9 : cntL (pk s q) = 99 := by
        refine Classical.byContradiction fun h => ?_
        have := letter_lt' h
        cases ha : isArc c with
        | true => rw [ha] at h2; rw [show (!true) = false from rfl] at h2; rw [this.2] at h2; cases h2.2
        | false => rw [ha] at h2; rw [show (!false) = true from rfl] at h2; rw [this.1] at h2; cases h2.2
      rw [if_pos h2, decide_eq_true h2.1, decide_eq_true h9]; rfl
    · rw [if_neg h2]
      by_cases h3 : q < s.size ∧ cntL (pk s q) = 99
      · rw [decide_eq_true h3.1, decide_eq_true h3.2, show (if (true && true, q).fst = true then PA s (some (nextL c)) (true && true, q).snd out else PA s none (true && true, q).snd out) = PA s (some (nextL c)) q out from rfl, pa_none hs hq, if_pos h3.1, if_pos (Or.inl h3.2)]
        have hst : startB (pk s q) (!isArc c) = false := by
          cases e : startB (pk s q) (!isArc c) with
          | false => rfl
          | true => exact absurd ⟨h3.1, e⟩ h2
        have hcn := cnt_next c hc
        rw [pa_some hs hq hcn]
        have ho : one (txOf s) (nextL c) 0 q = (0, 3, q) := by
          have hN : ∀ sg, startB (pk s q) sg = false → (txOf s).num q sg = (0, 3, q) := fun sg h => numT_stop s q sg h3.1 h
          cases ha : isArc c with
          | false =>
            rw [one_plain _ _ _ (by rw [arc_next]; exact ha), if_pos rfl]
            exact hN _ (by rw [ha] at hst; exact hst)
          | true =>
            rw [one_num _ _ (by rw [arc_next]; exact ha) (by omega), if_pos rfl]
            exact hN _ (by rw [ha] at hst; exact hst)
        obtain ⟨m, hm⟩ : ∃ m, cntL (nextL c) = m + 1 := ⟨cntL (nextL c) - 1, by omega⟩
        rw [hm, args_step, ho]
        rfl
      · have : (decide (q < s.size) && decide (cntL (pk s q) = 99)) = false := by
          cases ha : decide (q < s.size) with
          | false => rfl
          | true => cases hb' : decide (cntL (pk s q) = 99) with
            | false => rfl
            | true => exact absurd ⟨of_decide_eq_true ha, of_decide_eq_true hb'⟩ h3
        rw [this]; rfl
theorem more_le (s : ByteArray) (j : Nat) (hj : j ≤ s.size) : j ≤ (moreL s j).2 ∧ (moreL s j).2 ≤ s.size := by
  have hq := blk_drop_le s j hj
  unfold moreL
  dsimp only
  split
  · have := gap_drop_le s 0 _ hq
    exact ⟨by omega, this⟩
  · exact ⟨by omega, hq⟩
/-- Where no more group must be there, all blanks are behind. -/
theorem more_blk (s : ByteArray) (j : Nat) (h : (moreL s j).1 = false) : blk (s.data.toList.drop (moreL s j).2) = 0 := by
  unfold moreL at *
  dsimp only at *
  split
  · rename_i hg; rw [if_pos hg] at h; cases h
  · exact blk_idem s j
theorem bad_iff (out : List Cmd) (c : Nat) : badL (!decide (out = [])) c = true ↔ (cntL c = 99 ∨ (out = [] ∧ c ≠ 77 ∧ c ≠ 109)) := by
  unfold badL knownL opensL
  by_cases h : cntL c = 99 <;> by_cases h1 : out = [] <;> by_cases h2 : c = 77 <;> by_cases h3 : c = 109 <;> simp_all
end Go.Proofs.YtgiibcnakiggaaaDoor
