/-
  A text has no more groups than bytes.
-/
import Derived.Test.YtgiibcnakiggaaaGreatDoorPathRun
namespace Go.Proofs.YtgiibcnakiggaaaGreatDoor

/-- There are no more groups than bytes. -/
theorem path_count_go {X : Tx} (H : X.Ok) : ∀ (f : Nat) (st : Option Nat) (i : Nat) (out : List Cmd), i ≤ X.len → (∀ c, st = some c → 0 < cntL c) → out.length ≤ i → (pathL X f st i out).1.length ≤ X.len := by
  intro f
  induction f with
  | zero => intro st i out hi _ h; cases st <;> exact Nat.le_trans h hi
  | succ f ih =>
    intro st i out hi hst h
    cases st with
    | none =>
      unfold pathL
      split
      · rename_i h1
        have hb := H.blk (i + 1) (by omega)
        split
        · exact Nat.le_trans h hi
        · split
          · exact ih _ _ _ hb.2 (fun _ e => by cases e) (by simp; omega)
          · rename_i h2 h3
            exact ih _ _ _ hb.2 (fun c e => by cases e; omega) (by omega)
      · exact Nat.le_trans h hi
    | some c =>
      have hc := hst c rfl
      have hn : ∀ c', some (nextL c) = some c' → 0 < cntL c' := fun c' e => by cases e; exact cnt_next c hc
      have M := args_mono H c (cntL c) 0 i [] hi
      unfold pathL
      cases he : argsL X c (cntL c) 0 i [] with
      | inr y => exact Nat.le_trans h hi
      | inl y =>
        obtain ⟨xs, j⟩ := y
        have hj := M.1 _ _ he
        have hlt := hj.2.2 hc
        have hb := H.blk j hj.2.1
        have hg := H.gap (X.blkA j) hb.2
        simp only
        split
        · exact ih _ _ _ hg.2 hn (by simp; omega)
        · split
          · exact ih _ _ _ hb.2 hn (by simp; omega)
          · exact ih _ _ _ hb.2 (fun _ e => by cases e) (by simp; omega)
theorem path_count (s : ByteArray) (hs : s.size ≤ 100000) : (pathAll (txOf s)).1.length ≤ s.size :=
  path_count_go (txOf_ok s hs) _ none _ [] ((txOf_ok s hs).blk 0 (Nat.zero_le _)).2 (fun _ e => by cases e) (Nat.zero_le _)
end Go.Proofs.YtgiibcnakiggaaaGreatDoor
