/-
  What norm's Normal answers is right.
-/
import Derived.Test.YtgiibcnakiggaaaGreatDoorNormNormal
import Derived.Test.YtgiibcnakiggaaaGreatDoorNormRightM
namespace Go.Proofs.YtgiibcnakiggaaaGreatDoor

theorem cap_arc {c : Nat} (h : capL c = 65) : isArc c = true := by
  unfold capL at h
  have : c = 65 ∨ c = 97 := by split at h <;> omega
  rcases this with rfl | rfl <;> rfl
theorem radii_ok {x : Cmd} (h : CmdOk x) (hc : capL x.letter = 65) : 0 ≤ nA x.args 0 ∧ 0 ≤ nA x.args 1 := by
  obtain ⟨c, args⟩ := x
  obtain ⟨h1, h2, h3⟩ := h
  have ha := cap_arc hc
  have hn : args.length = 7 := by
    rw [← show cntL c = args.length from h1]
    have : c = 65 ∨ c = 97 := by simpa [isArc] using ha
    rcases this with rfl | rfl <;> decide
  match args, hn with
  | a :: b :: t, _ =>
    obtain ⟨g0, g1, _⟩ := h3
    exact ⟨(g0.2.2 ha).1 (by decide), (g1.2.2 ha).1 (by decide)⟩
theorem norm_right (l : List Cmd) (h : (normS l).2.2 = 0) : RightR (normS l).1 := by
  unfold normS at *
  split at h
  · exact absurd h (by show ¬ (1 : Int) = 0; decide)
  · rename_i h1
    split at h
    · exact absurd h (by show ¬ (2 : Int) = 0; decide)
    · rename_i h2
      rw [if_neg h1, if_neg h2]
      obtain ⟨m1, m2⟩ := wrong_may l 0 h1
      have e := bring_walk l NS.zero [] 0 0 rel_zero (fun x hx => (m1 x hx).w) (fun _ => m2 rfl)
      show RightR (bringL NS.zero l 0).1
      rw [e]
      exact walk_right l [] 0 0 (fun i hi => absurd hi (Nat.not_lt_zero _)) (fun x hx => ⟨(m1 x hx).w, fun k => radii_ok (m1 x hx) k⟩)
theorem doc_i {l : List Seg} {g : Seg} (h : docP l g) : SegI g := by
  obtain ⟨⟨h1, h2, h3, h4, h5, h6, h7, h8, _⟩, _⟩ := h
  exact ⟨⟨by omega, by omega⟩, h3.1.w.i64, h3.2.w.i64, h4.1.w.i64, h4.2.w.i64, h5.1.w.i64, h5.2.w.i64, h6.w.i64, h7.w.i64, h8.w.i64⟩
theorem right_i {l : List Seg} (h : RightR l) : ∀ g ∈ l, SegI g := by
  intro g hg
  obtain ⟨i, hi, rfl⟩ := List.mem_iff_getElem.1 hg
  have := doc_i (h i hi)
  simpa [List.getD, List.getElem?_eq_getElem hi] using this
end Go.Proofs.YtgiibcnakiggaaaGreatDoor
