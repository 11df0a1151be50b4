/-
  The laws' first question: the document's examples hold.
-/
import Derived.Test.YtfikkfiihknccaaDoorDecFar
namespace Go.Proofs.YtfikkfiihknccaaDoor
open Go.RowKit Go.Shelf

theorem wakes_any (w : World) (T : Tabs w) : Calls Tryd.prog 7 #[] w fun e w' => e = .returned (.bool true) ∧ Below w.heap.size w w' := by
  have A := Lib.hid (fun w T => Parse_num ⟨#[49, 46, 53]⟩ [] [49] true [53] none w (by decide) T ⟨Or.inl rfl, by unfold AllDig; decide, by unfold AllDig; decide, (fun e => by cases e), by decide, trivial, rfl⟩)
  have B := Lib.hid (fun w T => Parse_num ⟨#[45, 46, 53, 101, 49]⟩ [45] [] true [53] (some (101, [], [49])) w (by decide) T ⟨Or.inr (Or.inr rfl), by unfold AllDig; decide, by unfold AllDig; decide, (fun e => by cases e), by decide, ⟨by decide, Or.inl rfl, by unfold AllDig; decide, by decide⟩, rfl⟩)
  have C := Lib.hid (fun w T => Parse_bad ⟨#[49, 101]⟩ w (by decide) T (by unfold Acc; decide))
  have D := Lib.hid (fun w T => Parse_num ⟨#[54, 53, 53, 51, 54]⟩ [] [54, 53, 53, 51, 54] false [] none w (by decide) T ⟨Or.inl rfl, by unfold AllDig; decide, by unfold AllDig; decide, fun _ => rfl, by decide, trivial, rfl⟩)
  rw [show ansF [] [49] [53] none = (98304, 0) from by decide +kernel] at A
  rw [show ansF [45] [] [53] (some (101, [], [49])) = (-327680, 0) from by decide +kernel] at B
  rw [show ansF [] [54, 53, 53, 51, 54] [] none = (0, 2) from by decide +kernel] at D
  unfold Tells at A B C D
  have HT := Lib.hid T
  clear T
  go_enter Tryd.func7, Tryd.ntmps7
  go_wp2_with fail
  refine (A.out _ HT.out).mono ?_
  rintro e w1 ⟨rfl, b1⟩
  have T1 := Lib.hid (HT.out.next b1)
  go_wp2_with fail
  refine (B.out _ T1.out).mono ?_
  rintro e w2 ⟨rfl, b2⟩
  have T2 := Lib.hid (T1.out.next b2)
  go_wp2_with fail
  refine (C.out _ T2.out).mono ?_
  rintro e w3 ⟨rfl, b3⟩
  have T3 := Lib.hid (T2.out.next b3)
  go_wp2_with fail
  refine (D.out _ T3.out).mono ?_
  rintro e w4 ⟨rfl, b4⟩
  go_wp2
  go_ret
  have s1 := b1.size; have s2 := b2.size; have s3 := b3.size
  exact ⟨rfl, ((b1.trans (b2.mono s1)).trans (b3.mono (by omega))).trans (b4.mono (by omega))⟩
end Go.Proofs.YtfikkfiihknccaaDoor
