/-
  The laws' first question: the document's example holds.
-/
import Derived.Test.YtmfibmcmbbelgaaDoorScanNum
namespace Go.Proofs.YtmfibmcmbbelgaaDoor
open Go.RowKit Go.Shelf

def exT : ByteArray := ⟨#[49, 46, 53, 45, 50]⟩
theorem exT_a : nmE exT 0 true = 3 ∧ nmW exT 0 true = true := by decide +kernel
theorem exT_b : nmE exT 3 true = 5 ∧ nmW exT 3 true = true := by decide +kernel
theorem wakes5 (w : World) (T : STabs w) : Calls Tryd.prog 7 #[] w fun e w' => e = .returned (.bool true) ∧ Below w.heap.size w w' := by
  have A := Lib.hid (fun w T => Parse_num ⟨#[49, 46, 53]⟩ [] [49] true [53] none w (by decide) T ⟨Or.inl rfl, by unfold AllDig; decide, by unfold AllDig; decide, (fun e => by cases e), by decide, trivial, rfl⟩)
  have B := Lib.hid (fun w T => Parse_num ⟨#[45, 50]⟩ [45] [50] false [] none w (by decide) T ⟨Or.inr (Or.inr rfl), by unfold AllDig; decide, by unfold AllDig; decide, (fun _ => rfl), by decide, trivial, rfl⟩)
  rw [show ansF [] [49] [53] none = (98304, 0) from by decide +kernel] at A
  rw [show ansF [45] [50] [] none = (-131072, 0) from by decide +kernel] at B
  have xa : exT.extract 0 3 = ⟨#[49, 46, 53]⟩ := by decide +kernel
  have xb : exT.extract 3 5 = ⟨#[45, 50]⟩ := by decide +kernel
  have sz : exT.size = 5 := rfl
  have C := Lib.hid (New_any exT)
  have N1 := Lib.hid (fun b w (H : Rdr b exT 0 w) T => Number_ok b exT 0 true (98304, 0) w H (by rw [sz]; decide) (by omega) T exT_a.2 (by rw [exT_a.1, xa]; exact A.out))
  have N2 := Lib.hid (fun b w (H : Rdr b exT 3 w) T => Number_ok b exT 3 true (-131072, 0) w H (by rw [sz]; decide) (by rw [sz]; decide) T exT_b.2 (by rw [exT_b.1, xb]; exact B.out))
  have L := Lib.hid (fun b w (H : Rdr b exT 5 w) => Left_any b exT 5 w H (by rw [sz]; decide) (by rw [sz]; decide))
  simp only [if_true, exT_a.1] at N1
  simp only [if_true, exT_b.1] at N2
  have HT := Lib.hid T
  have gs := T.tabs.size
  clear T A B xa xb
  have ex : (⟨#[49, 46, 53, 45, 50]⟩ : ByteArray) = exT := rfl
  rw [sz] at L
  go_enter Tryd.func7, Tryd.ntmps7
  go_wp2_with fail
  refine (C.out _).mono ?_
  rintro e w1 ⟨rfl, R1, b1⟩
  have T1 := Lib.hid (HT.out.next b1)
  generalize hgen : w.heap.size = g at *
  have B1 := Lib.hid b1
  go_wp2_with fail
  refine (N1.out g _ R1 T1.out).mono ?_
  rintro e w2 ⟨rfl, b2, R2⟩
  have T2 := Lib.hid (T1.out.turned b2 gs)
  have B2 := Lib.hid (B1.out.trans (b2.below (Nat.le_refl _) (by rw [← hgen]; exact b1.size)))
  go_wp2_with fail
  refine (N2.out g _ R2 T2.out).mono ?_
  rintro e w3 ⟨rfl, b3, R3⟩
  have B3 := Lib.hid (B2.out.trans (b3.below (Nat.le_refl _) (by have := R2.lt; omega)))
  go_wp2_with fail
  refine (L.out g _ R3).mono ?_
  rintro e w4 ⟨rfl, b4, R4⟩
  have B4 := Lib.hid (B3.out.trans (b4.mono (by have := R3.lt; omega)))
  go_wp2_with fail
  go_ret
  exact ⟨rfl, by rw [hgen]; exact B4.out⟩
end Go.Proofs.YtmfibmcmbbelgaaDoor
