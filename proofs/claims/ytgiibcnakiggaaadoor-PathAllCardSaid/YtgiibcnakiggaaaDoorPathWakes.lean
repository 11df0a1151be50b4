/-
  The laws' first question: the document's examples hold.
-/
import Derived.Test.YtgiibcnakiggaaaDoorPathRd
namespace Go.Proofs.YtgiibcnakiggaaaDoor
open Go.RowKit Go.Shelf

/-- A number of one digit. -/
theorem num_digit (s : ByteArray) (k : Nat) (d : UInt8) (z : Int) (hs : s.size ≤ 100) (hk : k ≤ s.size) (he : nmE s k true = k + 1) (hw : nmW s k true = true) (hx : s.extract k (k + 1) = ⟨#[d]⟩) (hn : IsNum [d] [] [d] false [] none) (ha : ansF [] [d] [] none = (z, 0)) : numT s k true = (z, 0, k + 1) := by
  have A := ansT_spec (s.extract k (nmE s k true)) (ext_size s k true hk (Nat.le_trans hs (by decide)))
  rw [he, hx] at A
  have := A.2.2.1 _ _ _ _ _ hn
  rw [ha] at this
  unfold numT numX
  rw [if_pos hw, he, hx, this]; rfl

def exA : ByteArray := ⟨#[77, 49, 32, 50, 32, 51, 32, 52, 122]⟩
def exB : ByteArray := ⟨#[77, 49, 32, 50, 44, 76, 51, 32, 52]⟩
noncomputable def numA (i : Nat) (sg : Bool) : Int × Int × Nat :=
  if sg = true ∧ i = 1 then (65536, 0, 2) else if sg = true ∧ i = 3 then (131072, 0, 4) else if sg = true ∧ i = 5 then (196608, 0, 6) else if sg = true ∧ i = 7 then (262144, 0, 8) else numT exA i sg
noncomputable def numB (i : Nat) (sg : Bool) : Int × Int × Nat :=
  if sg = true ∧ i = 1 then (65536, 0, 2) else if sg = true ∧ i = 3 then (131072, 0, 4) else if sg = true ∧ i = 5 then (0, 3, 5) else numT exB i sg
theorem numA_eq : numT exA = numA := by
  funext i sg
  unfold numA
  split
  · rename_i h; obtain ⟨rfl, rfl⟩ := h
    exact num_digit exA 1 49 65536 (by decide) (by decide) (by decide +kernel) (by decide +kernel) (by decide +kernel) ⟨Or.inl rfl, by unfold AllDig; decide, by unfold AllDig; decide, (fun _ => rfl), by decide, trivial, rfl⟩ (by decide +kernel)
  split
  · rename_i h; obtain ⟨rfl, rfl⟩ := h
    exact num_digit exA 3 50 131072 (by decide) (by decide) (by decide +kernel) (by decide +kernel) (by decide +kernel) ⟨Or.inl rfl, by unfold AllDig; decide, by unfold AllDig; decide, (fun _ => rfl), by decide, trivial, rfl⟩ (by decide +kernel)
  split
  · rename_i h; obtain ⟨rfl, rfl⟩ := h
    exact num_digit exA 5 51 196608 (by decide) (by decide) (by decide +kernel) (by decide +kernel) (by decide +kernel) ⟨Or.inl rfl, by unfold AllDig; decide, by unfold AllDig; decide, (fun _ => rfl), by decide, trivial, rfl⟩ (by decide +kernel)
  split
  · rename_i h; obtain ⟨rfl, rfl⟩ := h
    exact num_digit exA 7 52 262144 (by decide) (by decide) (by decide +kernel) (by decide +kernel) (by decide +kernel) ⟨Or.inl rfl, by unfold AllDig; decide, by unfold AllDig; decide, (fun _ => rfl), by decide, trivial, rfl⟩ (by decide +kernel)
  rfl
theorem numB_eq : numT exB = numB := by
  funext i sg
  unfold numB
  split
  · rename_i h; obtain ⟨rfl, rfl⟩ := h
    exact num_digit exB 1 49 65536 (by decide) (by decide) (by decide +kernel) (by decide +kernel) (by decide +kernel) ⟨Or.inl rfl, by unfold AllDig; decide, by unfold AllDig; decide, (fun _ => rfl), by decide, trivial, rfl⟩ (by decide +kernel)
  split
  · rename_i h; obtain ⟨rfl, rfl⟩ := h
    exact num_digit exB 3 50 131072 (by decide) (by decide) (by decide +kernel) (by decide +kernel) (by decide +kernel) ⟨Or.inl rfl, by unfold AllDig; decide, by unfold AllDig; decide, (fun _ => rfl), by decide, trivial, rfl⟩ (by decide +kernel)
  split
  · rename_i h; obtain ⟨rfl, rfl⟩ := h
    exact numT_stop exB 5 true (by decide) (by decide +kernel)
  rfl
theorem exA_all : pathAll (txOf exA) = ([⟨77, [65536, 131072]⟩, ⟨76, [196608, 262144]⟩, ⟨122, []⟩], -1, 0) := by
  unfold txOf
  rw [numA_eq]
  kernel_rfl
theorem exB_all : pathAll (txOf exB) = ([⟨77, [65536, 131072]⟩], 5, 3) := by
  unfold txOf
  rw [numB_eq]
  kernel_rfl

theorem wakes6 (w : World) (T : PTabs w) : Calls Tryd.prog 6 #[] w fun e w' => e = .returned (.bool true) ∧ Below w.heap.size w w' := by
  have A := Lib.hid (fun w T => PParse_any exA w (by decide) T)
  have B := Lib.hid (fun w T => PParse_any exB w (by decide) T)
  unfold PParsePost at A B
  rw [exA_all] at A
  rw [exB_all] at B
  have HT := Lib.hid T
  clear T
  have ea : (⟨#[77, 49, 32, 50, 32, 51, 32, 52, 122]⟩ : ByteArray) = exA := rfl
  have eb : (⟨#[77, 49, 32, 50, 44, 76, 51, 32, 52]⟩ : ByteArray) = exB := rfl
  go_enter Tryd.func6, Tryd.ntmps6
  go_wp2_with fail
  refine (A.out _ HT.out).mono ?_
  rintro e w1 ⟨v, rfl, hc, b1⟩
  have T1 := Lib.hid (HT.out.next b1)
  have B1 := Lib.hid b1
  obtain ⟨a, cap, rfl, hr⟩ := hc.reads (by intro x hx; simp at hx; rcases hx with rfl | rfl | rfl <;> (unfold maxLen; decide))
  have HR := Lib.hid hr
  clear hc b1 hr
  go_wp2_with fail
  refine (B.out _ T1.out).mono ?_
  rintro e w2 ⟨v, rfl, hc, b2⟩
  have B2 := Lib.hid (B1.out.trans (b2.mono B1.out.size))
  obtain ⟨a2, cap2, rfl⟩ := hc.shape
  obtain ⟨b, off, rfl, hb, hall⟩ := (HR.out.next b2).pos (by decide)
  obtain ⟨aa, ac, hat⟩ := hall 1 (by decide)
  have c0 : w2.cell? ⟨b, off + 2, none⟩ = some (.int .u8 76) := hat.c0
  clear hc b2 hall hat HR
  go_wp2_with fail
  go_ret
  exact ⟨rfl, B2.out⟩
end Go.Proofs.YtgiibcnakiggaaaDoor
