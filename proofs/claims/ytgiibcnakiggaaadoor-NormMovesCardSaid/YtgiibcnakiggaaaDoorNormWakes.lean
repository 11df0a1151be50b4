/-
  The first question of layer 7's laws: the document's example holds.
-/
import Derived.Test.YtgiibcnakiggaaaDoorNormParse
import Derived.Test.YtgiibcnakiggaaaDoorNormSame
namespace Go.Proofs.YtgiibcnakiggaaaDoor
open Go.RowKit Go.Shelf

/-- A number of one digit. -/
theorem num_digit7 (s : ByteArray) (k : Nat) (d : UInt8) (z : Int) (hs : s.size ≤ 100) (hk : k ≤ s.size) (he : nmE s k true = k + 1) (hw : nmW s k true = true) (hx : s.extract k (k + 1) = ⟨#[d]⟩) (hn : IsNum [d] [] [d] false [] none) (ha : ansF [] [d] [] none = (z, 0)) : numT s k true = (z, 0, k + 1) := by
  have A := ansT_spec (s.extract k (nmE s k true)) (ext_size s k true hk (Nat.le_trans hs (by decide)))
  rw [he, hx] at A
  have := A.2.2.1 _ _ _ _ _ hn
  rw [ha] at this
  unfold numT numX
  rw [if_pos hw, he, hx, this]; rfl
def exN : ByteArray := ⟨#[77, 32, 49, 32, 49, 32, 104, 32, 50, 32, 122, 32, 108, 32, 49, 32, 48]⟩
noncomputable def numN (i : Nat) (sg : Bool) : Int × Int × Nat :=
  if sg = true ∧ i = 2 then (65536, 0, 3) else if sg = true ∧ i = 4 then (65536, 0, 5) else if sg = true ∧ i = 8 then (131072, 0, 9) else if sg = true ∧ i = 14 then (65536, 0, 15) else if sg = true ∧ i = 16 then (0, 0, 17) else numT exN i sg
theorem numN_eq : numT exN = numN := by
  funext i sg
  unfold numN
  split
  · rename_i h; obtain ⟨rfl, rfl⟩ := h
    exact num_digit7 exN 2 49 65536 (by decide) (by decide) (by decide +kernel) (by decide +kernel) (by decide +kernel) ⟨Or.inl rfl, by unfold AllDig; decide, by unfold AllDig; decide, (fun _ => rfl), by decide, trivial, rfl⟩ (by decide +kernel)
  split
  · rename_i h; obtain ⟨rfl, rfl⟩ := h
    exact num_digit7 exN 4 49 65536 (by decide) (by decide) (by decide +kernel) (by decide +kernel) (by decide +kernel) ⟨Or.inl rfl, by unfold AllDig; decide, by unfold AllDig; decide, (fun _ => rfl), by decide, trivial, rfl⟩ (by decide +kernel)
  split
  · rename_i h; obtain ⟨rfl, rfl⟩ := h
    exact num_digit7 exN 8 50 131072 (by decide) (by decide) (by decide +kernel) (by decide +kernel) (by decide +kernel) ⟨Or.inl rfl, by unfold AllDig; decide, by unfold AllDig; decide, (fun _ => rfl), by decide, trivial, rfl⟩ (by decide +kernel)
  split
  · rename_i h; obtain ⟨rfl, rfl⟩ := h
    exact num_digit7 exN 14 49 65536 (by decide) (by decide) (by decide +kernel) (by decide +kernel) (by decide +kernel) ⟨Or.inl rfl, by unfold AllDig; decide, by unfold AllDig; decide, (fun _ => rfl), by decide, trivial, rfl⟩ (by decide +kernel)
  split
  · rename_i h; obtain ⟨rfl, rfl⟩ := h
    exact num_digit7 exN 16 48 0 (by decide) (by decide) (by decide +kernel) (by decide +kernel) (by decide +kernel) ⟨Or.inl rfl, by unfold AllDig; decide, by unfold AllDig; decide, (fun _ => rfl), by decide, trivial, rfl⟩ (by decide +kernel)
  rfl
theorem exN_all : pathAll (txOf exN) = ([⟨77, [65536, 65536]⟩, ⟨104, [131072]⟩, ⟨122, []⟩, ⟨108, [65536, 0]⟩], -1, 0) := by
  unfold txOf
  rw [numN_eq]
  kernel_rfl
def wantN : List Seg := [segS 1 65536 65536 0 0 0 0, segS 2 196608 65536 0 0 0 0, segS 6 65536 65536 0 0 0 0, segS 1 65536 65536 0 0 0 0, segS 2 131072 65536 0 0 0 0]
theorem exN_bring : bringL NS.zero [⟨77, [65536, 65536]⟩, ⟨104, [131072]⟩, ⟨122, []⟩, ⟨108, [65536, 0]⟩] 0 = (wantN, -1) := by kernel_rfl
theorem exN_parse : parseS exN = (wantN, -1, 0) := by
  unfold parseS
  rw [exN_all]
  show (if 0 ≤ (bringL NS.zero [⟨77, [65536, 65536]⟩, ⟨104, [131072]⟩, ⟨122, []⟩, ⟨108, [65536, 0]⟩] 0).2 then _ else ((bringL NS.zero [⟨77, [65536, 65536]⟩, ⟨104, [131072]⟩, ⟨122, []⟩, ⟨108, [65536, 0]⟩] 0).1, (-1 : Int), (0 : Int))) = _
  rw [exN_bring]
  rfl
theorem RdS.of_block {n : Nat} {l : List Seg} {W : World} (h : W.heap[n]? = some (.cells (flatS l).toArray 43)) : RdS (some ⟨n, 0, none⟩) l W := by
  refine .inr ⟨n, 0, rfl, (Array.getElem?_eq_some_iff.1 h).1, fun i hi => ?_⟩
  have hx : l[i]? = some (l.getD i zeroS) := by simp [List.getD, List.getElem?_eq_getElem hi]
  have C : ∀ j (hj : j < 12) u (hu : (l.getD i zeroS).cells[j]? = some u), W.cell? ⟨n, 0 + i * 12 + j, none⟩ = some u := fun j hj u hu => by
    have := (flatS_at l i _ hx j hj).trans hu
    rw [Nat.zero_add]
    unfold World.cell?
    rw [h]
    show (flatS l).toArray[i * 12 + j]? = some u
    rw [List.getElem?_toArray]; exact this
  exact ⟨C 0 (by decide) _ rfl, C 1 (by decide) _ rfl, C 2 (by decide) _ rfl, C 3 (by decide) _ rfl, C 4 (by decide) _ rfl, C 5 (by decide) _ rfl, C 6 (by decide) _ rfl, C 7 (by decide) _ rfl, C 8 (by decide) _ rfl, C 9 (by decide) _ rfl, C 10 (by decide) _ rfl, C 11 (by decide) _ rfl⟩
theorem point_any (x y x' y' : Int) (w : World) (hx : IntKind.i64.wrap (x * 65536) = x') (hy : IntKind.i64.wrap (y * 65536) = y') : Calls Tryd.prog 24 #[.int .i64 x, .int .i64 y] w fun e w' => e = .returned (.agg #[.int .i64 x', .int .i64 y']) ∧ Below w.heap.size w w' := by
  have P := PtAt.new w x' y'
  have b0 := (Below.refl w.heap.size w).alloc (Nat.le_refl _) (.cells #[.int .i64 x', .int .i64 y'] 41)
  have HP := Lib.hid P
  have HB := Lib.hid b0
  clear P b0
  go_enter Tryd.func24, Tryd.ntmps24
  go_wp2_with fail
  exact pt_close Tryd.results24 HP.out HB.out rfl
set_option maxRecDepth 100000 in
set_option maxHeartbeats 4000000 in
theorem wakes7 (w : World) (T : PTabs w) : Calls Tryd.prog 10 #[] w fun e w' => e = .returned (.bool true) ∧ Below w.heap.size w w' := by
  have A := Lib.hid (NParse_any exN w (by decide) (by rw [exN_all]; decide) T)
  rw [exN_parse] at A
  have P1 := Lib.hid (fun w => point_any 1 1 65536 65536 w (by decide) (by decide))
  have P2 := Lib.hid (fun w => point_any 3 1 196608 65536 w (by decide) (by decide))
  have P3 := Lib.hid (fun w => point_any 2 1 131072 65536 w (by decide) (by decide))
  have ea : (⟨#[77, 32, 49, 32, 49, 32, 104, 32, 50, 32, 122, 32, 108, 32, 49, 32, 48]⟩ : ByteArray) = exN := rfl
  clear T
  go_enter Tryd.func10, Tryd.ntmps10
  go_wp2_with fail
  refine A.out.mono ?_
  rintro e w1 ⟨a, cap, rfl, hrd, _, b1⟩
  have R1 := Lib.hid hrd
  have B1 := Lib.hid b1
  clear hrd b1 A
  go_wp2_with fail
  refine (P1.out _).mono ?_
  rintro e w2 ⟨rfl, b2⟩
  have B2 := Lib.hid b2
  clear b2
  go_wp2_with fail
  refine (P2.out _).mono ?_
  rintro e w3 ⟨rfl, b3⟩
  have B3 := Lib.hid (B2.out.trans (b3.mono B2.out.size))
  clear b3
  go_wp2_with fail
  refine (P1.out _).mono ?_
  rintro e w4 ⟨rfl, b4⟩
  have B4 := Lib.hid (B3.out.trans (b4.mono B3.out.size))
  clear b4
  go_wp2_with fail
  refine (P1.out _).mono ?_
  rintro e w5 ⟨rfl, b5⟩
  have B5 := Lib.hid (B4.out.trans (b5.mono B4.out.size))
  clear b5
  go_wp2_with fail
  refine (P3.out _).mono ?_
  rintro e w6 ⟨rfl, b6⟩
  have B6 := Lib.hid (B5.out.trans (b6.mono B5.out.size))
  clear b6 B2 B3 B4 B5 P1 P2 P3
  go_wp2_with fail
  have hn := World.alloc_heap_new w6 (.cells (flatS wantN).toArray 43)
  have ba := (Below.refl w6.heap.size w6).alloc (Nat.le_refl _) (.cells (flatS wantN).toArray 43)
  have SM := Lib.hid (same7_any a (some ⟨w6.heap.size, 0, none⟩) wantN cap 5 _ (by decide) ((R1.out.next B6.out).next ba) (RdS.of_block hn))
  have BF := Lib.hid (B1.out.trans ((B6.out.trans (ba.mono B6.out.size)).mono B1.out.size))
  clear hn ba R1 B1 B6
  refine SM.out.mono ?_
  rintro e w7 ⟨rfl, b7⟩
  have B7 := Lib.hid (BF.out.trans (b7.mono BF.out.size))
  clear b7 SM BF
  go_wp2_with fail
  go_ret
  exact ⟨rfl, B7.out⟩
end Go.Proofs.YtgiibcnakiggaaaDoor
