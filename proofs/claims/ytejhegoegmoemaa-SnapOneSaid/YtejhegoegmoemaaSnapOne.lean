/-
  PROV35: the statement of SnapOne, for every input: one edge goes somewhere just if its ends' Ys, snapped, are unlike; turned about it is snapped to the same one, turned about. (Typed by a program: wip/gen_snap4.py.)
-/
import Derived.Test.YtejhegoegmoemaaRows
import Derived.Test.YtejhegoegmoemaaSnapWakes
import Derived.Test.YtejhegoegmoemaaSnapSmall
import Derived.Test.YtejhegoegmoemaaEdgVal
namespace Go.Proofs.Ytejhegoegmoemaa.snapOne
open Go.ChangeShapes Go.WideShapes Go.ChangeAt Go.RowKit Go.Shelf

theorem edg_val (g : Edg) : g.val = .agg #[.int .i64 g.px, .int .i64 g.py, .int .i64 g.qx, .int .i64 g.qy] := rfl
theorem rd_one {q : Nat} {g : Edg} {W : World} (h : CBox q 35 #[.int .i64 g.px, .int .i64 g.py, .int .i64 g.qx, .int .i64 g.qy] W) : RdE (some ⟨q, 0, none⟩) [g] W :=
  .inr ⟨q, 0, rfl, h.lt, fun j u hj => by
    have hj' : (#[Value.int .i64 g.px, .int .i64 g.py, .int .i64 g.qx, .int .i64 g.qy] : Array Value)[j]? = some u := by
      have : edgL.flat [g] = [.int .i64 g.px, .int .i64 g.py, .int .i64 g.qx, .int .i64 g.qy] := rfl
      rw [this] at hj
      simpa using hj
    rw [Nat.zero_add]
    exact h.c j hj'⟩
set_option maxHeartbeats 4000000 in
set_option maxRecDepth 100000 in
theorem walk (g : Edg) (_ : EdgI g) (w : World) :
    Calls Try.prog 5 #[.agg #[.int .i64 g.px, .int .i64 g.py, .int .i64 g.qx, .int .i64 g.qy]] w fun e w' => e = .returned (.bool true) ∧ Below w.heap.size w w' := by
  have K := Lib.hid (fun w => wakes14 w)
  have SM := Lib.hid (fun q w h => rsmall14 (some ⟨q, 0, none⟩) [g] 1 w (by simp) (rd_one (q := q) h))
  have hs : decide (∀ g' ∈ [g], EdgS g') = decide (EdgS g) := by simp
  rw [hs] at SM
  clear hs
  by_cases hg : EdgS g
  rotate_left
  · rw [decide_eq_false hg] at SM
    clear hg
    obtain ⟨px, py, qx, qy⟩ := g
    dsimp only [List.length_cons, List.length_nil] at *
    have HE0 := Lib.hid (CBox.new w 35 #[.int .i64 px, .int .i64 py, .int .i64 qx, .int .i64 qy])
    have HB0 := Lib.hid ((Below.refl w.heap.size w).alloc (Nat.le_refl _) (.cells #[.int .i64 px, .int .i64 py, .int .i64 qx, .int .i64 qy] 35))
    go_enter Try.func5, Try.ntmps5
    go_upto_region 1 with fail
    generalize w.alloc (.cells #[.int .i64 px, .int .i64 py, .int .i64 qx, .int .i64 qy] 35) = w1 at *
    go_wp2_with fail
    refine (K.out _).mono ?_
    rintro e w2 ⟨rfl, b1⟩
    have HB1 := Lib.hid (HB0.out.trans (b1.mono HB0.out.size)); have HE1 := Lib.hid (HE0.out.next b1)
    clear b1
    have x0 : w2.cell? ⟨w.heap.size, 0, none⟩ = some (.int .i64 px) := HE1.out.c 0 rfl
    have x1 : w2.cell? ⟨w.heap.size, 1, none⟩ = some (.int .i64 py) := HE1.out.c 1 rfl
    have x2 : w2.cell? ⟨w.heap.size, 2, none⟩ = some (.int .i64 qx) := HE1.out.c 2 rfl
    have x3 : w2.cell? ⟨w.heap.size, 3, none⟩ = some (.int .i64 qy) := HE1.out.c 3 rfl
    go_wp2_with fail
    refine (SM.out _ _ (CBox.new w2 35 _)).mono ?_
    rintro e w3 ⟨rfl, b3⟩
    have b2 := ((Below.refl w2.heap.size w2).alloc (Nat.le_refl _) (.cells #[.int .i64 px, .int .i64 py, .int .i64 qx, .int .i64 qy] 35))
    have HB3 := Lib.hid (HB1.out.trans ((b2.trans (b3.mono b2.size)).mono HB1.out.size))
    clear b2 b3 x0 x1 x2 x3
    go_wp2_with fail
    go_ret
    exact ⟨rfl, HB3.out⟩
  rw [decide_eq_true hg] at SM
  have hb : EdgS (backE g) := ⟨hg.2, hg.1⟩
  have EA := Lib.hid (fun w => edge_any g w hg)
  have EB := Lib.hid (fun w => edge_any (backE g) w hb)
  have NA := Lib.hid (fun w => rnumber_b g.py w hg.1.2)
  have NB := Lib.hid (fun w => rnumber_b g.qy w hg.2.2)
  have PA := Lib.hid (fun w => rpoint_any g.px g.py w hg.1.1 hg.1.2)
  have PB := Lib.hid (fun w => rpoint_any g.qx g.qy w hg.2.1 hg.2.2)
  clear hb hg
  rw [edg_val] at EA EB
  rw [edg_val] at EA EB
  by_cases hG : Goes14 g
  ·
    obtain ⟨px, py, qx, qy⟩ := g
    have e1 : snapO ⟨px, py, qx, qy⟩ = ⟨snapN px, snapN py, snapN qx, snapN qy⟩ := if_pos hG
    have e2 : snapO (backE ⟨px, py, qx, qy⟩) = ⟨snapN qx, snapN qy, snapN px, snapN py⟩ := if_pos ((goes_back _).2 hG)
    rw [e1, decide_eq_true hG] at EA
    rw [e2, decide_eq_true ((goes_back _).2 hG)] at EB
    have hne : (snapN py != snapN qy) = true := bne_iff_ne.2 hG
    clear e1 e2 hG
    unfold backE at EB
    dsimp only at EA EB NA NB PA PB SM ⊢
    generalize snapN px = X at *
    generalize snapN py = Y at *
    generalize snapN qx = U at *
    generalize snapN qy = V at *
    have HE0 := Lib.hid (CBox.new w 35 #[.int .i64 px, .int .i64 py, .int .i64 qx, .int .i64 qy])
    have HB0 := Lib.hid ((Below.refl w.heap.size w).alloc (Nat.le_refl _) (.cells #[.int .i64 px, .int .i64 py, .int .i64 qx, .int .i64 qy] 35))
    go_enter Try.func5, Try.ntmps5
    go_upto_region 1 with fail
    generalize w.alloc (.cells #[.int .i64 px, .int .i64 py, .int .i64 qx, .int .i64 qy] 35) = w1 at *
    go_wp2_with fail
    refine (K.out _).mono ?_
    rintro e w2 ⟨rfl, b1⟩
    have HB1 := Lib.hid (HB0.out.trans (b1.mono HB0.out.size))
    have HE1 := Lib.hid (HE0.out.next b1)
    clear b1
    have xE0 : w2.cell? ⟨w.heap.size, 0, none⟩ = some (.int .i64 px) := HE1.out.c 0 rfl
    have xE1 : w2.cell? ⟨w.heap.size, 1, none⟩ = some (.int .i64 py) := HE1.out.c 1 rfl
    have xE2 : w2.cell? ⟨w.heap.size, 2, none⟩ = some (.int .i64 qx) := HE1.out.c 2 rfl
    have xE3 : w2.cell? ⟨w.heap.size, 3, none⟩ = some (.int .i64 qy) := HE1.out.c 3 rfl
    go_wp2_with fail
    refine (SM.out _ _ (CBox.new w2 35 _)).mono ?_
    rintro e w3 ⟨rfl, b3⟩
    have b2_ := ((Below.refl w2.heap.size w2).alloc (Nat.le_refl _) (.cells #[.int .i64 px, .int .i64 py, .int .i64 qx, .int .i64 qy] 35))
    have b2 := b2_.trans (b3.mono b2_.size)
    clear b2_ b3
    clear xE0 xE1 xE2 xE3
    have HB2 := Lib.hid (HB1.out.trans (b2.mono HB1.out.size))
    have HE2 := Lib.hid (HE1.out.next b2)
    clear b2
    go_upto_region 5 with fail
    have xE0 : w3.cell? ⟨w.heap.size, 0, none⟩ = some (.int .i64 px) := HE2.out.c 0 rfl
    have xE1 : w3.cell? ⟨w.heap.size, 1, none⟩ = some (.int .i64 py) := HE2.out.c 1 rfl
    have xE2 : w3.cell? ⟨w.heap.size, 2, none⟩ = some (.int .i64 qx) := HE2.out.c 2 rfl
    have xE3 : w3.cell? ⟨w.heap.size, 3, none⟩ = some (.int .i64 qy) := HE2.out.c 3 rfl
    go_wp2_with fail
    refine (EA.out _).mono ?_
    rintro e w4 ⟨rfl, b3⟩
    clear xE0 xE1 xE2 xE3
    have HB3 := Lib.hid (HB2.out.trans (b3.mono HB2.out.size))
    have HE3 := Lib.hid (HE2.out.next b3)
    clear b3
    have k1 := CBox.new w4 35 #[.int .i64 X, .int .i64 Y, .int .i64 U, .int .i64 V]
    have b4 := (Below.refl w4.heap.size w4).alloc (Nat.le_refl _) (.cells #[.int .i64 X, .int .i64 Y, .int .i64 U, .int .i64 V] 35)
    have HB4 := Lib.hid (HB3.out.trans (b4.mono HB3.out.size))
    have HE4 := Lib.hid (HE3.out.next b4)
    clear b4
    have HX4 := Lib.hid k1
    clear k1
    go_upto_region 6 with fail
    generalize w4.alloc (.cells #[.int .i64 X, .int .i64 Y, .int .i64 U, .int .i64 V] 35) = w5 at *
    generalize w4.heap.size = xq at *
    have xE0 : w5.cell? ⟨w.heap.size, 0, none⟩ = some (.int .i64 px) := HE4.out.c 0 rfl
    have xE1 : w5.cell? ⟨w.heap.size, 1, none⟩ = some (.int .i64 py) := HE4.out.c 1 rfl
    have xE2 : w5.cell? ⟨w.heap.size, 2, none⟩ = some (.int .i64 qx) := HE4.out.c 2 rfl
    have xE3 : w5.cell? ⟨w.heap.size, 3, none⟩ = some (.int .i64 qy) := HE4.out.c 3 rfl
    go_wp2_with fail
    refine (EB.out _).mono ?_
    rintro e w6 ⟨rfl, b5⟩
    clear xE0 xE1 xE2 xE3
    have HB5 := Lib.hid (HB4.out.trans (b5.mono HB4.out.size))
    have HE5 := Lib.hid (HE4.out.next b5)
    have HX5 := Lib.hid (HX4.out.next b5)
    clear b5
    have k1 := CBox.new w6 35 #[.int .i64 U, .int .i64 V, .int .i64 X, .int .i64 Y]
    have b6 := (Below.refl w6.heap.size w6).alloc (Nat.le_refl _) (.cells #[.int .i64 U, .int .i64 V, .int .i64 X, .int .i64 Y] 35)
    have HB6 := Lib.hid (HB5.out.trans (b6.mono HB5.out.size))
    have HE6 := Lib.hid (HE5.out.next b6)
    have HX6 := Lib.hid (HX5.out.next b6)
    clear b6
    have HY6 := Lib.hid k1
    clear k1
    go_upto_region 7 with fail
    generalize w6.alloc (.cells #[.int .i64 U, .int .i64 V, .int .i64 X, .int .i64 Y] 35) = w7 at *
    generalize w6.heap.size = yq at *
    have xE1 : w7.cell? ⟨w.heap.size, 1, none⟩ = some (.int .i64 py) := HE6.out.c 1 rfl
    have xE3 : w7.cell? ⟨w.heap.size, 3, none⟩ = some (.int .i64 qy) := HE6.out.c 3 rfl
    have HBz := Lib.hid (Below.refl w7.heap.size w7)
    have HBd := Lib.hid HBz.out.drew
    go_region_held3 (fun w' => w'.cell? ⟨w.heap.size, 1, none⟩ = some (.int .i64 py) ∧ w'.cell? ⟨w.heap.size, 3, none⟩ = some (.int .i64 qy)) (first | (refine ⟨?_, ?_⟩ <;> first | with_reducible assumption) | (simp [go_sem, *]; done))
      (first
      | (go_at_call 9; (with_reducible refine (NA.out _).mono ?_); rintro e v1 ⟨rfl, bc1⟩; have HBc1 := Lib.hid (HBd.out.trans (bc1.mono HBd.out.size)); clear xE1 xE3; have hE_ := HE6.out.next HBc1.out; have xE1 : v1.cell? ⟨w.heap.size, 1, none⟩ = some (.int .i64 py) := hE_.c 1 rfl; have xE3 : v1.cell? ⟨w.heap.size, 3, none⟩ = some (.int .i64 qy) := hE_.c 3 rfl; clear hE_; clear bc1)
      | (go_at_call 9; (with_reducible refine (NB.out _).mono ?_); rintro e v2 ⟨rfl, bc2⟩; have HBc2 := Lib.hid (HBc1.out.trans (bc2.mono HBc1.out.size)); clear xE1 xE3; have hE_ := HE6.out.next HBc2.out; have xE1 : v2.cell? ⟨w.heap.size, 1, none⟩ = some (.int .i64 py) := hE_.c 1 rfl; have xE3 : v2.cell? ⟨w.heap.size, 3, none⟩ = some (.int .i64 qy) := hE_.c 3 rfl; clear hE_; clear bc2)
      )
    clear xE1 xE3
    have HB7 := Lib.hid (HB6.out.trans (HBc2.out.mono HB6.out.size))
    have HE7 := Lib.hid (HE6.out.next HBc2.out)
    have HX7 := Lib.hid (HX6.out.next HBc2.out)
    have HY7 := Lib.hid (HY6.out.next HBc2.out)
    generalize v2 = w8 at *
    go_upto_region 11 with fail
    have xE0 : w8.cell? ⟨w.heap.size, 0, none⟩ = some (.int .i64 px) := HE7.out.c 0 rfl
    have xE1 : w8.cell? ⟨w.heap.size, 1, none⟩ = some (.int .i64 py) := HE7.out.c 1 rfl
    have xE2 : w8.cell? ⟨w.heap.size, 2, none⟩ = some (.int .i64 qx) := HE7.out.c 2 rfl
    have xE3 : w8.cell? ⟨w.heap.size, 3, none⟩ = some (.int .i64 qy) := HE7.out.c 3 rfl
    have xX0 : w8.cell? ⟨xq, 0, none⟩ = some (.int .i64 X) := HX7.out.c 0 rfl
    have xX1 : w8.cell? ⟨xq, 1, none⟩ = some (.int .i64 Y) := HX7.out.c 1 rfl
    have xX2 : w8.cell? ⟨xq, 2, none⟩ = some (.int .i64 U) := HX7.out.c 2 rfl
    have xX3 : w8.cell? ⟨xq, 3, none⟩ = some (.int .i64 V) := HX7.out.c 3 rfl
    have xY0 : w8.cell? ⟨yq, 0, none⟩ = some (.int .i64 U) := HY7.out.c 0 rfl
    have xY1 : w8.cell? ⟨yq, 1, none⟩ = some (.int .i64 V) := HY7.out.c 1 rfl
    have xY2 : w8.cell? ⟨yq, 2, none⟩ = some (.int .i64 X) := HY7.out.c 2 rfl
    have xY3 : w8.cell? ⟨yq, 3, none⟩ = some (.int .i64 Y) := HY7.out.c 3 rfl
    have HBz := Lib.hid (Below.refl w8.heap.size w8)
    have HBd := Lib.hid HBz.out.drew
    go_region_held3 (fun w' => w'.cell? ⟨w.heap.size, 0, none⟩ = some (.int .i64 px) ∧ w'.cell? ⟨w.heap.size, 1, none⟩ = some (.int .i64 py) ∧ w'.cell? ⟨w.heap.size, 2, none⟩ = some (.int .i64 qx) ∧ w'.cell? ⟨w.heap.size, 3, none⟩ = some (.int .i64 qy) ∧ w'.cell? ⟨xq, 0, none⟩ = some (.int .i64 X) ∧ w'.cell? ⟨xq, 1, none⟩ = some (.int .i64 Y) ∧ w'.cell? ⟨xq, 2, none⟩ = some (.int .i64 U) ∧ w'.cell? ⟨xq, 3, none⟩ = some (.int .i64 V) ∧ w'.cell? ⟨yq, 0, none⟩ = some (.int .i64 U) ∧ w'.cell? ⟨yq, 1, none⟩ = some (.int .i64 V) ∧ w'.cell? ⟨yq, 2, none⟩ = some (.int .i64 X) ∧ w'.cell? ⟨yq, 3, none⟩ = some (.int .i64 Y)) (first | (refine ⟨?_, ?_, ?_, ?_, ?_, ?_, ?_, ?_, ?_, ?_, ?_, ?_⟩ <;> first | with_reducible assumption) | (simp [go_sem, *]; done))
      (first
      | (go_at_call 17; (with_reducible refine (PA.out _).mono ?_); rintro e v1 ⟨rfl, bc1⟩; have HBc1 := Lib.hid (HBd.out.trans (bc1.mono HBd.out.size)); clear xE0 xE1 xE2 xE3 xX0 xX1 xX2 xX3 xY0 xY1 xY2 xY3; have hE_ := HE7.out.next HBc1.out; have xE0 : v1.cell? ⟨w.heap.size, 0, none⟩ = some (.int .i64 px) := hE_.c 0 rfl; have xE1 : v1.cell? ⟨w.heap.size, 1, none⟩ = some (.int .i64 py) := hE_.c 1 rfl; have xE2 : v1.cell? ⟨w.heap.size, 2, none⟩ = some (.int .i64 qx) := hE_.c 2 rfl; have xE3 : v1.cell? ⟨w.heap.size, 3, none⟩ = some (.int .i64 qy) := hE_.c 3 rfl; clear hE_; have hX_ := HX7.out.next HBc1.out; have xX0 : v1.cell? ⟨xq, 0, none⟩ = some (.int .i64 X) := hX_.c 0 rfl; have xX1 : v1.cell? ⟨xq, 1, none⟩ = some (.int .i64 Y) := hX_.c 1 rfl; have xX2 : v1.cell? ⟨xq, 2, none⟩ = some (.int .i64 U) := hX_.c 2 rfl; have xX3 : v1.cell? ⟨xq, 3, none⟩ = some (.int .i64 V) := hX_.c 3 rfl; clear hX_; have hY_ := HY7.out.next HBc1.out; have xY0 : v1.cell? ⟨yq, 0, none⟩ = some (.int .i64 U) := hY_.c 0 rfl; have xY1 : v1.cell? ⟨yq, 1, none⟩ = some (.int .i64 V) := hY_.c 1 rfl; have xY2 : v1.cell? ⟨yq, 2, none⟩ = some (.int .i64 X) := hY_.c 2 rfl; have xY3 : v1.cell? ⟨yq, 3, none⟩ = some (.int .i64 Y) := hY_.c 3 rfl; clear hY_; clear bc1)
      | (go_at_call 17; (with_reducible refine (PB.out _).mono ?_); rintro e v2 ⟨rfl, bc2⟩; have HBc2 := Lib.hid (HBc1.out.trans (bc2.mono HBc1.out.size)); clear xE0 xE1 xE2 xE3 xX0 xX1 xX2 xX3 xY0 xY1 xY2 xY3; have hE_ := HE7.out.next HBc2.out; have xE0 : v2.cell? ⟨w.heap.size, 0, none⟩ = some (.int .i64 px) := hE_.c 0 rfl; have xE1 : v2.cell? ⟨w.heap.size, 1, none⟩ = some (.int .i64 py) := hE_.c 1 rfl; have xE2 : v2.cell? ⟨w.heap.size, 2, none⟩ = some (.int .i64 qx) := hE_.c 2 rfl; have xE3 : v2.cell? ⟨w.heap.size, 3, none⟩ = some (.int .i64 qy) := hE_.c 3 rfl; clear hE_; have hX_ := HX7.out.next HBc2.out; have xX0 : v2.cell? ⟨xq, 0, none⟩ = some (.int .i64 X) := hX_.c 0 rfl; have xX1 : v2.cell? ⟨xq, 1, none⟩ = some (.int .i64 Y) := hX_.c 1 rfl; have xX2 : v2.cell? ⟨xq, 2, none⟩ = some (.int .i64 U) := hX_.c 2 rfl; have xX3 : v2.cell? ⟨xq, 3, none⟩ = some (.int .i64 V) := hX_.c 3 rfl; clear hX_; have hY_ := HY7.out.next HBc2.out; have xY0 : v2.cell? ⟨yq, 0, none⟩ = some (.int .i64 U) := hY_.c 0 rfl; have xY1 : v2.cell? ⟨yq, 1, none⟩ = some (.int .i64 V) := hY_.c 1 rfl; have xY2 : v2.cell? ⟨yq, 2, none⟩ = some (.int .i64 X) := hY_.c 2 rfl; have xY3 : v2.cell? ⟨yq, 3, none⟩ = some (.int .i64 Y) := hY_.c 3 rfl; clear hY_; clear bc2)
      )
    clear xE0 xE1 xE2 xE3 xX0 xX1 xX2 xX3 xY0 xY1 xY2 xY3
    have HB8 := Lib.hid (HB7.out.trans (HBc2.out.mono HB7.out.size))
    have HE8 := Lib.hid (HE7.out.next HBc2.out)
    go_wp2_with fail
    go_ret
    exact ⟨rfl, HB8.out⟩
  ·
    obtain ⟨px, py, qx, qy⟩ := g
    have e1 : snapO ⟨px, py, qx, qy⟩ = zeroE := if_neg hG
    have e2 : snapO (backE ⟨px, py, qx, qy⟩) = zeroE := if_neg (fun h => hG ((goes_back _).1 h))
    rw [e1, decide_eq_false hG] at EA
    rw [e2, decide_eq_false (fun h => hG ((goes_back _).1 h))] at EB
    have hne : snapN py = snapN qy := Decidable.not_not.1 hG
    clear e1 e2 hG
    unfold backE at EB
    unfold zeroE at EA EB
    dsimp only at EA EB NA NB PA PB SM ⊢
    generalize snapN px = X at *
    generalize snapN py = Y at *
    generalize snapN qx = U at *
    generalize snapN qy = V at *
    subst hne
    have HE0 := Lib.hid (CBox.new w 35 #[.int .i64 px, .int .i64 py, .int .i64 qx, .int .i64 qy])
    have HB0 := Lib.hid ((Below.refl w.heap.size w).alloc (Nat.le_refl _) (.cells #[.int .i64 px, .int .i64 py, .int .i64 qx, .int .i64 qy] 35))
    go_enter Try.func5, Try.ntmps5
    go_upto_region 1 with fail
    generalize w.alloc (.cells #[.int .i64 px, .int .i64 py, .int .i64 qx, .int .i64 qy] 35) = w1 at *
    go_wp2_with fail
    refine (K.out _).mono ?_
    rintro e w2 ⟨rfl, b1⟩
    have HB1 := Lib.hid (HB0.out.trans (b1.mono HB0.out.size))
    have HE1 := Lib.hid (HE0.out.next b1)
    clear b1
    have xE0 : w2.cell? ⟨w.heap.size, 0, none⟩ = some (.int .i64 px) := HE1.out.c 0 rfl
    have xE1 : w2.cell? ⟨w.heap.size, 1, none⟩ = some (.int .i64 py) := HE1.out.c 1 rfl
    have xE2 : w2.cell? ⟨w.heap.size, 2, none⟩ = some (.int .i64 qx) := HE1.out.c 2 rfl
    have xE3 : w2.cell? ⟨w.heap.size, 3, none⟩ = some (.int .i64 qy) := HE1.out.c 3 rfl
    go_wp2_with fail
    refine (SM.out _ _ (CBox.new w2 35 _)).mono ?_
    rintro e w3 ⟨rfl, b3⟩
    have b2_ := ((Below.refl w2.heap.size w2).alloc (Nat.le_refl _) (.cells #[.int .i64 px, .int .i64 py, .int .i64 qx, .int .i64 qy] 35))
    have b2 := b2_.trans (b3.mono b2_.size)
    clear b2_ b3
    clear xE0 xE1 xE2 xE3
    have HB2 := Lib.hid (HB1.out.trans (b2.mono HB1.out.size))
    have HE2 := Lib.hid (HE1.out.next b2)
    clear b2
    go_upto_region 5 with fail
    have xE0 : w3.cell? ⟨w.heap.size, 0, none⟩ = some (.int .i64 px) := HE2.out.c 0 rfl
    have xE1 : w3.cell? ⟨w.heap.size, 1, none⟩ = some (.int .i64 py) := HE2.out.c 1 rfl
    have xE2 : w3.cell? ⟨w.heap.size, 2, none⟩ = some (.int .i64 qx) := HE2.out.c 2 rfl
    have xE3 : w3.cell? ⟨w.heap.size, 3, none⟩ = some (.int .i64 qy) := HE2.out.c 3 rfl
    go_wp2_with fail
    refine (EA.out _).mono ?_
    rintro e w4 ⟨rfl, b3⟩
    clear xE0 xE1 xE2 xE3
    have HB3 := Lib.hid (HB2.out.trans (b3.mono HB2.out.size))
    have HE3 := Lib.hid (HE2.out.next b3)
    clear b3
    have k1 := CBox.new w4 35 #[.int .i64 0, .int .i64 0, .int .i64 0, .int .i64 0]
    have b4 := (Below.refl w4.heap.size w4).alloc (Nat.le_refl _) (.cells #[.int .i64 0, .int .i64 0, .int .i64 0, .int .i64 0] 35)
    have HB4 := Lib.hid (HB3.out.trans (b4.mono HB3.out.size))
    have HE4 := Lib.hid (HE3.out.next b4)
    clear b4
    have HX4 := Lib.hid k1
    clear k1
    go_upto_region 6 with fail
    generalize w4.alloc (.cells #[.int .i64 0, .int .i64 0, .int .i64 0, .int .i64 0] 35) = w5 at *
    generalize w4.heap.size = xq at *
    have xE0 : w5.cell? ⟨w.heap.size, 0, none⟩ = some (.int .i64 px) := HE4.out.c 0 rfl
    have xE1 : w5.cell? ⟨w.heap.size, 1, none⟩ = some (.int .i64 py) := HE4.out.c 1 rfl
    have xE2 : w5.cell? ⟨w.heap.size, 2, none⟩ = some (.int .i64 qx) := HE4.out.c 2 rfl
    have xE3 : w5.cell? ⟨w.heap.size, 3, none⟩ = some (.int .i64 qy) := HE4.out.c 3 rfl
    go_wp2_with fail
    refine (EB.out _).mono ?_
    rintro e w6 ⟨rfl, b5⟩
    clear xE0 xE1 xE2 xE3
    have HB5 := Lib.hid (HB4.out.trans (b5.mono HB4.out.size))
    have HE5 := Lib.hid (HE4.out.next b5)
    have HX5 := Lib.hid (HX4.out.next b5)
    clear b5
    have k1 := CBox.new w6 35 #[.int .i64 0, .int .i64 0, .int .i64 0, .int .i64 0]
    have b6 := (Below.refl w6.heap.size w6).alloc (Nat.le_refl _) (.cells #[.int .i64 0, .int .i64 0, .int .i64 0, .int .i64 0] 35)
    have HB6 := Lib.hid (HB5.out.trans (b6.mono HB5.out.size))
    have HE6 := Lib.hid (HE5.out.next b6)
    have HX6 := Lib.hid (HX5.out.next b6)
    clear b6
    have HY6 := Lib.hid k1
    clear k1
    go_upto_region 7 with fail
    generalize w6.alloc (.cells #[.int .i64 0, .int .i64 0, .int .i64 0, .int .i64 0] 35) = w7 at *
    generalize w6.heap.size = yq at *
    have xE1 : w7.cell? ⟨w.heap.size, 1, none⟩ = some (.int .i64 py) := HE6.out.c 1 rfl
    have xE3 : w7.cell? ⟨w.heap.size, 3, none⟩ = some (.int .i64 qy) := HE6.out.c 3 rfl
    have HBz := Lib.hid (Below.refl w7.heap.size w7)
    have HBd := Lib.hid HBz.out.drew
    go_region_held3 (fun w' => w'.cell? ⟨w.heap.size, 1, none⟩ = some (.int .i64 py) ∧ w'.cell? ⟨w.heap.size, 3, none⟩ = some (.int .i64 qy)) (first | (refine ⟨?_, ?_⟩ <;> first | with_reducible assumption) | (simp [go_sem, *]; done))
      (first
      | (go_at_call 9; (with_reducible refine (NA.out _).mono ?_); rintro e v1 ⟨rfl, bc1⟩; have HBc1 := Lib.hid (HBd.out.trans (bc1.mono HBd.out.size)); clear xE1 xE3; have hE_ := HE6.out.next HBc1.out; have xE1 : v1.cell? ⟨w.heap.size, 1, none⟩ = some (.int .i64 py) := hE_.c 1 rfl; have xE3 : v1.cell? ⟨w.heap.size, 3, none⟩ = some (.int .i64 qy) := hE_.c 3 rfl; clear hE_; clear bc1)
      | (go_at_call 9; (with_reducible refine (NB.out _).mono ?_); rintro e v2 ⟨rfl, bc2⟩; have HBc2 := Lib.hid (HBc1.out.trans (bc2.mono HBc1.out.size)); clear xE1 xE3; have hE_ := HE6.out.next HBc2.out; have xE1 : v2.cell? ⟨w.heap.size, 1, none⟩ = some (.int .i64 py) := hE_.c 1 rfl; have xE3 : v2.cell? ⟨w.heap.size, 3, none⟩ = some (.int .i64 qy) := hE_.c 3 rfl; clear hE_; clear bc2)
      )
    clear xE1 xE3
    have HB7 := Lib.hid (HB6.out.trans (HBc2.out.mono HB6.out.size))
    have HE7 := Lib.hid (HE6.out.next HBc2.out)
    have HX7 := Lib.hid (HX6.out.next HBc2.out)
    have HY7 := Lib.hid (HY6.out.next HBc2.out)
    generalize v2 = w8 at *
    have xX0 : w8.cell? ⟨xq, 0, none⟩ = some (.int .i64 0) := HX7.out.c 0 rfl
    have xX1 : w8.cell? ⟨xq, 1, none⟩ = some (.int .i64 0) := HX7.out.c 1 rfl
    have xX2 : w8.cell? ⟨xq, 2, none⟩ = some (.int .i64 0) := HX7.out.c 2 rfl
    have xX3 : w8.cell? ⟨xq, 3, none⟩ = some (.int .i64 0) := HX7.out.c 3 rfl
    have xY0 : w8.cell? ⟨yq, 0, none⟩ = some (.int .i64 0) := HY7.out.c 0 rfl
    have xY1 : w8.cell? ⟨yq, 1, none⟩ = some (.int .i64 0) := HY7.out.c 1 rfl
    have xY2 : w8.cell? ⟨yq, 2, none⟩ = some (.int .i64 0) := HY7.out.c 2 rfl
    have xY3 : w8.cell? ⟨yq, 3, none⟩ = some (.int .i64 0) := HY7.out.c 3 rfl
    go_wp2_with fail
    go_ret
    exact ⟨rfl, HB7.out⟩
set_option maxRecDepth 100000 in
theorem lifted (os : Os) (started : os.Started) (H : Type) (enc : TypeId × Value → H) :
    ReturnsInHanded {} Try.checked os 5 .any (Rows.snapOneSpec.pre6 enc Try.prog Try.f5 Rows.snapOneRow.domain false) (Rows.snapOneSpec.post enc Try.prog Try.f5 false true false false) := by
  refine returnsInHanded_of_change (C := Try.checked) own started (by kernel_rfl) Try.func5
    (ChangeSpec.witness6 (enc := enc) (C := Try.checked) false ⟨#[], #[.agg #[.int .i64 0, .int .i64 0, .int .i64 0, .int .i64 0]], []⟩ 8 (by kernel_rfl) (by kernel_rfl) (by kernel_rfl) (by kernel_rfl)) ?_
  intro W base args ds gs before hval0 hW hcnd _
  have hval : ∀ (j : Nat) t v, Try.f5.params[j]? = some t → args[j]? = some v → Value.okWide Try.prog W .any base t v := hval0
  have hW' := hW
  obtain ⟨p, q, hA0, hV, rfl, hfz, hnd⟩ := hW
  have hA : DataW.TrodAll enc Try.prog W 0 (fun _ => true) true Try.f5.params.toList args.toList ds p := hA0
  rw [Try.params5] at hA hval
  obtain ⟨v0, d0, rfl, rfl, h0⟩ := trodAll_one hA
  obtain ⟨rfl, rfl⟩ := trodVars_none hV
  obtain ⟨g0, rfl, j0⟩ := edg_of_trod Try.underlying35 (by kernel_rfl) rfl rfl Try.underlying25 (by kernel_rfl) rfl rfl rfl (by kernel_rfl) (by kernel_rfl) Try.underlying2 Try.underlying2 (hval 0 35 v0 rfl rfl) h0
  clear hA0 hval0
  simp only [List.append_nil] at hW'
  have lt0 : ∀ x ∈ p, x.block < W.heap.size := fun x hx => hW'.lt x (by simp [hx])
  refine (walk g0 j0 W).mono fun e W' ⟨he, hg⟩ => ?_
  subst he
  have b0' := Below.trod laidOut (by kernel_rfl) (of_decide_eq_true (by kernel_rfl)) h0 hg lt0
  exact ⟨_, rfl, ⟨_, _, _, [], _, [], hW', trodAll_mk1 (shut_bool Try.underlying4 _), trodAll_mk1 b0', rfl, hg.frame _, fun h => by cases h⟩⟩

/-- The given statement. -/
theorem proved : Rows.SnapOneSaid :=
  OpenClaim.holds_of_wide 5 Try.f5 rfl rfl rfl rfl rfl rfl rfl ⟨rfl, rfl, rfl, rfl, rfl⟩ rfl rfl rfl rfl rfl (by kernel_rfl) Try.func5 (by kernel_rfl)
    (of_decide_eq_true (by kernel_rfl)) (by unfold Func.isWrapper; first | (rw [if_pos (by decide +kernel)]; kernel_rfl) | (rw [if_neg (by decide +kernel)]; exact ⟨rfl, rfl⟩))
    (fun os started H enc _ => lifted os started H enc)
end Go.Proofs.Ytejhegoegmoemaa.snapOne
