/-
  The document's answers of layer 11: Middle, between, Elevate. (Typed by a program: wip/gen_ref11a.py.)
-/
import Derived.Test.YtainocdbapnaaaaRefCrv
import Derived.Test.YtainocdbapnaaaaCrvRet
namespace Go.Proofs.Ytainocdbapnaaaa
open Go.RowKit Go.Shelf

theorem rnear11b (a b : Int) (w : World) (ha : -2305843009213693952 ≤ 2 * a ∧ 2 * a ≤ 2305843009213693952) (hb : 0 < b) (hb2 : b ≤ 1048576) :
    Calls Try.prog 34 #[.int .i64 a, .int .i64 b] w fun e w' => e = .returned (.int .i64 (near a b.toNat)) ∧ Below w.heap.size w w' :=
  (rnear11 a b w ha hb hb2).mono fun _ _ h => ⟨h.1, h.2 ▸ Below.refl _ _⟩
theorem far_prod {d t : Int} (hd : -2199023255552 ≤ d ∧ d ≤ 2199023255552) (h0 : 0 ≤ t) (h1 : t ≤ 65536) : -144115188075855872 ≤ d * t ∧ d * t ≤ 144115188075855872 := by
  have e1 : d * t ≤ 2199023255552 * t := Int.mul_le_mul_of_nonneg_right hd.2 h0
  have e2 : -2199023255552 * t ≤ d * t := Int.mul_le_mul_of_nonneg_right hd.1 h0
  omega
set_option maxHeartbeats 4000000 in
set_option maxRecDepth 100000 in
theorem rmid11 (ax ay bx by' : Int) (w : World) (hax : In40 ax) (hay : In40 ay) (hbx : In40 bx) (hby : In40 by') :
    Calls Try.prog 28 #[.agg #[.int .i64 ax, .int .i64 ay], .agg #[.int .i64 bx, .int .i64 by']] w fun e w' => e = .returned (.agg #[.int .i64 (mid ax bx), .int .i64 (mid ay by')]) ∧ Below w.heap.size w w' := by
  unfold In40 at hax hay hbx hby
  have S1 : Hid (∀ w : World, Calls Try.prog 34 #[.int .i64 (ax + bx), .int .i64 2] w fun e w' => e = .returned (.int .i64 (mid ax bx)) ∧ Below w.heap.size w w') := Lib.hid (fun w => rnear11b (ax + bx) 2 w (by omega) (by decide) (by decide))
  have S2 : Hid (∀ w : World, Calls Try.prog 34 #[.int .i64 (ay + by'), .int .i64 2] w fun e w' => e = .returned (.int .i64 (mid ay by')) ∧ Below w.heap.size w w') := Lib.hid (fun w => rnear11b (ay + by') 2 w (by omega) (by decide) (by decide))
  generalize mid ax bx = X at *
  generalize mid ay by' = Y at *
  have e1 : IntKind.i64.wrap (ax + bx) = ax + bx := IntWalk.i64_in _ (by omega)
  have e2 : IntKind.i64.wrap (ay + by') = ay + by' := IntWalk.i64_in _ (by omega)
  obtain ⟨ux, hux⟩ : ∃ d, d = ax + bx := ⟨_, rfl⟩
  obtain ⟨uy, huy⟩ : ∃ d, d = ay + by' := ⟨_, rfl⟩
  rw [← hux] at S1
  rw [← huy] at S2
  have f1 : IntKind.i64.wrap (ax + bx) = ux := by rw [hux]; exact e1
  have f2 : IntKind.i64.wrap (ay + by') = uy := by rw [huy]; exact e2
  clear e1 e2 hux huy hax hay hbx hby
  obtain ⟨k1, k2, k3, k4⟩ := boxes_three w #[.int .i64 ax, .int .i64 ay] #[.int .i64 bx, .int .i64 by'] #[.int .i64 0, .int .i64 0] 23 23 23
  have HP0 := Lib.hid k1; have HQ0 := Lib.hid k2; have HZ0 := Lib.hid k3; have HB0 := Lib.hid k4
  clear k1 k2 k3 k4
  go_enter Try.func28, Try.ntmps28
  go_upto_region 1 with fail
  generalize (((w.alloc (.cells #[.int .i64 ax, .int .i64 ay] 23)).alloc (.cells #[.int .i64 bx, .int .i64 by'] 23)).alloc (.cells #[.int .i64 0, .int .i64 0] 23)) = w1 at *
  have xP0 : w1.cell? ⟨w.heap.size, 0, none⟩ = some (.int .i64 ax) := HP0.out.c 0 rfl
  have xP1 : w1.cell? ⟨w.heap.size, 1, none⟩ = some (.int .i64 ay) := HP0.out.c 1 rfl
  have xQ0 : w1.cell? ⟨w.heap.size + 1, 0, none⟩ = some (.int .i64 bx) := HQ0.out.c 0 rfl
  have xQ1 : w1.cell? ⟨w.heap.size + 1, 1, none⟩ = some (.int .i64 by') := HQ0.out.c 1 rfl
  have HBz := Lib.hid (Below.refl w1.heap.size w1)
  have HBd := Lib.hid HBz.out.drew
  go_region_held3 (fun w' => w'.cell? ⟨w.heap.size, 0, none⟩ = some (.int .i64 ax) ∧ w'.cell? ⟨w.heap.size, 1, none⟩ = some (.int .i64 ay) ∧ w'.cell? ⟨w.heap.size + 1, 0, none⟩ = some (.int .i64 bx) ∧ w'.cell? ⟨w.heap.size + 1, 1, none⟩ = some (.int .i64 by')) (first | (refine ⟨?_, ?_, ?_, ?_⟩ <;> first | with_reducible assumption) | (simp [go_sem, *]; done))
    (first
    | (go_at_call 34; (with_reducible refine (S1.out _).mono ?_); rintro e v1 ⟨rfl, bc1⟩; have HBc1 := Lib.hid (HBd.out.trans (bc1.mono HBd.out.size)); clear xP0 xP1 xQ0 xQ1; have hP_ := HP0.out.next HBc1.out; have xP0 : v1.cell? ⟨w.heap.size, 0, none⟩ = some (.int .i64 ax) := hP_.c 0 rfl; have xP1 : v1.cell? ⟨w.heap.size, 1, none⟩ = some (.int .i64 ay) := hP_.c 1 rfl; clear hP_; have hQ_ := HQ0.out.next HBc1.out; have xQ0 : v1.cell? ⟨w.heap.size + 1, 0, none⟩ = some (.int .i64 bx) := hQ_.c 0 rfl; have xQ1 : v1.cell? ⟨w.heap.size + 1, 1, none⟩ = some (.int .i64 by') := hQ_.c 1 rfl; clear hQ_; clear bc1)
    | (go_at_call 34; (with_reducible refine (S2.out _).mono ?_); rintro e v2 ⟨rfl, bc2⟩; have HBc2 := Lib.hid (HBc1.out.trans (bc2.mono HBc1.out.size)); clear xP0 xP1 xQ0 xQ1; have hP_ := HP0.out.next HBc2.out; have xP0 : v2.cell? ⟨w.heap.size, 0, none⟩ = some (.int .i64 ax) := hP_.c 0 rfl; have xP1 : v2.cell? ⟨w.heap.size, 1, none⟩ = some (.int .i64 ay) := hP_.c 1 rfl; clear hP_; have hQ_ := HQ0.out.next HBc2.out; have xQ0 : v2.cell? ⟨w.heap.size + 1, 0, none⟩ = some (.int .i64 bx) := hQ_.c 0 rfl; have xQ1 : v2.cell? ⟨w.heap.size + 1, 1, none⟩ = some (.int .i64 by') := hQ_.c 1 rfl; clear hQ_; have hZ_ := HZ0.out.next HBc2.out; have uZ0 : v2.cell? ⟨w.heap.size + 1 + 1, 0, none⟩ = some (.int .i64 0) := hZ_.c 0 rfl; have rZ0 := hZ_.z 0; have uZ1 : v2.cell? ⟨w.heap.size + 1 + 1, 1, none⟩ = some (.int .i64 0) := hZ_.c 1 rfl; have rZ1 := hZ_.z 1; clear hZ_; clear bc2)
    )
  clear xP0 xP1 xQ0 xQ1
  clear uZ0 rZ0 uZ1 rZ1
  have HB2 := Lib.hid (HB0.out.trans (HBc2.out.mono HB0.out.size))
  have HZ2 := Lib.hid (HZ0.out.next HBc2.out)
  go_wp2_with fail
  exact pe_ret Try.results28 (PBox.set HZ2.out _ _) (below_pt8 HB2.out (by omega) _ _) rfl
set_option maxHeartbeats 4000000 in
set_option maxRecDepth 100000 in
theorem rbetw11 (ax ay bx by' t : Int) (w : World) (hax : In40 ax) (hay : In40 ay) (hbx : In40 bx) (hby : In40 by') (h0 : 0 ≤ t) (h1 : t ≤ 65536) :
    Calls Try.prog 37 #[.agg #[.int .i64 ax, .int .i64 ay], .agg #[.int .i64 bx, .int .i64 by'], .int .i64 t] w fun e w' => e = .returned (.agg #[.int .i64 (betw ax bx t), .int .i64 (betw ay by' t)]) ∧ Below w.heap.size w w' := by
  have r1 := betw40 h0 h1 hax hbx
  have r2 := betw40 h0 h1 hay hby
  unfold In40 at hax hay hbx hby r1 r2
  have g1 := far_prod (d := bx - ax) (by omega) h0 h1
  have g2 := far_prod (d := by' - ay) (by omega) h0 h1
  unfold betw at *
  have S1 : Hid (∀ w : World, Calls Try.prog 34 #[.int .i64 ((bx - ax) * t), .int .i64 65536] w fun e w' => e = .returned (.int .i64 (near ((bx - ax) * t) 65536)) ∧ Below w.heap.size w w') := Lib.hid (fun w => rnear11b ((bx - ax) * t) 65536 w (by omega) (by decide) (by decide))
  have S2 : Hid (∀ w : World, Calls Try.prog 34 #[.int .i64 ((by' - ay) * t), .int .i64 65536] w fun e w' => e = .returned (.int .i64 (near ((by' - ay) * t) 65536)) ∧ Below w.heap.size w w') := Lib.hid (fun w => rnear11b ((by' - ay) * t) 65536 w (by omega) (by decide) (by decide))
  generalize near ((bx - ax) * t) 65536 = A at *
  generalize near ((by' - ay) * t) 65536 = B at *
  have e1 : IntKind.i64.wrap (bx - ax) = bx - ax := IntWalk.i64_in _ (by omega)
  have e2 : IntKind.i64.wrap (by' - ay) = by' - ay := IntWalk.i64_in _ (by omega)
  have e3 : IntKind.i64.wrap ((bx - ax) * t) = (bx - ax) * t := IntWalk.i64_in _ (by omega)
  have e4 : IntKind.i64.wrap ((by' - ay) * t) = (by' - ay) * t := IntWalk.i64_in _ (by omega)
  have e5 : IntKind.i64.wrap (ax + A) = ax + A := IntWalk.i64_in _ (by omega)
  have e6 : IntKind.i64.wrap (ay + B) = ay + B := IntWalk.i64_in _ (by omega)
  obtain ⟨ux, hux⟩ : ∃ d, d = bx - ax := ⟨_, rfl⟩
  obtain ⟨uy, huy⟩ : ∃ d, d = by' - ay := ⟨_, rfl⟩
  rw [← hux] at S1 e3
  rw [← huy] at S2 e4
  obtain ⟨vx, hvx⟩ : ∃ d, d = ux * t := ⟨_, rfl⟩
  obtain ⟨vy, hvy⟩ : ∃ d, d = uy * t := ⟨_, rfl⟩
  rw [← hvx] at S1
  rw [← hvy] at S2
  obtain ⟨X, hX⟩ : ∃ d, d = ax + A := ⟨_, rfl⟩
  obtain ⟨Y, hY⟩ : ∃ d, d = ay + B := ⟨_, rfl⟩
  rw [← hX, ← hY]
  have f1 : IntKind.i64.wrap (bx - ax) = ux := by rw [hux]; exact e1
  have f2 : IntKind.i64.wrap (by' - ay) = uy := by rw [huy]; exact e2
  have f3 : IntKind.i64.wrap (ux * t) = vx := by rw [hvx]; exact e3
  have f4 : IntKind.i64.wrap (uy * t) = vy := by rw [hvy]; exact e4
  have f5 : IntKind.i64.wrap (ax + A) = X := by rw [hX]; exact e5
  have f6 : IntKind.i64.wrap (ay + B) = Y := by rw [hY]; exact e6
  have m1 : IntKind.i64.wrap ((bx - ax) * t) = vx := by rw [← hux]; exact f3
  have m2 : IntKind.i64.wrap ((by' - ay) * t) = vy := by rw [← huy]; exact f4
  clear e1 e2 e3 e4 e5 e6 hux huy hvx hvy hX hY hax hay hbx hby r1 r2 g1 g2 h0 h1
  obtain ⟨k1, k2, k3, k4⟩ := boxes_three w #[.int .i64 ax, .int .i64 ay] #[.int .i64 bx, .int .i64 by'] #[.int .i64 0, .int .i64 0] 23 23 23
  have HP0 := Lib.hid k1; have HQ0 := Lib.hid k2; have HZ0 := Lib.hid k3; have HB0 := Lib.hid k4
  clear k1 k2 k3 k4
  go_enter Try.func37, Try.ntmps37
  go_upto_region 1 with fail
  generalize (((w.alloc (.cells #[.int .i64 ax, .int .i64 ay] 23)).alloc (.cells #[.int .i64 bx, .int .i64 by'] 23)).alloc (.cells #[.int .i64 0, .int .i64 0] 23)) = w1 at *
  have xP0 : w1.cell? ⟨w.heap.size, 0, none⟩ = some (.int .i64 ax) := HP0.out.c 0 rfl
  have xP1 : w1.cell? ⟨w.heap.size, 1, none⟩ = some (.int .i64 ay) := HP0.out.c 1 rfl
  have xQ0 : w1.cell? ⟨w.heap.size + 1, 0, none⟩ = some (.int .i64 bx) := HQ0.out.c 0 rfl
  have xQ1 : w1.cell? ⟨w.heap.size + 1, 1, none⟩ = some (.int .i64 by') := HQ0.out.c 1 rfl
  have HBz := Lib.hid (Below.refl w1.heap.size w1)
  have HBd := Lib.hid HBz.out.drew
  go_region_held3 (fun w' => w'.cell? ⟨w.heap.size, 0, none⟩ = some (.int .i64 ax) ∧ w'.cell? ⟨w.heap.size, 1, none⟩ = some (.int .i64 ay) ∧ w'.cell? ⟨w.heap.size + 1, 0, none⟩ = some (.int .i64 bx) ∧ w'.cell? ⟨w.heap.size + 1, 1, none⟩ = some (.int .i64 by')) (first | (refine ⟨?_, ?_, ?_, ?_⟩ <;> first | with_reducible assumption) | (simp [go_sem, *]; done))
    (first
    | (go_at_call 34; (with_reducible refine (S1.out _).mono ?_); rintro e v1 ⟨rfl, bc1⟩; have HBc1 := Lib.hid (HBd.out.trans (bc1.mono HBd.out.size)); clear xP0 xP1 xQ0 xQ1; have hP_ := HP0.out.next HBc1.out; have xP0 : v1.cell? ⟨w.heap.size, 0, none⟩ = some (.int .i64 ax) := hP_.c 0 rfl; have xP1 : v1.cell? ⟨w.heap.size, 1, none⟩ = some (.int .i64 ay) := hP_.c 1 rfl; clear hP_; have hQ_ := HQ0.out.next HBc1.out; have xQ0 : v1.cell? ⟨w.heap.size + 1, 0, none⟩ = some (.int .i64 bx) := hQ_.c 0 rfl; have xQ1 : v1.cell? ⟨w.heap.size + 1, 1, none⟩ = some (.int .i64 by') := hQ_.c 1 rfl; clear hQ_; clear bc1)
    | (go_at_call 34; (with_reducible refine (S2.out _).mono ?_); rintro e v2 ⟨rfl, bc2⟩; have HBc2 := Lib.hid (HBc1.out.trans (bc2.mono HBc1.out.size)); clear xP0 xP1 xQ0 xQ1; have hP_ := HP0.out.next HBc2.out; have xP0 : v2.cell? ⟨w.heap.size, 0, none⟩ = some (.int .i64 ax) := hP_.c 0 rfl; have xP1 : v2.cell? ⟨w.heap.size, 1, none⟩ = some (.int .i64 ay) := hP_.c 1 rfl; clear hP_; have hQ_ := HQ0.out.next HBc2.out; have xQ0 : v2.cell? ⟨w.heap.size + 1, 0, none⟩ = some (.int .i64 bx) := hQ_.c 0 rfl; have xQ1 : v2.cell? ⟨w.heap.size + 1, 1, none⟩ = some (.int .i64 by') := hQ_.c 1 rfl; clear hQ_; have hZ_ := HZ0.out.next HBc2.out; have uZ0 : v2.cell? ⟨w.heap.size + 1 + 1, 0, none⟩ = some (.int .i64 0) := hZ_.c 0 rfl; have rZ0 := hZ_.z 0; have uZ1 : v2.cell? ⟨w.heap.size + 1 + 1, 1, none⟩ = some (.int .i64 0) := hZ_.c 1 rfl; have rZ1 := hZ_.z 1; clear hZ_; clear bc2)
    )
  clear xP0 xP1 xQ0 xQ1
  clear uZ0 rZ0 uZ1 rZ1
  have HB2 := Lib.hid (HB0.out.trans (HBc2.out.mono HB0.out.size))
  have HZ2 := Lib.hid (HZ0.out.next HBc2.out)
  go_wp2_with fail
  exact pe_ret Try.results37 (PBox.set HZ2.out _ _) (below_pt8 HB2.out (by omega) _ _) rfl
set_option maxHeartbeats 4000000 in
set_option maxRecDepth 100000 in
theorem relev11 (px py qx qy sx sy : Int) (w : World) (hpx : In40 px) (hpy : In40 py) (hqx : In40 qx) (hqy : In40 qy) (hsx : In40 sx) (hsy : In40 sy) :
    Calls Try.prog 18 #[.agg #[.int .i64 px, .int .i64 py], .agg #[.int .i64 qx, .int .i64 qy], .agg #[.int .i64 sx, .int .i64 sy]] w fun e w' => e = .returned (Crv.val ⟨px, py, third px qx, third py qy, third sx qx, third sy qy, sx, sy⟩) ∧ Below w.heap.size w w' := by
  unfold In40 at hpx hpy hqx hqy hsx hsy
  unfold Crv.val Crv.arr
  dsimp only
  have S1 : Hid (∀ w : World, Calls Try.prog 34 #[.int .i64 (px + 2 * qx), .int .i64 3] w fun e w' => e = .returned (.int .i64 (third px qx)) ∧ Below w.heap.size w w') := Lib.hid (fun w => rnear11b (px + 2 * qx) 3 w (by omega) (by decide) (by decide))
  have S2 : Hid (∀ w : World, Calls Try.prog 34 #[.int .i64 (py + 2 * qy), .int .i64 3] w fun e w' => e = .returned (.int .i64 (third py qy)) ∧ Below w.heap.size w w') := Lib.hid (fun w => rnear11b (py + 2 * qy) 3 w (by omega) (by decide) (by decide))
  have S3 : Hid (∀ w : World, Calls Try.prog 34 #[.int .i64 (sx + 2 * qx), .int .i64 3] w fun e w' => e = .returned (.int .i64 (third sx qx)) ∧ Below w.heap.size w w') := Lib.hid (fun w => rnear11b (sx + 2 * qx) 3 w (by omega) (by decide) (by decide))
  have S4 : Hid (∀ w : World, Calls Try.prog 34 #[.int .i64 (sy + 2 * qy), .int .i64 3] w fun e w' => e = .returned (.int .i64 (third sy qy)) ∧ Below w.heap.size w w') := Lib.hid (fun w => rnear11b (sy + 2 * qy) 3 w (by omega) (by decide) (by decide))
  generalize third px qx = T1 at *
  generalize third py qy = T2 at *
  generalize third sx qx = T3 at *
  generalize third sy qy = T4 at *
  have d1 : IntKind.i64.wrap (2 * qx) = 2 * qx := IntWalk.i64_in _ (by omega)
  have d2 : IntKind.i64.wrap (2 * qy) = 2 * qy := IntWalk.i64_in _ (by omega)
  have e1 : IntKind.i64.wrap (px + 2 * qx) = px + 2 * qx := IntWalk.i64_in _ (by omega)
  have e2 : IntKind.i64.wrap (py + 2 * qy) = py + 2 * qy := IntWalk.i64_in _ (by omega)
  have e3 : IntKind.i64.wrap (sx + 2 * qx) = sx + 2 * qx := IntWalk.i64_in _ (by omega)
  have e4 : IntKind.i64.wrap (sy + 2 * qy) = sy + 2 * qy := IntWalk.i64_in _ (by omega)
  obtain ⟨ux, hux⟩ : ∃ d, d = 2 * qx := ⟨_, rfl⟩
  obtain ⟨uy, huy⟩ : ∃ d, d = 2 * qy := ⟨_, rfl⟩
  obtain ⟨v1, hv1⟩ : ∃ d, d = px + 2 * qx := ⟨_, rfl⟩
  rw [← hv1] at S1
  have m1 : IntKind.i64.wrap (px + 2 * qx) = v1 := by rw [hv1]; exact e1
  have f1 : IntKind.i64.wrap (px + ux) = v1 := by rw [hux]; exact m1
  obtain ⟨v2, hv2⟩ : ∃ d, d = py + 2 * qy := ⟨_, rfl⟩
  rw [← hv2] at S2
  have m2 : IntKind.i64.wrap (py + 2 * qy) = v2 := by rw [hv2]; exact e2
  have f2 : IntKind.i64.wrap (py + uy) = v2 := by rw [huy]; exact m2
  obtain ⟨v3, hv3⟩ : ∃ d, d = sx + 2 * qx := ⟨_, rfl⟩
  rw [← hv3] at S3
  have m3 : IntKind.i64.wrap (sx + 2 * qx) = v3 := by rw [hv3]; exact e3
  have f3 : IntKind.i64.wrap (sx + ux) = v3 := by rw [hux]; exact m3
  obtain ⟨v4, hv4⟩ : ∃ d, d = sy + 2 * qy := ⟨_, rfl⟩
  rw [← hv4] at S4
  have m4 : IntKind.i64.wrap (sy + 2 * qy) = v4 := by rw [hv4]; exact e4
  have f4 : IntKind.i64.wrap (sy + uy) = v4 := by rw [huy]; exact m4
  have g1 : IntKind.i64.wrap (2 * qx) = ux := by rw [hux]; exact d1
  have g2 : IntKind.i64.wrap (2 * qy) = uy := by rw [huy]; exact d2
  clear d1 d2 e1 e2 e3 e4 hv1 hv2 hv3 hv4 hux huy hpx hpy hqx hqy hsx hsy
  obtain ⟨k1, k2, k3, k4, k5⟩ := boxes_four w #[.int .i64 px, .int .i64 py] #[.int .i64 qx, .int .i64 qy] #[.int .i64 sx, .int .i64 sy] #[.int .i64 0, .int .i64 0, .int .i64 0, .int .i64 0, .int .i64 0, .int .i64 0, .int .i64 0, .int .i64 0] 23 23 23 25
  have HP0 := Lib.hid k1; have HQ0 := Lib.hid k2; have HS0 := Lib.hid k3; have HZ0 := Lib.hid k4; have HB0 := Lib.hid k5
  clear k1 k2 k3 k4 k5
  go_enter Try.func18, Try.ntmps18
  go_upto_region 1 with fail
  generalize ((((w.alloc (.cells #[.int .i64 px, .int .i64 py] 23)).alloc (.cells #[.int .i64 qx, .int .i64 qy] 23)).alloc (.cells #[.int .i64 sx, .int .i64 sy] 23)).alloc (.cells #[.int .i64 0, .int .i64 0, .int .i64 0, .int .i64 0, .int .i64 0, .int .i64 0, .int .i64 0, .int .i64 0] 25)) = w1 at *
  have xP0 : w1.cell? ⟨w.heap.size, 0, none⟩ = some (.int .i64 px) := HP0.out.c 0 rfl
  have xP1 : w1.cell? ⟨w.heap.size, 1, none⟩ = some (.int .i64 py) := HP0.out.c 1 rfl
  have xQ0 : w1.cell? ⟨w.heap.size + 1, 0, none⟩ = some (.int .i64 qx) := HQ0.out.c 0 rfl
  have xQ1 : w1.cell? ⟨w.heap.size + 1, 1, none⟩ = some (.int .i64 qy) := HQ0.out.c 1 rfl
  have xS0 : w1.cell? ⟨w.heap.size + 1 + 1, 0, none⟩ = some (.int .i64 sx) := HS0.out.c 0 rfl
  have xS1 : w1.cell? ⟨w.heap.size + 1 + 1, 1, none⟩ = some (.int .i64 sy) := HS0.out.c 1 rfl
  have HBz := Lib.hid (Below.refl w1.heap.size w1)
  have HBd := Lib.hid HBz.out.drew
  go_region_held3 (fun w' => w'.cell? ⟨w.heap.size, 0, none⟩ = some (.int .i64 px) ∧ w'.cell? ⟨w.heap.size, 1, none⟩ = some (.int .i64 py) ∧ w'.cell? ⟨w.heap.size + 1, 0, none⟩ = some (.int .i64 qx) ∧ w'.cell? ⟨w.heap.size + 1, 1, none⟩ = some (.int .i64 qy) ∧ w'.cell? ⟨w.heap.size + 1 + 1, 0, none⟩ = some (.int .i64 sx) ∧ w'.cell? ⟨w.heap.size + 1 + 1, 1, none⟩ = some (.int .i64 sy)) (first | (refine ⟨?_, ?_, ?_, ?_, ?_, ?_⟩ <;> first | with_reducible assumption) | (simp [go_sem, *]; done))
    (first
    | (go_at_call 34; (with_reducible refine (S1.out _).mono ?_); rintro e v1 ⟨rfl, bc1⟩; have HBc1 := Lib.hid (HBd.out.trans (bc1.mono HBd.out.size)); clear xP0 xP1 xQ0 xQ1 xS0 xS1; have hP_ := HP0.out.next HBc1.out; have xP0 : v1.cell? ⟨w.heap.size, 0, none⟩ = some (.int .i64 px) := hP_.c 0 rfl; have xP1 : v1.cell? ⟨w.heap.size, 1, none⟩ = some (.int .i64 py) := hP_.c 1 rfl; clear hP_; have hQ_ := HQ0.out.next HBc1.out; have xQ0 : v1.cell? ⟨w.heap.size + 1, 0, none⟩ = some (.int .i64 qx) := hQ_.c 0 rfl; have xQ1 : v1.cell? ⟨w.heap.size + 1, 1, none⟩ = some (.int .i64 qy) := hQ_.c 1 rfl; clear hQ_; have hS_ := HS0.out.next HBc1.out; have xS0 : v1.cell? ⟨w.heap.size + 1 + 1, 0, none⟩ = some (.int .i64 sx) := hS_.c 0 rfl; have xS1 : v1.cell? ⟨w.heap.size + 1 + 1, 1, none⟩ = some (.int .i64 sy) := hS_.c 1 rfl; clear hS_; clear bc1)
    | (go_at_call 34; (with_reducible refine (S2.out _).mono ?_); rintro e v2 ⟨rfl, bc2⟩; have HBc2 := Lib.hid (HBc1.out.trans (bc2.mono HBc1.out.size)); clear xP0 xP1 xQ0 xQ1 xS0 xS1; have hP_ := HP0.out.next HBc2.out; have xP0 : v2.cell? ⟨w.heap.size, 0, none⟩ = some (.int .i64 px) := hP_.c 0 rfl; have xP1 : v2.cell? ⟨w.heap.size, 1, none⟩ = some (.int .i64 py) := hP_.c 1 rfl; clear hP_; have hQ_ := HQ0.out.next HBc2.out; have xQ0 : v2.cell? ⟨w.heap.size + 1, 0, none⟩ = some (.int .i64 qx) := hQ_.c 0 rfl; have xQ1 : v2.cell? ⟨w.heap.size + 1, 1, none⟩ = some (.int .i64 qy) := hQ_.c 1 rfl; clear hQ_; have hS_ := HS0.out.next HBc2.out; have xS0 : v2.cell? ⟨w.heap.size + 1 + 1, 0, none⟩ = some (.int .i64 sx) := hS_.c 0 rfl; have xS1 : v2.cell? ⟨w.heap.size + 1 + 1, 1, none⟩ = some (.int .i64 sy) := hS_.c 1 rfl; clear hS_; clear bc2)
    | (go_at_call 34; (with_reducible refine (S3.out _).mono ?_); rintro e v3 ⟨rfl, bc3⟩; have HBc3 := Lib.hid (HBc2.out.trans (bc3.mono HBc2.out.size)); clear xP0 xP1 xQ0 xQ1 xS0 xS1; have hP_ := HP0.out.next HBc3.out; have xP0 : v3.cell? ⟨w.heap.size, 0, none⟩ = some (.int .i64 px) := hP_.c 0 rfl; have xP1 : v3.cell? ⟨w.heap.size, 1, none⟩ = some (.int .i64 py) := hP_.c 1 rfl; clear hP_; have hQ_ := HQ0.out.next HBc3.out; have xQ0 : v3.cell? ⟨w.heap.size + 1, 0, none⟩ = some (.int .i64 qx) := hQ_.c 0 rfl; have xQ1 : v3.cell? ⟨w.heap.size + 1, 1, none⟩ = some (.int .i64 qy) := hQ_.c 1 rfl; clear hQ_; have hS_ := HS0.out.next HBc3.out; have xS0 : v3.cell? ⟨w.heap.size + 1 + 1, 0, none⟩ = some (.int .i64 sx) := hS_.c 0 rfl; have xS1 : v3.cell? ⟨w.heap.size + 1 + 1, 1, none⟩ = some (.int .i64 sy) := hS_.c 1 rfl; clear hS_; clear bc3)
    | (go_at_call 34; (with_reducible refine (S4.out _).mono ?_); rintro e v4 ⟨rfl, bc4⟩; have HBc4 := Lib.hid (HBc3.out.trans (bc4.mono HBc3.out.size)); clear xP0 xP1 xQ0 xQ1 xS0 xS1; have hP_ := HP0.out.next HBc4.out; have xP0 : v4.cell? ⟨w.heap.size, 0, none⟩ = some (.int .i64 px) := hP_.c 0 rfl; have xP1 : v4.cell? ⟨w.heap.size, 1, none⟩ = some (.int .i64 py) := hP_.c 1 rfl; clear hP_; have hQ_ := HQ0.out.next HBc4.out; have xQ0 : v4.cell? ⟨w.heap.size + 1, 0, none⟩ = some (.int .i64 qx) := hQ_.c 0 rfl; have xQ1 : v4.cell? ⟨w.heap.size + 1, 1, none⟩ = some (.int .i64 qy) := hQ_.c 1 rfl; clear hQ_; have hS_ := HS0.out.next HBc4.out; have xS0 : v4.cell? ⟨w.heap.size + 1 + 1, 0, none⟩ = some (.int .i64 sx) := hS_.c 0 rfl; have xS1 : v4.cell? ⟨w.heap.size + 1 + 1, 1, none⟩ = some (.int .i64 sy) := hS_.c 1 rfl; clear hS_; have hZ_ := HZ0.out.next HBc4.out; have uZ0 : v4.cell? ⟨w.heap.size + 1 + 1 + 1, 0, none⟩ = some (.int .i64 0) := hZ_.c 0 rfl; have rZ0 := hZ_.z 0; have uZ1 : v4.cell? ⟨w.heap.size + 1 + 1 + 1, 1, none⟩ = some (.int .i64 0) := hZ_.c 1 rfl; have rZ1 := hZ_.z 1; have uZ2 : v4.cell? ⟨w.heap.size + 1 + 1 + 1, 2, none⟩ = some (.int .i64 0) := hZ_.c 2 rfl; have rZ2 := hZ_.z 2; have uZ3 : v4.cell? ⟨w.heap.size + 1 + 1 + 1, 3, none⟩ = some (.int .i64 0) := hZ_.c 3 rfl; have rZ3 := hZ_.z 3; have uZ4 : v4.cell? ⟨w.heap.size + 1 + 1 + 1, 4, none⟩ = some (.int .i64 0) := hZ_.c 4 rfl; have rZ4 := hZ_.z 4; have uZ5 : v4.cell? ⟨w.heap.size + 1 + 1 + 1, 5, none⟩ = some (.int .i64 0) := hZ_.c 5 rfl; have rZ5 := hZ_.z 5; have uZ6 : v4.cell? ⟨w.heap.size + 1 + 1 + 1, 6, none⟩ = some (.int .i64 0) := hZ_.c 6 rfl; have rZ6 := hZ_.z 6; have uZ7 : v4.cell? ⟨w.heap.size + 1 + 1 + 1, 7, none⟩ = some (.int .i64 0) := hZ_.c 7 rfl; have rZ7 := hZ_.z 7; clear hZ_; clear bc4)
    )
  clear xP0 xP1 xQ0 xQ1 xS0 xS1
  clear uZ0 rZ0 uZ1 rZ1 uZ2 rZ2 uZ3 rZ3 uZ4 rZ4 uZ5 rZ5 uZ6 rZ6 uZ7 rZ7
  have HB2 := Lib.hid (HB0.out.trans (HBc4.out.mono HB0.out.size))
  have HZ2 := Lib.hid (HZ0.out.next HBc4.out)
  go_wp2_with fail
  exact crv_ret Try.results18 (CBox.set8 HZ2.out _ _ _ _ _ _ _ _) (below_8 HB2.out (by omega) _ _ _ _ _ _ _ _) rfl
end Go.Proofs.Ytainocdbapnaaaa
