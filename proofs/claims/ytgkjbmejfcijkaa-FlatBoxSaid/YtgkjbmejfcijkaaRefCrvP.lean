/-
  The document's answers of layer 11: Middle, between, Elevate. (Typed by a program: wip/gen_ref11a.py.)
-/
import Derived.Test.YtgkjbmejfcijkaaRefCrv
import Derived.Test.YtgkjbmejfcijkaaJRet
namespace Go.Proofs.Ytgkjbmejfcijkaa
open Go.RowKit Go.Shelf

theorem rnear11b (a b : Int) (w : World) (ha : -2305843009213693952 ≤ 2 * a ∧ 2 * a ≤ 2305843009213693952) (hb : 0 < b) (hb2 : b ≤ 1048576) :
    Calls Try.prog 42 #[.int .i64 a, .int .i64 b] w fun e w' => e = .returned (.int .i64 (near a b.toNat)) ∧ Below w.heap.size w w' :=
  (rnear11 a b w ha hb hb2).mono fun _ _ h => ⟨h.1, h.2 ▸ Below.refl _ _⟩
theorem far_prod {d t : Int} (hd : -2199023255552 ≤ d ∧ d ≤ 2199023255552) (h0 : 0 ≤ t) (h1 : t ≤ 65536) : -144115188075855872 ≤ d * t ∧ d * t ≤ 144115188075855872 := by
  have e1 : d * t ≤ 2199023255552 * t := Int.mul_le_mul_of_nonneg_right hd.2 h0
  have e2 : -2199023255552 * t ≤ d * t := Int.mul_le_mul_of_nonneg_right hd.1 h0
  omega
set_option maxHeartbeats 4000000 in
set_option maxRecDepth 100000 in
theorem rmid11 (ax ay bx by' : Int) (w : World) (hax : In40 ax) (hay : In40 ay) (hbx : In40 bx) (hby : In40 by') :
    Calls Try.prog 34 #[.agg #[.int .i64 ax, .int .i64 ay], .agg #[.int .i64 bx, .int .i64 by']] w fun e w' => e = .returned (.agg #[.int .i64 (mid ax bx), .int .i64 (mid ay by')]) ∧ Below w.heap.size w w' := by
  unfold In40 at hax hay hbx hby
  have S1 : Hid (∀ w : World, Calls Try.prog 42 #[.int .i64 (ax + bx), .int .i64 2] w fun e w' => e = .returned (.int .i64 (mid ax bx)) ∧ Below w.heap.size w w') := Lib.hid (fun w => rnear11b (ax + bx) 2 w (by omega) (by decide) (by decide))
  have S2 : Hid (∀ w : World, Calls Try.prog 42 #[.int .i64 (ay + by'), .int .i64 2] w fun e w' => e = .returned (.int .i64 (mid ay by')) ∧ Below w.heap.size w w') := Lib.hid (fun w => rnear11b (ay + by') 2 w (by omega) (by decide) (by decide))
  generalize mid ax bx = X at *
  generalize mid ay by' = Y at *
  have e1 : IntKind.i64.wrap (ax + bx) = ax + bx := IntWalk.i64_in _ (by omega)
  have e2 : IntKind.i64.wrap (ay + by') = ay + by' := IntWalk.i64_in _ (by omega)
  obtain ⟨ux, hux⟩ : ∃ d, d = ax + bx := ⟨_, rfl⟩
  obtain ⟨uy, huy⟩ : ∃ d, d = ay + by' := ⟨_, rfl⟩
  rw [← hux] at S1
  rw [← huy] at S2
  have f1 : IntKind.i64.wrap (ax + bx) = ux := by rw [hux]; exact e1
  have f2 : IntKind.i64.wrap (ay + by') = uy := by rw [huy]; exact e2
  clear e1 e2 hux huy hax hay hbx hby
  obtain ⟨k1, k2, k3, k4⟩ := boxes_three w #[.int .i64 ax, .int .i64 ay] #[.int .i64 bx, .int .i64 by'] #[.int .i64 0, .int .i64 0] 23 23 23
  have HP0 := Lib.hid k1; have HQ0 := Lib.hid k2; have HZ0 := Lib.hid k3; have HB0 := Lib.hid k4
  clear k1 k2 k3 k4
  go_enter Try.func34, Try.ntmps34
  go_upto_region 1 with fail
  generalize (((w.alloc (.cells #[.int .i64 ax, .int .i64 ay] 23)).alloc (.cells #[.int .i64 bx, .int .i64 by'] 23)).alloc (.cells #[.int .i64 0, .int .i64 0] 23)) = w1 at *
  have xP0 : w1.cell? ⟨w.heap.size, 0, none⟩ = some (.int .i64 ax) := HP0.out.c 0 rfl
  have xP1 : w1.cell? ⟨w.heap.size, 1, none⟩ = some (.int .i64 ay) := HP0.out.c 1 rfl
  have xQ0 : w1.cell? ⟨w.heap.size + 1, 0, none⟩ = some (.int .i64 bx) := HQ0.out.c 0 rfl
  have xQ1 : w1.cell? ⟨w.heap.size + 1, 1, none⟩ = some (.int .i64 by') := HQ0.out.c 1 rfl
  have HBz := Lib.hid (Below.refl w1.heap.size w1)
  have HBd := Lib.hid HBz.out.drew
  go_region_held3 (fun w' => w'.cell? ⟨w.heap.size, 0, none⟩ = some (.int .i64 ax) ∧ w'.cell? ⟨w.heap.size, 1, none⟩ = some (.int .i64 ay) ∧ w'.cell? ⟨w.heap.size + 1, 0, none⟩ = some (.int .i64 bx) ∧ w'.cell? ⟨w.heap.size + 1, 1, none⟩ = some (.int .i64 by')) (first | (refine ⟨?_, ?_, ?_, ?_⟩ <;> first | with_reducible assumption) | (simp [go_sem, *]; done))
    (first
    | (go_at_call 42; (with_reducible refine (S1.out _).mono ?_); rintro e v1 ⟨rfl, bc1⟩; have HBc1 := Lib.hid (HBd.out.trans (bc1.mono HBd.out.size)); clear xP0 xP1 xQ0 xQ1; have hP_ := HP0.out.next HBc1.out; have xP0 : v1.cell? ⟨w.heap.size, 0, none⟩ = some (.int .i64 ax) := hP_.c 0 rfl; have xP1 : v1.cell? ⟨w.heap.size, 1, none⟩ = some (.int .i64 ay) := hP_.c 1 rfl; clear hP_; have hQ_ := HQ0.out.next HBc1.out; have xQ0 : v1.cell? ⟨w.heap.size + 1, 0, none⟩ = some (.int .i64 bx) := hQ_.c 0 rfl; have xQ1 : v1.cell? ⟨w.heap.size + 1, 1, none⟩ = some (.int .i64 by') := hQ_.c 1 rfl; clear hQ_; clear bc1)
    | (go_at_call 42; (with_reducible refine (S2.out _).mono ?_); rintro e v2 ⟨rfl, bc2⟩; have HBc2 := Lib.hid (HBc1.out.trans (bc2.mono HBc1.out.size)); clear xP0 xP1 xQ0 xQ1; have hP_ := HP0.out.next HBc2.out; have xP0 : v2.cell? ⟨w.heap.size, 0, none⟩ = some (.int .i64 ax) := hP_.c 0 rfl; have xP1 : v2.cell? ⟨w.heap.size, 1, none⟩ = some (.int .i64 ay) := hP_.c 1 rfl; clear hP_; have hQ_ := HQ0.out.next HBc2.out; have xQ0 : v2.cell? ⟨w.heap.size + 1, 0, none⟩ = some (.int .i64 bx) := hQ_.c 0 rfl; have xQ1 : v2.cell? ⟨w.heap.size + 1, 1, none⟩ = some (.int .i64 by') := hQ_.c 1 rfl; clear hQ_; have hZ_ := HZ0.out.next HBc2.out; have uZ0 : v2.cell? ⟨w.heap.size + 1 + 1, 0, none⟩ = some (.int .i64 0) := hZ_.c 0 rfl; have rZ0 := hZ_.z 0; have uZ1 : v2.cell? ⟨w.heap.size + 1 + 1, 1, none⟩ = some (.int .i64 0) := hZ_.c 1 rfl; have rZ1 := hZ_.z 1; clear hZ_; clear bc2)
    )
  clear xP0 xP1 xQ0 xQ1
  clear uZ0 rZ0 uZ1 rZ1
  have HB2 := Lib.hid (HB0.out.trans (HBc2.out.mono HB0.out.size))
  have HZ2 := Lib.hid (HZ0.out.next HBc2.out)
  go_wp2_with fail
  exact pe_ret Try.results34 (PBox.set HZ2.out _ _) (below_pt8 HB2.out (by omega) _ _) rfl
set_option maxHeartbeats 4000000 in
set_option maxRecDepth 100000 in
theorem rbetw11 (ax ay bx by' t : Int) (w : World) (hax : In40 ax) (hay : In40 ay) (hbx : In40 bx) (hby : In40 by') (h0 : 0 ≤ t) (h1 : t ≤ 65536) :
    Calls Try.prog 32 #[.agg #[.int .i64 ax, .int .i64 ay], .agg #[.int .i64 bx, .int .i64 by'], .int .i64 t] w fun e w' => e = .returned (.agg #[.int .i64 (betw ax bx t), .int .i64 (betw ay by' t)]) ∧ Below w.heap.size w w' := by
  have r1 := betw40 h0 h1 hax hbx
  have r2 := betw40 h0 h1 hay hby
  unfold In40 at hax hay hbx hby r1 r2
  have g1 := far_prod (d := bx - ax) (by omega) h0 h1
  have g2 := far_prod (d := by' - ay) (by omega) h0 h1
  unfold betw at *
  have S1 : Hid (∀ w : World, Calls Try.prog 42 #[.int .i64 ((bx - ax) * t), .int .i64 65536] w fun e w' => e = .returned (.int .i64 (near ((bx - ax) * t) 65536)) ∧ Below w.heap.size w w') := Lib.hid (fun w => rnear11b ((bx - ax) * t) 65536 w (by omega) (by decide) (by decide))
  have S2 : Hid (∀ w : World, Calls Try.prog 42 #[.int .i64 ((by' - ay) * t), .int .i64 65536] w fun e w' => e = .returned (.int .i64 (near ((by' - ay) * t) 65536)) ∧ Below w.heap.size w w') := Lib.hid (fun w => rnear11b ((by' - ay) * t) 65536 w (by omega) (by decide) (by decide))
  generalize near ((bx - ax) * t) 65536 = A at *
  generalize near ((by' - ay) * t) 65536 = B at *
  have e1 : IntKind.i64.wrap (bx - ax) = bx - ax := IntWalk.i64_in _ (by omega)
  have e2 : IntKind.i64.wrap (by' - ay) = by' - ay := IntWalk.i64_in _ (by omega)
  have e3 : IntKind.i64.wrap ((bx - ax) * t) = (bx - ax) * t := IntWalk.i64_in _ (by omega)
  have e4 : IntKind.i64.wrap ((by' - ay) * t) = (by' - ay) * t := IntWalk.i64_in _ (by omega)
  have e5 : IntKind.i64.wrap (ax + A) = ax + A := IntWalk.i64_in _ (by omega)
  have e6 : IntKind.i64.wrap (ay + B) = ay + B := IntWalk.i64_in _ (by omega)
  obtain ⟨ux, hux⟩ : ∃ d, d = bx - ax := ⟨_, rfl⟩
  obtain ⟨uy, huy⟩ : ∃ d, d = by' - ay := ⟨_, rfl⟩
  rw [← hux] at S1 e3
  rw [← huy] at S2 e4
  obtain ⟨vx, hvx⟩ : ∃ d, d = ux * t := ⟨_, rfl⟩
  obtain ⟨vy, hvy⟩ : ∃ d, d = uy * t := ⟨_, rfl⟩
  rw [← hvx] at S1
  rw [← hvy] at S2
  obtain ⟨X, hX⟩ : ∃ d, d = ax + A := ⟨_, rfl⟩
  obtain ⟨Y, hY⟩ : ∃ d, d = ay + B := ⟨_, rfl⟩
  rw [← hX, ← hY]
  have f1 : IntKind.i64.wrap (bx - ax) = ux := by rw [hux]; exact e1
  have f2 : IntKind.i64.wrap (by' - ay) = uy := by rw [huy]; exact e2
  have f3 : IntKind.i64.wrap (ux * t) = vx := by rw [hvx]; exact e3
  have f4 : IntKind.i64.wrap (uy * t) = vy := by rw [hvy]; exact e4
  have f5 : IntKind.i64.wrap (ax + A) = X := by rw [hX]; exact e5
  have f6 : IntKind.i64.wrap (ay + B) = Y := by rw [hY]; exact e6
  have m1 : IntKind.i64.wrap ((bx - ax) * t) = vx := by rw [← hux]; exact f3
  have m2 : IntKind.i64.wrap ((by' - ay) * t) = vy := by rw [← huy]; exact f4
  clear e1 e2 e3 e4 e5 e6 hux huy hvx hvy hX hY hax hay hbx hby r1 r2 g1 g2 h0 h1
  obtain ⟨k1, k2, k3, k4⟩ := boxes_three w #[.int .i64 ax, .int .i64 ay] #[.int .i64 bx, .int .i64 by'] #[.int .i64 0, .int .i64 0] 23 23 23
  have HP0 := Lib.hid k1; have HQ0 := Lib.hid k2; have HZ0 := Lib.hid k3; have HB0 := Lib.hid k4
  clear k1 k2 k3 k4
  go_enter Try.func32, Try.ntmps32
  go_upto_region 1 with fail
  generalize (((w.alloc (.cells #[.int .i64 ax, .int .i64 ay] 23)).alloc (.cells #[.int .i64 bx, .int .i64 by'] 23)).alloc (.cells #[.int .i64 0, .int .i64 0] 23)) = w1 at *
  have xP0 : w1.cell? ⟨w.heap.size, 0, none⟩ = some (.int .i64 ax) := HP0.out.c 0 rfl
  have xP1 : w1.cell? ⟨w.heap.size, 1, none⟩ = some (.int .i64 ay) := HP0.out.c 1 rfl
  have xQ0 : w1.cell? ⟨w.heap.size + 1, 0, none⟩ = some (.int .i64 bx) := HQ0.out.c 0 rfl
  have xQ1 : w1.cell? ⟨w.heap.size + 1, 1, none⟩ = some (.int .i64 by') := HQ0.out.c 1 rfl
  have HBz := Lib.hid (Below.refl w1.heap.size w1)
  have HBd := Lib.hid HBz.out.drew
  go_region_held3 (fun w' => w'.cell? ⟨w.heap.size, 0, none⟩ = some (.int .i64 ax) ∧ w'.cell? ⟨w.heap.size, 1, none⟩ = some (.int .i64 ay) ∧ w'.cell? ⟨w.heap.size + 1, 0, none⟩ = some (.int .i64 bx) ∧ w'.cell? ⟨w.heap.size + 1, 1, none⟩ = some (.int .i64 by')) (first | (refine ⟨?_, ?_, ?_, ?_⟩ <;> first | with_reducible assumption) | (simp [go_sem, *]; done))
    (first
    | (go_at_call 42; (with_reducible refine (S1.out _).mono ?_); rintro e v1 ⟨rfl, bc1⟩; have HBc1 := Lib.hid (HBd.out.trans (bc1.mono HBd.out.size)); clear xP0 xP1 xQ0 xQ1; have hP_ := HP0.out.next HBc1.out; have xP0 : v1.cell? ⟨w.heap.size, 0, none⟩ = some (.int .i64 ax) := hP_.c 0 rfl; have xP1 : v1.cell? ⟨w.heap.size, 1, none⟩ = some (.int .i64 ay) := hP_.c 1 rfl; clear hP_; have hQ_ := HQ0.out.next HBc1.out; have xQ0 : v1.cell? ⟨w.heap.size + 1, 0, none⟩ = some (.int .i64 bx) := hQ_.c 0 rfl; have xQ1 : v1.cell? ⟨w.heap.size + 1, 1, none⟩ = some (.int .i64 by') := hQ_.c 1 rfl; clear hQ_; clear bc1)
    | (go_at_call 42; (with_reducible refine (S2.out _).mono ?_); rintro e v2 ⟨rfl, bc2⟩; have HBc2 := Lib.hid (HBc1.out.trans (bc2.mono HBc1.out.size)); clear xP0 xP1 xQ0 xQ1; have hP_ := HP0.out.next HBc2.out; have xP0 : v2.cell? ⟨w.heap.size, 0, none⟩ = some (.int .i64 ax) := hP_.c 0 rfl; have xP1 : v2.cell? ⟨w.heap.size, 1, none⟩ = some (.int .i64 ay) := hP_.c 1 rfl; clear hP_; have hQ_ := HQ0.out.next HBc2.out; have xQ0 : v2.cell? ⟨w.heap.size + 1, 0, none⟩ = some (.int .i64 bx) := hQ_.c 0 rfl; have xQ1 : v2.cell? ⟨w.heap.size + 1, 1, none⟩ = some (.int .i64 by') := hQ_.c 1 rfl; clear hQ_; have hZ_ := HZ0.out.next HBc2.out; have uZ0 : v2.cell? ⟨w.heap.size + 1 + 1, 0, none⟩ = some (.int .i64 0) := hZ_.c 0 rfl; have rZ0 := hZ_.z 0; have uZ1 : v2.cell? ⟨w.heap.size + 1 + 1, 1, none⟩ = some (.int .i64 0) := hZ_.c 1 rfl; have rZ1 := hZ_.z 1; clear hZ_; clear bc2)
    )
  clear xP0 xP1 xQ0 xQ1
  clear uZ0 rZ0 uZ1 rZ1
  have HB2 := Lib.hid (HB0.out.trans (HBc2.out.mono HB0.out.size))
  have HZ2 := Lib.hid (HZ0.out.next HBc2.out)
  go_wp2_with fail
  exact pe_ret Try.results32 (PBox.set HZ2.out _ _) (below_pt8 HB2.out (by omega) _ _) rfl
end Go.Proofs.Ytgkjbmejfcijkaa
