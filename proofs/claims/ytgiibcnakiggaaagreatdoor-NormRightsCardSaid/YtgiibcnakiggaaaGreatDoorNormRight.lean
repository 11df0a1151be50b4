/-
  The contract of package norm's rightAlone. (Typed by a program.)
-/
import Derived.Test.YtgiibcnakiggaaaGreatDoorNormKept
import Derived.StillTailTactics
namespace Go.Proofs.YtgiibcnakiggaaaGreatDoor
open Go.RowKit Go.Shelf

theorem kept_head (g : Seg) : ∃ ax ay cx cy rx ry tu lg sw, keptS g = ⟨g.kind, g.tx, g.ty, ax, ay, cx, cy, rx, ry, tu, lg, sw⟩ := by
  unfold keptS
  split
  · exact ⟨_, _, _, _, _, _, _, _, _, rfl⟩
  · split
    · exact ⟨_, _, _, _, _, _, _, _, _, rfl⟩
    · split <;> exact ⟨_, _, _, _, _, _, _, _, _, rfl⟩
theorem ifs9 {α : Type} {p1 p2 p3 p4 p5 p6 p7 p8 p9 : Prop} [Decidable p1] [Decidable p2] [Decidable p3] [Decidable p4] [Decidable p5] [Decidable p6] [Decidable p7] [Decidable p8] [Decidable p9] (r1 r0 : α) :
    (if p1 then if p2 then if p3 then if p4 then if p5 then if p6 then if p7 then if p8 then if p9 then r1 else r0 else r0 else r0 else r0 else r0 else r0 else r0 else r0 else r0) = if p1 ∧ p2 ∧ p3 ∧ p4 ∧ p5 ∧ p6 ∧ p7 ∧ p8 ∧ p9 then r1 else r0 := by
  by_cases h1 : p1 <;> by_cases h2 : p2 <;> by_cases h3 : p3 <;> by_cases h4 : p4 <;> by_cases h5 : p5 <;> by_cases h6 : p6 <;> by_cases h7 : p7 <;> by_cases h8 : p8 <;> by_cases h9 : p9 <;> simp [h1, h2, h3, h4, h5, h6, h7, h8, h9]
attribute [local go_sem] ifs9
set_option maxHeartbeats 16000000 in
set_option maxRecDepth 100000 in
theorem alone_any (g : Seg) (w : World) (hg : SegI g) (r : Bool) (hr : r = true ↔ aloneP g) :
    Calls Tryz.prog 18 #[g.val] w fun e w' => e = .returned (.bool r) ∧ Below w.heap.size w w' := by
  obtain ⟨axk, ayk, cxk, cyk, rxk, ryk, tuk, lgk, swk, hk⟩ := kept_head g
  unfold aloneP at hr
  rw [hk] at hr
  obtain ⟨k, tx, ty, ax, ay, cx, cy, rx, ry, tu, lg, sw⟩ := g
  dsimp only at hr hk
  have IB := Lib.hid (show ∀ w, Calls Tryz.prog 28 #[.agg #[.int .i64 k, .int .i64 tx, .int .i64 ty, .int .i64 ax, .int .i64 ay, .int .i64 cx, .int .i64 cy, .int .i64 rx, .int .i64 ry, .int .i64 tu, .bool lg, .bool sw]] w fun e w' => e = .returned (.bool (decide (inB ⟨k, tx, ty, ax, ay, cx, cy, rx, ry, tu, lg, sw⟩))) ∧ Below w.heap.size w w' from fun w => inBound_any ⟨k, tx, ty, ax, ay, cx, cy, rx, ry, tu, lg, sw⟩ w hg)
  have KP := Lib.hid (show ∀ w, Calls Tryz.prog 38 #[.agg #[.int .i64 k, .int .i64 tx, .int .i64 ty, .int .i64 ax, .int .i64 ay, .int .i64 cx, .int .i64 cy, .int .i64 rx, .int .i64 ry, .int .i64 tu, .bool lg, .bool sw]] w fun e w' => e = .returned (.agg #[.int .i64 k, .int .i64 tx, .int .i64 ty, .int .i64 axk, .int .i64 ayk, .int .i64 cxk, .int .i64 cyk, .int .i64 rxk, .int .i64 ryk, .int .i64 tuk, .bool lgk, .bool swk]) ∧ Below w.heap.size w w' from fun w => by have h := kept_any ⟨k, tx, ty, ax, ay, cx, cy, rx, ry, tu, lg, sw⟩ w; rw [hk] at h; exact h)
  have HB1 := Lib.hid ((Below.refl w.heap.size w).alloc (Nat.le_refl _) (.cells #[.int .i64 k, .int .i64 tx, .int .i64 ty, .int .i64 ax, .int .i64 ay, .int .i64 cx, .int .i64 cy, .int .i64 rx, .int .i64 ry, .int .i64 tu, .bool lg, .bool sw] 42))
  have HP1 : Hid (BoxS w.heap.size ⟨k, tx, ty, ax, ay, cx, cy, rx, ry, tu, lg, sw⟩ (w.alloc (.cells #[.int .i64 k, .int .i64 tx, .int .i64 ty, .int .i64 ax, .int .i64 ay, .int .i64 cx, .int .i64 cy, .int .i64 rx, .int .i64 ry, .int .i64 tu, .bool lg, .bool sw] 42))) := Lib.hid (World.alloc_heap_new w _)
  clear hk hg
  show Calls Tryz.prog 18 #[.agg #[.int .i64 k, .int .i64 tx, .int .i64 ty, .int .i64 ax, .int .i64 ay, .int .i64 cx, .int .i64 cy, .int .i64 rx, .int .i64 ry, .int .i64 tu, .bool lg, .bool sw]] w _
  by_cases h1 : 1 ≤ k
  · by_cases h2 : k ≤ 6
    by_cases hK : ax = axk ∧ ay = ayk ∧ cx = cxk ∧ cy = cyk ∧ rx = rxk ∧ ry = ryk ∧ tu = tuk ∧ lg = lgk ∧ sw = swk
    · obtain ⟨rfl, rfl, rfl, rfl, rfl, rfl, rfl, rfl, rfl⟩ := hK
      have hE : ∀ g h : Seg, g = h → (g = h) = True := fun _ _ h => eq_true h
      by_cases h4 : inB ⟨k, tx, ty, ax, ay, cx, cy, rx, ry, tu, lg, sw⟩
      · have h4' : decide (inB ⟨k, tx, ty, ax, ay, cx, cy, rx, ry, tu, lg, sw⟩) = true := decide_eq_true h4
        rw [h4'] at IB
        by_cases h5 : 0 ≤ rx
        · by_cases h6 : 0 ≤ ry
          · obtain rfl : r = true := hr.2 ⟨h1, h2, rfl, h4, h5, h6⟩
            clear hr h4 h4' hE
            go_enter Tryz.func18, Tryz.ntmps18
            go_wp2_with fail
            generalize hW1 : w.alloc (.cells #[.int .i64 k, .int .i64 tx, .int .i64 ty, .int .i64 ax, .int .i64 ay, .int .i64 cx, .int .i64 cy, .int .i64 rx, .int .i64 ry, .int .i64 tu, .bool lg, .bool sw] 42) = W1 at *
            have q1 := (SegAt.of_block HP1.out)
            have x0 : W1.cell? ⟨w.heap.size, 0, none⟩ = some (.int .i64 k) := q1.c0
            have x1 : W1.cell? ⟨w.heap.size, 1, none⟩ = some (.int .i64 tx) := q1.c1
            have x2 : W1.cell? ⟨w.heap.size, 2, none⟩ = some (.int .i64 ty) := q1.c2
            have x3 : W1.cell? ⟨w.heap.size, 3, none⟩ = some (.int .i64 ax) := q1.c3
            have x4 : W1.cell? ⟨w.heap.size, 4, none⟩ = some (.int .i64 ay) := q1.c4
            have x5 : W1.cell? ⟨w.heap.size, 5, none⟩ = some (.int .i64 cx) := q1.c5
            have x6 : W1.cell? ⟨w.heap.size, 6, none⟩ = some (.int .i64 cy) := q1.c6
            have x7 : W1.cell? ⟨w.heap.size, 7, none⟩ = some (.int .i64 rx) := q1.c7
            have x8 : W1.cell? ⟨w.heap.size, 8, none⟩ = some (.int .i64 ry) := q1.c8
            have x9 : W1.cell? ⟨w.heap.size, 9, none⟩ = some (.int .i64 tu) := q1.c9
            have x10 : W1.cell? ⟨w.heap.size, 10, none⟩ = some (.bool lg) := q1.c10
            have x11 : W1.cell? ⟨w.heap.size, 11, none⟩ = some (.bool sw) := q1.c11
            clear q1 hW1
            have HPd : Hid (BoxS w.heap.size ⟨k, tx, ty, ax, ay, cx, cy, rx, ry, tu, lg, sw⟩ W1.drew) := Lib.hid HP1.out
            have HBd := Lib.hid HB1.out.drew
            go_region_held3 (fun w' => w'.cell? ⟨w.heap.size, 0, none⟩ = some (.int .i64 k) ∧ w'.cell? ⟨w.heap.size, 1, none⟩ = some (.int .i64 tx) ∧ w'.cell? ⟨w.heap.size, 2, none⟩ = some (.int .i64 ty) ∧ w'.cell? ⟨w.heap.size, 3, none⟩ = some (.int .i64 ax) ∧ w'.cell? ⟨w.heap.size, 4, none⟩ = some (.int .i64 ay) ∧ w'.cell? ⟨w.heap.size, 5, none⟩ = some (.int .i64 cx) ∧ w'.cell? ⟨w.heap.size, 6, none⟩ = some (.int .i64 cy) ∧ w'.cell? ⟨w.heap.size, 7, none⟩ = some (.int .i64 rx) ∧ w'.cell? ⟨w.heap.size, 8, none⟩ = some (.int .i64 ry) ∧ w'.cell? ⟨w.heap.size, 9, none⟩ = some (.int .i64 tu) ∧ w'.cell? ⟨w.heap.size, 10, none⟩ = some (.bool lg) ∧ w'.cell? ⟨w.heap.size, 11, none⟩ = some (.bool sw)) (first | (simp [go_sem, *]; done) | (exact ⟨by assumption, by assumption, by assumption, by assumption, by assumption, by assumption, by assumption, by assumption, by assumption, by assumption, by assumption, by assumption⟩))
              (first | (go_at_call 38; (with_reducible refine (KP.out _).mono ?_); rintro e w2 ⟨rfl, b2⟩; have HB2 := Lib.hid (HBd.out.trans (b2.mono HBd.out.size)); have p2 := HPd.out.next b2; have HP2 := Lib.hid p2; have q2 := (SegAt.of_block p2); have y0 : w2.cell? ⟨w.heap.size, 0, none⟩ = some (.int .i64 k) := q2.c0; have y1 : w2.cell? ⟨w.heap.size, 1, none⟩ = some (.int .i64 tx) := q2.c1; have y2 : w2.cell? ⟨w.heap.size, 2, none⟩ = some (.int .i64 ty) := q2.c2; have y3 : w2.cell? ⟨w.heap.size, 3, none⟩ = some (.int .i64 ax) := q2.c3; have y4 : w2.cell? ⟨w.heap.size, 4, none⟩ = some (.int .i64 ay) := q2.c4; have y5 : w2.cell? ⟨w.heap.size, 5, none⟩ = some (.int .i64 cx) := q2.c5; have y6 : w2.cell? ⟨w.heap.size, 6, none⟩ = some (.int .i64 cy) := q2.c6; have y7 : w2.cell? ⟨w.heap.size, 7, none⟩ = some (.int .i64 rx) := q2.c7; have y8 : w2.cell? ⟨w.heap.size, 8, none⟩ = some (.int .i64 ry) := q2.c8; have y9 : w2.cell? ⟨w.heap.size, 9, none⟩ = some (.int .i64 tu) := q2.c9; have y10 : w2.cell? ⟨w.heap.size, 10, none⟩ = some (.bool lg) := q2.c10; have y11 : w2.cell? ⟨w.heap.size, 11, none⟩ = some (.bool sw) := q2.c11; clear q2 p2 b2) | (go_at_call 28; (with_reducible refine (IB.out _).mono ?_); rintro e w3 ⟨rfl, b3⟩; have HB3 := Lib.hid (HB2.out.trans (b3.mono HB2.out.size)); have p3 := HP2.out.next b3; have HP3 := Lib.hid p3; have q3 := (SegAt.of_block p3); have z0 : w3.cell? ⟨w.heap.size, 0, none⟩ = some (.int .i64 k) := q3.c0; have z1 : w3.cell? ⟨w.heap.size, 1, none⟩ = some (.int .i64 tx) := q3.c1; have z2 : w3.cell? ⟨w.heap.size, 2, none⟩ = some (.int .i64 ty) := q3.c2; have z3 : w3.cell? ⟨w.heap.size, 3, none⟩ = some (.int .i64 ax) := q3.c3; have z4 : w3.cell? ⟨w.heap.size, 4, none⟩ = some (.int .i64 ay) := q3.c4; have z5 : w3.cell? ⟨w.heap.size, 5, none⟩ = some (.int .i64 cx) := q3.c5; have z6 : w3.cell? ⟨w.heap.size, 6, none⟩ = some (.int .i64 cy) := q3.c6; have z7 : w3.cell? ⟨w.heap.size, 7, none⟩ = some (.int .i64 rx) := q3.c7; have z8 : w3.cell? ⟨w.heap.size, 8, none⟩ = some (.int .i64 ry) := q3.c8; have z9 : w3.cell? ⟨w.heap.size, 9, none⟩ = some (.int .i64 tu) := q3.c9; have z10 : w3.cell? ⟨w.heap.size, 10, none⟩ = some (.bool lg) := q3.c10; have z11 : w3.cell? ⟨w.heap.size, 11, none⟩ = some (.bool sw) := q3.c11; clear q3 p3 b3))
            all_goals
              go_wp2_with fail
              go_ret
              exact ⟨rfl, by first | exact HB3.out | exact HB3.out.drew | exact below_drewq HB3.out _⟩
          · obtain rfl : r = false := by cases r; rfl; exact absurd (hr.1 rfl).2.2.2.2.2 h6
            clear hr h4 h4' hE
            go_enter Tryz.func18, Tryz.ntmps18
            go_wp2_with fail
            generalize hW1 : w.alloc (.cells #[.int .i64 k, .int .i64 tx, .int .i64 ty, .int .i64 ax, .int .i64 ay, .int .i64 cx, .int .i64 cy, .int .i64 rx, .int .i64 ry, .int .i64 tu, .bool lg, .bool sw] 42) = W1 at *
            have q1 := (SegAt.of_block HP1.out)
            have x0 : W1.cell? ⟨w.heap.size, 0, none⟩ = some (.int .i64 k) := q1.c0
            have x1 : W1.cell? ⟨w.heap.size, 1, none⟩ = some (.int .i64 tx) := q1.c1
            have x2 : W1.cell? ⟨w.heap.size, 2, none⟩ = some (.int .i64 ty) := q1.c2
            have x3 : W1.cell? ⟨w.heap.size, 3, none⟩ = some (.int .i64 ax) := q1.c3
            have x4 : W1.cell? ⟨w.heap.size, 4, none⟩ = some (.int .i64 ay) := q1.c4
            have x5 : W1.cell? ⟨w.heap.size, 5, none⟩ = some (.int .i64 cx) := q1.c5
            have x6 : W1.cell? ⟨w.heap.size, 6, none⟩ = some (.int .i64 cy) := q1.c6
            have x7 : W1.cell? ⟨w.heap.size, 7, none⟩ = some (.int .i64 rx) := q1.c7
            have x8 : W1.cell? ⟨w.heap.size, 8, none⟩ = some (.int .i64 ry) := q1.c8
            have x9 : W1.cell? ⟨w.heap.size, 9, none⟩ = some (.int .i64 tu) := q1.c9
            have x10 : W1.cell? ⟨w.heap.size, 10, none⟩ = some (.bool lg) := q1.c10
            have x11 : W1.cell? ⟨w.heap.size, 11, none⟩ = some (.bool sw) := q1.c11
            clear q1 hW1
            have HPd : Hid (BoxS w.heap.size ⟨k, tx, ty, ax, ay, cx, cy, rx, ry, tu, lg, sw⟩ W1.drew) := Lib.hid HP1.out
            have HBd := Lib.hid HB1.out.drew
            go_region_held3 (fun w' => w'.cell? ⟨w.heap.size, 0, none⟩ = some (.int .i64 k) ∧ w'.cell? ⟨w.heap.size, 1, none⟩ = some (.int .i64 tx) ∧ w'.cell? ⟨w.heap.size, 2, none⟩ = some (.int .i64 ty) ∧ w'.cell? ⟨w.heap.size, 3, none⟩ = some (.int .i64 ax) ∧ w'.cell? ⟨w.heap.size, 4, none⟩ = some (.int .i64 ay) ∧ w'.cell? ⟨w.heap.size, 5, none⟩ = some (.int .i64 cx) ∧ w'.cell? ⟨w.heap.size, 6, none⟩ = some (.int .i64 cy) ∧ w'.cell? ⟨w.heap.size, 7, none⟩ = some (.int .i64 rx) ∧ w'.cell? ⟨w.heap.size, 8, none⟩ = some (.int .i64 ry) ∧ w'.cell? ⟨w.heap.size, 9, none⟩ = some (.int .i64 tu) ∧ w'.cell? ⟨w.heap.size, 10, none⟩ = some (.bool lg) ∧ w'.cell? ⟨w.heap.size, 11, none⟩ = some (.bool sw)) (first | (simp [go_sem, *]; done) | (exact ⟨by assumption, by assumption, by assumption, by assumption, by assumption, by assumption, by assumption, by assumption, by assumption, by assumption, by assumption, by assumption⟩))
              (first | (go_at_call 38; (with_reducible refine (KP.out _).mono ?_); rintro e w2 ⟨rfl, b2⟩; have HB2 := Lib.hid (HBd.out.trans (b2.mono HBd.out.size)); have p2 := HPd.out.next b2; have HP2 := Lib.hid p2; have q2 := (SegAt.of_block p2); have y0 : w2.cell? ⟨w.heap.size, 0, none⟩ = some (.int .i64 k) := q2.c0; have y1 : w2.cell? ⟨w.heap.size, 1, none⟩ = some (.int .i64 tx) := q2.c1; have y2 : w2.cell? ⟨w.heap.size, 2, none⟩ = some (.int .i64 ty) := q2.c2; have y3 : w2.cell? ⟨w.heap.size, 3, none⟩ = some (.int .i64 ax) := q2.c3; have y4 : w2.cell? ⟨w.heap.size, 4, none⟩ = some (.int .i64 ay) := q2.c4; have y5 : w2.cell? ⟨w.heap.size, 5, none⟩ = some (.int .i64 cx) := q2.c5; have y6 : w2.cell? ⟨w.heap.size, 6, none⟩ = some (.int .i64 cy) := q2.c6; have y7 : w2.cell? ⟨w.heap.size, 7, none⟩ = some (.int .i64 rx) := q2.c7; have y8 : w2.cell? ⟨w.heap.size, 8, none⟩ = some (.int .i64 ry) := q2.c8; have y9 : w2.cell? ⟨w.heap.size, 9, none⟩ = some (.int .i64 tu) := q2.c9; have y10 : w2.cell? ⟨w.heap.size, 10, none⟩ = some (.bool lg) := q2.c10; have y11 : w2.cell? ⟨w.heap.size, 11, none⟩ = some (.bool sw) := q2.c11; clear q2 p2 b2) | (go_at_call 28; (with_reducible refine (IB.out _).mono ?_); rintro e w3 ⟨rfl, b3⟩; have HB3 := Lib.hid (HB2.out.trans (b3.mono HB2.out.size)); have p3 := HP2.out.next b3; have HP3 := Lib.hid p3; have q3 := (SegAt.of_block p3); have z0 : w3.cell? ⟨w.heap.size, 0, none⟩ = some (.int .i64 k) := q3.c0; have z1 : w3.cell? ⟨w.heap.size, 1, none⟩ = some (.int .i64 tx) := q3.c1; have z2 : w3.cell? ⟨w.heap.size, 2, none⟩ = some (.int .i64 ty) := q3.c2; have z3 : w3.cell? ⟨w.heap.size, 3, none⟩ = some (.int .i64 ax) := q3.c3; have z4 : w3.cell? ⟨w.heap.size, 4, none⟩ = some (.int .i64 ay) := q3.c4; have z5 : w3.cell? ⟨w.heap.size, 5, none⟩ = some (.int .i64 cx) := q3.c5; have z6 : w3.cell? ⟨w.heap.size, 6, none⟩ = some (.int .i64 cy) := q3.c6; have z7 : w3.cell? ⟨w.heap.size, 7, none⟩ = some (.int .i64 rx) := q3.c7; have z8 : w3.cell? ⟨w.heap.size, 8, none⟩ = some (.int .i64 ry) := q3.c8; have z9 : w3.cell? ⟨w.heap.size, 9, none⟩ = some (.int .i64 tu) := q3.c9; have z10 : w3.cell? ⟨w.heap.size, 10, none⟩ = some (.bool lg) := q3.c10; have z11 : w3.cell? ⟨w.heap.size, 11, none⟩ = some (.bool sw) := q3.c11; clear q3 p3 b3))
            all_goals
              go_wp2_with fail
              go_ret
              exact ⟨by show Ending.returned (.bool (decide (0 ≤ ry))) = _; rw [decide_eq_false (show ¬ 0 ≤ ry by omega)], by first | exact HB3.out | exact HB3.out.drew | exact below_drewq HB3.out _⟩
        · obtain rfl : r = false := by cases r; rfl; exact absurd (hr.1 rfl).2.2.2.2.1 h5
          clear hr h4 h4' hE
          go_enter Tryz.func18, Tryz.ntmps18
          go_wp2_with fail
          generalize hW1 : w.alloc (.cells #[.int .i64 k, .int .i64 tx, .int .i64 ty, .int .i64 ax, .int .i64 ay, .int .i64 cx, .int .i64 cy, .int .i64 rx, .int .i64 ry, .int .i64 tu, .bool lg, .bool sw] 42) = W1 at *
          have q1 := (SegAt.of_block HP1.out)
          have x0 : W1.cell? ⟨w.heap.size, 0, none⟩ = some (.int .i64 k) := q1.c0
          have x1 : W1.cell? ⟨w.heap.size, 1, none⟩ = some (.int .i64 tx) := q1.c1
          have x2 : W1.cell? ⟨w.heap.size, 2, none⟩ = some (.int .i64 ty) := q1.c2
          have x3 : W1.cell? ⟨w.heap.size, 3, none⟩ = some (.int .i64 ax) := q1.c3
          have x4 : W1.cell? ⟨w.heap.size, 4, none⟩ = some (.int .i64 ay) := q1.c4
          have x5 : W1.cell? ⟨w.heap.size, 5, none⟩ = some (.int .i64 cx) := q1.c5
          have x6 : W1.cell? ⟨w.heap.size, 6, none⟩ = some (.int .i64 cy) := q1.c6
          have x7 : W1.cell? ⟨w.heap.size, 7, none⟩ = some (.int .i64 rx) := q1.c7
          have x8 : W1.cell? ⟨w.heap.size, 8, none⟩ = some (.int .i64 ry) := q1.c8
          have x9 : W1.cell? ⟨w.heap.size, 9, none⟩ = some (.int .i64 tu) := q1.c9
          have x10 : W1.cell? ⟨w.heap.size, 10, none⟩ = some (.bool lg) := q1.c10
          have x11 : W1.cell? ⟨w.heap.size, 11, none⟩ = some (.bool sw) := q1.c11
          clear q1 hW1
          have HPd : Hid (BoxS w.heap.size ⟨k, tx, ty, ax, ay, cx, cy, rx, ry, tu, lg, sw⟩ W1.drew) := Lib.hid HP1.out
          have HBd := Lib.hid HB1.out.drew
          first | (go_region_with (first | (go_at_call 38; (with_reducible refine (KP.out _).mono ?_); rintro e w2 ⟨rfl, b2⟩; have HB2 := Lib.hid (HBd.out.trans (b2.mono HBd.out.size)); have p2 := HPd.out.next b2; have HP2 := Lib.hid p2; have q2 := (SegAt.of_block p2); have y0 : w2.cell? ⟨w.heap.size, 0, none⟩ = some (.int .i64 k) := q2.c0; have y1 : w2.cell? ⟨w.heap.size, 1, none⟩ = some (.int .i64 tx) := q2.c1; have y2 : w2.cell? ⟨w.heap.size, 2, none⟩ = some (.int .i64 ty) := q2.c2; have y3 : w2.cell? ⟨w.heap.size, 3, none⟩ = some (.int .i64 ax) := q2.c3; have y4 : w2.cell? ⟨w.heap.size, 4, none⟩ = some (.int .i64 ay) := q2.c4; have y5 : w2.cell? ⟨w.heap.size, 5, none⟩ = some (.int .i64 cx) := q2.c5; have y6 : w2.cell? ⟨w.heap.size, 6, none⟩ = some (.int .i64 cy) := q2.c6; have y7 : w2.cell? ⟨w.heap.size, 7, none⟩ = some (.int .i64 rx) := q2.c7; have y8 : w2.cell? ⟨w.heap.size, 8, none⟩ = some (.int .i64 ry) := q2.c8; have y9 : w2.cell? ⟨w.heap.size, 9, none⟩ = some (.int .i64 tu) := q2.c9; have y10 : w2.cell? ⟨w.heap.size, 10, none⟩ = some (.bool lg) := q2.c10; have y11 : w2.cell? ⟨w.heap.size, 11, none⟩ = some (.bool sw) := q2.c11; clear q2 p2 b2) | (go_at_call 28; (with_reducible refine (IB.out _).mono ?_); rintro e w3 ⟨rfl, b3⟩; have HB3 := Lib.hid (HB2.out.trans (b3.mono HB2.out.size)); have p3 := HP2.out.next b3; have HP3 := Lib.hid p3; have q3 := (SegAt.of_block p3); have z0 : w3.cell? ⟨w.heap.size, 0, none⟩ = some (.int .i64 k) := q3.c0; have z1 : w3.cell? ⟨w.heap.size, 1, none⟩ = some (.int .i64 tx) := q3.c1; have z2 : w3.cell? ⟨w.heap.size, 2, none⟩ = some (.int .i64 ty) := q3.c2; have z3 : w3.cell? ⟨w.heap.size, 3, none⟩ = some (.int .i64 ax) := q3.c3; have z4 : w3.cell? ⟨w.heap.size, 4, none⟩ = some (.int .i64 ay) := q3.c4; have z5 : w3.cell? ⟨w.heap.size, 5, none⟩ = some (.int .i64 cx) := q3.c5; have z6 : w3.cell? ⟨w.heap.size, 6, none⟩ = some (.int .i64 cy) := q3.c6; have z7 : w3.cell? ⟨w.heap.size, 7, none⟩ = some (.int .i64 rx) := q3.c7; have z8 : w3.cell? ⟨w.heap.size, 8, none⟩ = some (.int .i64 ry) := q3.c8; have z9 : w3.cell? ⟨w.heap.size, 9, none⟩ = some (.int .i64 tu) := q3.c9; have z10 : w3.cell? ⟨w.heap.size, 10, none⟩ = some (.bool lg) := q3.c10; have z11 : w3.cell? ⟨w.heap.size, 11, none⟩ = some (.bool sw) := q3.c11; clear q3 p3 b3))) | fail
          all_goals
            go_wp2_with fail
            go_ret
            exact ⟨rfl, by first | exact HB3.out | exact HB3.out.drew | exact below_drewq HB3.out _⟩
      · have h4' : decide (inB ⟨k, tx, ty, ax, ay, cx, cy, rx, ry, tu, lg, sw⟩) = false := decide_eq_false h4
        rw [h4'] at IB
        obtain rfl : r = false := by cases r; rfl; exact absurd (hr.1 rfl).2.2.2.1 h4
        clear hr h4 h4' hE
        go_enter Tryz.func18, Tryz.ntmps18
        go_wp2_with fail
        generalize hW1 : w.alloc (.cells #[.int .i64 k, .int .i64 tx, .int .i64 ty, .int .i64 ax, .int .i64 ay, .int .i64 cx, .int .i64 cy, .int .i64 rx, .int .i64 ry, .int .i64 tu, .bool lg, .bool sw] 42) = W1 at *
        have q1 := (SegAt.of_block HP1.out)
        have x0 : W1.cell? ⟨w.heap.size, 0, none⟩ = some (.int .i64 k) := q1.c0
        have x1 : W1.cell? ⟨w.heap.size, 1, none⟩ = some (.int .i64 tx) := q1.c1
        have x2 : W1.cell? ⟨w.heap.size, 2, none⟩ = some (.int .i64 ty) := q1.c2
        have x3 : W1.cell? ⟨w.heap.size, 3, none⟩ = some (.int .i64 ax) := q1.c3
        have x4 : W1.cell? ⟨w.heap.size, 4, none⟩ = some (.int .i64 ay) := q1.c4
        have x5 : W1.cell? ⟨w.heap.size, 5, none⟩ = some (.int .i64 cx) := q1.c5
        have x6 : W1.cell? ⟨w.heap.size, 6, none⟩ = some (.int .i64 cy) := q1.c6
        have x7 : W1.cell? ⟨w.heap.size, 7, none⟩ = some (.int .i64 rx) := q1.c7
        have x8 : W1.cell? ⟨w.heap.size, 8, none⟩ = some (.int .i64 ry) := q1.c8
        have x9 : W1.cell? ⟨w.heap.size, 9, none⟩ = some (.int .i64 tu) := q1.c9
        have x10 : W1.cell? ⟨w.heap.size, 10, none⟩ = some (.bool lg) := q1.c10
        have x11 : W1.cell? ⟨w.heap.size, 11, none⟩ = some (.bool sw) := q1.c11
        clear q1 hW1
        have HPd : Hid (BoxS w.heap.size ⟨k, tx, ty, ax, ay, cx, cy, rx, ry, tu, lg, sw⟩ W1.drew) := Lib.hid HP1.out
        have HBd := Lib.hid HB1.out.drew
        first | (go_region_with (first | (go_at_call 38; (with_reducible refine (KP.out _).mono ?_); rintro e w2 ⟨rfl, b2⟩; have HB2 := Lib.hid (HBd.out.trans (b2.mono HBd.out.size)); have p2 := HPd.out.next b2; have HP2 := Lib.hid p2; have q2 := (SegAt.of_block p2); have y0 : w2.cell? ⟨w.heap.size, 0, none⟩ = some (.int .i64 k) := q2.c0; have y1 : w2.cell? ⟨w.heap.size, 1, none⟩ = some (.int .i64 tx) := q2.c1; have y2 : w2.cell? ⟨w.heap.size, 2, none⟩ = some (.int .i64 ty) := q2.c2; have y3 : w2.cell? ⟨w.heap.size, 3, none⟩ = some (.int .i64 ax) := q2.c3; have y4 : w2.cell? ⟨w.heap.size, 4, none⟩ = some (.int .i64 ay) := q2.c4; have y5 : w2.cell? ⟨w.heap.size, 5, none⟩ = some (.int .i64 cx) := q2.c5; have y6 : w2.cell? ⟨w.heap.size, 6, none⟩ = some (.int .i64 cy) := q2.c6; have y7 : w2.cell? ⟨w.heap.size, 7, none⟩ = some (.int .i64 rx) := q2.c7; have y8 : w2.cell? ⟨w.heap.size, 8, none⟩ = some (.int .i64 ry) := q2.c8; have y9 : w2.cell? ⟨w.heap.size, 9, none⟩ = some (.int .i64 tu) := q2.c9; have y10 : w2.cell? ⟨w.heap.size, 10, none⟩ = some (.bool lg) := q2.c10; have y11 : w2.cell? ⟨w.heap.size, 11, none⟩ = some (.bool sw) := q2.c11; clear q2 p2 b2) | (go_at_call 28; (with_reducible refine (IB.out _).mono ?_); rintro e w3 ⟨rfl, b3⟩; have HB3 := Lib.hid (HB2.out.trans (b3.mono HB2.out.size)); have p3 := HP2.out.next b3; have HP3 := Lib.hid p3; have q3 := (SegAt.of_block p3); have z0 : w3.cell? ⟨w.heap.size, 0, none⟩ = some (.int .i64 k) := q3.c0; have z1 : w3.cell? ⟨w.heap.size, 1, none⟩ = some (.int .i64 tx) := q3.c1; have z2 : w3.cell? ⟨w.heap.size, 2, none⟩ = some (.int .i64 ty) := q3.c2; have z3 : w3.cell? ⟨w.heap.size, 3, none⟩ = some (.int .i64 ax) := q3.c3; have z4 : w3.cell? ⟨w.heap.size, 4, none⟩ = some (.int .i64 ay) := q3.c4; have z5 : w3.cell? ⟨w.heap.size, 5, none⟩ = some (.int .i64 cx) := q3.c5; have z6 : w3.cell? ⟨w.heap.size, 6, none⟩ = some (.int .i64 cy) := q3.c6; have z7 : w3.cell? ⟨w.heap.size, 7, none⟩ = some (.int .i64 rx) := q3.c7; have z8 : w3.cell? ⟨w.heap.size, 8, none⟩ = some (.int .i64 ry) := q3.c8; have z9 : w3.cell? ⟨w.heap.size, 9, none⟩ = some (.int .i64 tu) := q3.c9; have z10 : w3.cell? ⟨w.heap.size, 10, none⟩ = some (.bool lg) := q3.c10; have z11 : w3.cell? ⟨w.heap.size, 11, none⟩ = some (.bool sw) := q3.c11; clear q3 p3 b3))) | fail
        all_goals
          go_wp2_with fail
          go_ret
          exact ⟨rfl, by first | exact HB3.out | exact HB3.out.drew | exact below_drewq HB3.out _⟩
    · obtain rfl : r = false := by
        cases r
        · rfl
        · have h := (hr.1 rfl).2.2.1
          simp only [Seg.mk.injEq] at h
          exact absurd (by first | exact h.2.2.2 | simpa using h) hK
      clear hr
      go_enter Tryz.func18, Tryz.ntmps18
      go_wp2_with fail
      generalize hW1 : w.alloc (.cells #[.int .i64 k, .int .i64 tx, .int .i64 ty, .int .i64 ax, .int .i64 ay, .int .i64 cx, .int .i64 cy, .int .i64 rx, .int .i64 ry, .int .i64 tu, .bool lg, .bool sw] 42) = W1 at *
      have q1 := (SegAt.of_block HP1.out)
      have x0 : W1.cell? ⟨w.heap.size, 0, none⟩ = some (.int .i64 k) := q1.c0
      have x1 : W1.cell? ⟨w.heap.size, 1, none⟩ = some (.int .i64 tx) := q1.c1
      have x2 : W1.cell? ⟨w.heap.size, 2, none⟩ = some (.int .i64 ty) := q1.c2
      have x3 : W1.cell? ⟨w.heap.size, 3, none⟩ = some (.int .i64 ax) := q1.c3
      have x4 : W1.cell? ⟨w.heap.size, 4, none⟩ = some (.int .i64 ay) := q1.c4
      have x5 : W1.cell? ⟨w.heap.size, 5, none⟩ = some (.int .i64 cx) := q1.c5
      have x6 : W1.cell? ⟨w.heap.size, 6, none⟩ = some (.int .i64 cy) := q1.c6
      have x7 : W1.cell? ⟨w.heap.size, 7, none⟩ = some (.int .i64 rx) := q1.c7
      have x8 : W1.cell? ⟨w.heap.size, 8, none⟩ = some (.int .i64 ry) := q1.c8
      have x9 : W1.cell? ⟨w.heap.size, 9, none⟩ = some (.int .i64 tu) := q1.c9
      have x10 : W1.cell? ⟨w.heap.size, 10, none⟩ = some (.bool lg) := q1.c10
      have x11 : W1.cell? ⟨w.heap.size, 11, none⟩ = some (.bool sw) := q1.c11
      clear q1 hW1
      have HPd : Hid (BoxS w.heap.size ⟨k, tx, ty, ax, ay, cx, cy, rx, ry, tu, lg, sw⟩ W1.drew) := Lib.hid HP1.out
      have HBd := Lib.hid HB1.out.drew
      first | (go_region_with (first | (go_at_call 38; (with_reducible refine (KP.out _).mono ?_); rintro e w2 ⟨rfl, b2⟩; have HB2 := Lib.hid (HBd.out.trans (b2.mono HBd.out.size)); have p2 := HPd.out.next b2; have HP2 := Lib.hid p2; have q2 := (SegAt.of_block p2); have y0 : w2.cell? ⟨w.heap.size, 0, none⟩ = some (.int .i64 k) := q2.c0; have y1 : w2.cell? ⟨w.heap.size, 1, none⟩ = some (.int .i64 tx) := q2.c1; have y2 : w2.cell? ⟨w.heap.size, 2, none⟩ = some (.int .i64 ty) := q2.c2; have y3 : w2.cell? ⟨w.heap.size, 3, none⟩ = some (.int .i64 ax) := q2.c3; have y4 : w2.cell? ⟨w.heap.size, 4, none⟩ = some (.int .i64 ay) := q2.c4; have y5 : w2.cell? ⟨w.heap.size, 5, none⟩ = some (.int .i64 cx) := q2.c5; have y6 : w2.cell? ⟨w.heap.size, 6, none⟩ = some (.int .i64 cy) := q2.c6; have y7 : w2.cell? ⟨w.heap.size, 7, none⟩ = some (.int .i64 rx) := q2.c7; have y8 : w2.cell? ⟨w.heap.size, 8, none⟩ = some (.int .i64 ry) := q2.c8; have y9 : w2.cell? ⟨w.heap.size, 9, none⟩ = some (.int .i64 tu) := q2.c9; have y10 : w2.cell? ⟨w.heap.size, 10, none⟩ = some (.bool lg) := q2.c10; have y11 : w2.cell? ⟨w.heap.size, 11, none⟩ = some (.bool sw) := q2.c11; clear q2 p2 b2))) | fail
      all_goals
        go_wp2_with fail
        go_ret
        exact ⟨rfl, by first | exact HB2.out | exact HB2.out.drew | exact below_drewq HB2.out _⟩
    · obtain rfl : r = false := by cases r; rfl; exact absurd (hr.1 rfl).2.1 h2
      have d2 : decide (k ≤ 6) = false := decide_eq_false h2
      clear hr
      go_enter Tryz.func18, Tryz.ntmps18
      go_wp2_with fail
      generalize hW1 : w.alloc (.cells #[.int .i64 k, .int .i64 tx, .int .i64 ty, .int .i64 ax, .int .i64 ay, .int .i64 cx, .int .i64 cy, .int .i64 rx, .int .i64 ry, .int .i64 tu, .bool lg, .bool sw] 42) = W1 at *
      have q1 := (SegAt.of_block HP1.out)
      have x0 : W1.cell? ⟨w.heap.size, 0, none⟩ = some (.int .i64 k) := q1.c0
      have x1 : W1.cell? ⟨w.heap.size, 1, none⟩ = some (.int .i64 tx) := q1.c1
      have x2 : W1.cell? ⟨w.heap.size, 2, none⟩ = some (.int .i64 ty) := q1.c2
      have x3 : W1.cell? ⟨w.heap.size, 3, none⟩ = some (.int .i64 ax) := q1.c3
      have x4 : W1.cell? ⟨w.heap.size, 4, none⟩ = some (.int .i64 ay) := q1.c4
      have x5 : W1.cell? ⟨w.heap.size, 5, none⟩ = some (.int .i64 cx) := q1.c5
      have x6 : W1.cell? ⟨w.heap.size, 6, none⟩ = some (.int .i64 cy) := q1.c6
      have x7 : W1.cell? ⟨w.heap.size, 7, none⟩ = some (.int .i64 rx) := q1.c7
      have x8 : W1.cell? ⟨w.heap.size, 8, none⟩ = some (.int .i64 ry) := q1.c8
      have x9 : W1.cell? ⟨w.heap.size, 9, none⟩ = some (.int .i64 tu) := q1.c9
      have x10 : W1.cell? ⟨w.heap.size, 10, none⟩ = some (.bool lg) := q1.c10
      have x11 : W1.cell? ⟨w.heap.size, 11, none⟩ = some (.bool sw) := q1.c11
      clear q1 hW1
      go_quiet (fail)
      all_goals
        go_wp2_with fail
        go_ret
        exact ⟨rfl, by first | exact HB1.out | exact HB1.out.drew | exact below_drewq HB1.out _⟩
  · obtain rfl : r = false := by cases r; rfl; exact absurd (hr.1 rfl).1 h1
    have d1 : decide (1 ≤ k) = false := decide_eq_false h1
    clear hr
    go_enter Tryz.func18, Tryz.ntmps18
    go_wp2_with fail
    generalize hW1 : w.alloc (.cells #[.int .i64 k, .int .i64 tx, .int .i64 ty, .int .i64 ax, .int .i64 ay, .int .i64 cx, .int .i64 cy, .int .i64 rx, .int .i64 ry, .int .i64 tu, .bool lg, .bool sw] 42) = W1 at *
    have q1 := (SegAt.of_block HP1.out)
    have x0 : W1.cell? ⟨w.heap.size, 0, none⟩ = some (.int .i64 k) := q1.c0
    have x1 : W1.cell? ⟨w.heap.size, 1, none⟩ = some (.int .i64 tx) := q1.c1
    have x2 : W1.cell? ⟨w.heap.size, 2, none⟩ = some (.int .i64 ty) := q1.c2
    have x3 : W1.cell? ⟨w.heap.size, 3, none⟩ = some (.int .i64 ax) := q1.c3
    have x4 : W1.cell? ⟨w.heap.size, 4, none⟩ = some (.int .i64 ay) := q1.c4
    have x5 : W1.cell? ⟨w.heap.size, 5, none⟩ = some (.int .i64 cx) := q1.c5
    have x6 : W1.cell? ⟨w.heap.size, 6, none⟩ = some (.int .i64 cy) := q1.c6
    have x7 : W1.cell? ⟨w.heap.size, 7, none⟩ = some (.int .i64 rx) := q1.c7
    have x8 : W1.cell? ⟨w.heap.size, 8, none⟩ = some (.int .i64 ry) := q1.c8
    have x9 : W1.cell? ⟨w.heap.size, 9, none⟩ = some (.int .i64 tu) := q1.c9
    have x10 : W1.cell? ⟨w.heap.size, 10, none⟩ = some (.bool lg) := q1.c10
    have x11 : W1.cell? ⟨w.heap.size, 11, none⟩ = some (.bool sw) := q1.c11
    clear q1 hW1
    go_quiet (fail)
    all_goals
      go_wp2_with fail
      go_ret
      exact ⟨rfl, by first | exact HB1.out | exact HB1.out.drew | exact below_drewq HB1.out _⟩
end Go.Proofs.YtgiibcnakiggaaaGreatDoor
