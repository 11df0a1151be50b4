/-
  The document's answer of layer 8: Then. (Typed by a program.)
-/
import Derived.Test.YthnjdncnmdmjaaaAffRef
import Derived.Test.YthnjdncnmdmjaaaAffCell
import Derived.Deep.DeepCutAuto
namespace Go.Proofs.Ythnjdncnmdmjaaa
open Go.RowKit Go.Shelf

set_option maxHeartbeats 16000000 in
set_option maxRecDepth 100000 in
theorem rthen8 (m n : Mtx) (w : World) : Calls Try.prog 18 #[m.val, n.val] w fun e w' => e = .returned (ME (thenS m n)) ∧ Below w.heap.size w w' := by
  have RM := Lib.hid (fun w => rright8 m w)
  have RN := Lib.hid (fun w => rright8 n w)
  obtain ⟨hm, hn, hz, hb⟩ := boxes3m w m n
  obtain ⟨R, hR⟩ : ∃ R, thenS m n = R := ⟨_, rfl⟩
  rw [hR]
  have HR := Lib.hid hR
  clear hR
  obtain ⟨a, b, c, d, e0, f⟩ := m
  obtain ⟨a', b', c', d', e', f'⟩ := n
  unfold Mtx.val at RM RN
  simp only [Mtx.cells, zeroM] at RM RN hm hn hz hb
  have HMs := Lib.hid hm
  have HNs := Lib.hid hn
  have HZs := Lib.hid hz
  have HBs := Lib.hid hb
  clear hm hn hz hb
  show Calls _ _ #[.agg #[.int .i64 a, .int .i64 b, .int .i64 c, .int .i64 d, .int .i64 e0, .int .i64 f], .agg #[.int .i64 a', .int .i64 b', .int .i64 c', .int .i64 d', .int .i64 e', .int .i64 f']] w _
  go_enter Try.func18, Try.ntmps18
  go_wp2_with fail
  generalize ((w.alloc (.cells #[.int .i64 a, .int .i64 b, .int .i64 c, .int .i64 d, .int .i64 e0, .int .i64 f] 23)).alloc (.cells #[.int .i64 a', .int .i64 b', .int .i64 c', .int .i64 d', .int .i64 e', .int .i64 f'] 23)).alloc (.cells #[.int .i64 0, .int .i64 0, .int .i64 0, .int .i64 0, .int .i64 0, .int .i64 0] 23) = W1 at *
  by_cases hr : Mtx.right ⟨a, b, c, d, e0, f⟩
  case neg =>
    obtain rfl : (zeroM, 1) = R := by rw [← HR.out]; unfold thenS; rw [if_neg (fun h => hr h.1)]
    rw [decide_eq_false hr] at RM
    refine (RM.out _).mono ?_
    rintro e vt ⟨rfl, bt⟩
    have HBt := Lib.hid (HBs.out.trans (bt.mono HBs.out.size))
    have HMt := Lib.hid (HMs.out.next bt)
    have HNt := Lib.hid (HNs.out.next bt)
    have HZt := Lib.hid (HZs.out.next bt)
    clear bt
    have zt_0 : vt.cell? ⟨w.heap.size + 1 + 1, 0, none⟩ = some (.int .i64 0) := HZt.out.c0
    have qt_0 := HZt.out.z 0
    have zt_1 : vt.cell? ⟨w.heap.size + 1 + 1, 1, none⟩ = some (.int .i64 0) := HZt.out.c1
    have qt_1 := HZt.out.z 1
    have zt_2 : vt.cell? ⟨w.heap.size + 1 + 1, 2, none⟩ = some (.int .i64 0) := HZt.out.c2
    have qt_2 := HZt.out.z 2
    have zt_3 : vt.cell? ⟨w.heap.size + 1 + 1, 3, none⟩ = some (.int .i64 0) := HZt.out.c3
    have qt_3 := HZt.out.z 3
    have zt_4 : vt.cell? ⟨w.heap.size + 1 + 1, 4, none⟩ = some (.int .i64 0) := HZt.out.c4
    have qt_4 := HZt.out.z 4
    have zt_5 : vt.cell? ⟨w.heap.size + 1 + 1, 5, none⟩ = some (.int .i64 0) := HZt.out.c5
    have qt_5 := HZt.out.z 5
    go_wp2_with fail
    exact me_close8 Try.results18 (HZt.out.set 0 0 0 0 0 0) (below_six HBt.out (by omega) (.int .i64 0) (.int .i64 0) (.int .i64 0) (.int .i64 0) (.int .i64 0) (.int .i64 0)) rfl rfl
  rw [decide_eq_true hr] at RM
  refine (RM.out _).mono ?_
  rintro e vt ⟨rfl, bt⟩
  have HBt := Lib.hid (HBs.out.trans (bt.mono HBs.out.size))
  have HMt := Lib.hid (HMs.out.next bt)
  have HNt := Lib.hid (HNs.out.next bt)
  have HZt := Lib.hid (HZs.out.next bt)
  clear bt
  have xt_0 : vt.cell? ⟨w.heap.size, 0, none⟩ = some (.int .i64 a) := HMt.out.c0
  have xt_1 : vt.cell? ⟨w.heap.size, 1, none⟩ = some (.int .i64 b) := HMt.out.c1
  have xt_2 : vt.cell? ⟨w.heap.size, 2, none⟩ = some (.int .i64 c) := HMt.out.c2
  have xt_3 : vt.cell? ⟨w.heap.size, 3, none⟩ = some (.int .i64 d) := HMt.out.c3
  have xt_4 : vt.cell? ⟨w.heap.size, 4, none⟩ = some (.int .i64 e0) := HMt.out.c4
  have xt_5 : vt.cell? ⟨w.heap.size, 5, none⟩ = some (.int .i64 f) := HMt.out.c5
  have xt_6 : vt.cell? ⟨w.heap.size + 1, 0, none⟩ = some (.int .i64 a') := HNt.out.c0
  have xt_7 : vt.cell? ⟨w.heap.size + 1, 1, none⟩ = some (.int .i64 b') := HNt.out.c1
  have xt_8 : vt.cell? ⟨w.heap.size + 1, 2, none⟩ = some (.int .i64 c') := HNt.out.c2
  have xt_9 : vt.cell? ⟨w.heap.size + 1, 3, none⟩ = some (.int .i64 d') := HNt.out.c3
  have xt_10 : vt.cell? ⟨w.heap.size + 1, 4, none⟩ = some (.int .i64 e') := HNt.out.c4
  have xt_11 : vt.cell? ⟨w.heap.size + 1, 5, none⟩ = some (.int .i64 f') := HNt.out.c5
  by_cases hs : Mtx.right ⟨a', b', c', d', e', f'⟩
  case neg =>
    obtain rfl : (zeroM, 1) = R := by rw [← HR.out]; unfold thenS; rw [if_neg (fun h => hs h.2)]
    rw [decide_eq_false hs] at RN
    go_wp2_with fail
    refine (RN.out _).mono ?_
    rintro e v0 ⟨rfl, b0⟩
    have HB0 := Lib.hid (HBt.out.trans (b0.mono HBt.out.size))
    have HM0 := Lib.hid (HMt.out.next b0)
    have HN0 := Lib.hid (HNt.out.next b0)
    have HZ0 := Lib.hid (HZt.out.next b0)
    clear b0
    have z0_0 : v0.cell? ⟨w.heap.size + 1 + 1, 0, none⟩ = some (.int .i64 0) := HZ0.out.c0
    have q0_0 := HZ0.out.z 0
    have z0_1 : v0.cell? ⟨w.heap.size + 1 + 1, 1, none⟩ = some (.int .i64 0) := HZ0.out.c1
    have q0_1 := HZ0.out.z 1
    have z0_2 : v0.cell? ⟨w.heap.size + 1 + 1, 2, none⟩ = some (.int .i64 0) := HZ0.out.c2
    have q0_2 := HZ0.out.z 2
    have z0_3 : v0.cell? ⟨w.heap.size + 1 + 1, 3, none⟩ = some (.int .i64 0) := HZ0.out.c3
    have q0_3 := HZ0.out.z 3
    have z0_4 : v0.cell? ⟨w.heap.size + 1 + 1, 4, none⟩ = some (.int .i64 0) := HZ0.out.c4
    have q0_4 := HZ0.out.z 4
    have z0_5 : v0.cell? ⟨w.heap.size + 1 + 1, 5, none⟩ = some (.int .i64 0) := HZ0.out.c5
    have q0_5 := HZ0.out.z 5
    go_wp2_with fail
    exact me_close8 Try.results18 (HZ0.out.set 0 0 0 0 0 0) (below_six HB0.out (by omega) (.int .i64 0) (.int .i64 0) (.int .i64 0) (.int .i64 0) (.int .i64 0) (.int .i64 0)) rfl rfl
  rw [decide_eq_true hs] at RN
  go_wp2_with fail
  refine (RN.out _).mono ?_
  rintro e v0 ⟨rfl, b0⟩
  have HB0 := Lib.hid (HBt.out.trans (b0.mono HBt.out.size))
  have HM0 := Lib.hid (HMt.out.next b0)
  have HN0 := Lib.hid (HNt.out.next b0)
  have HZ0 := Lib.hid (HZt.out.next b0)
  clear b0
  clear xt_0 xt_1 xt_2 xt_3 xt_4 xt_5 xt_6 xt_7 xt_8 xt_9 xt_10 xt_11
  have x0_0 : v0.cell? ⟨w.heap.size, 0, none⟩ = some (.int .i64 a) := HM0.out.c0
  have x0_1 : v0.cell? ⟨w.heap.size, 1, none⟩ = some (.int .i64 b) := HM0.out.c1
  have x0_2 : v0.cell? ⟨w.heap.size, 2, none⟩ = some (.int .i64 c) := HM0.out.c2
  have x0_3 : v0.cell? ⟨w.heap.size, 3, none⟩ = some (.int .i64 d) := HM0.out.c3
  have x0_4 : v0.cell? ⟨w.heap.size, 4, none⟩ = some (.int .i64 e0) := HM0.out.c4
  have x0_5 : v0.cell? ⟨w.heap.size, 5, none⟩ = some (.int .i64 f) := HM0.out.c5
  have x0_6 : v0.cell? ⟨w.heap.size + 1, 0, none⟩ = some (.int .i64 a') := HN0.out.c0
  have x0_7 : v0.cell? ⟨w.heap.size + 1, 1, none⟩ = some (.int .i64 b') := HN0.out.c1
  have x0_8 : v0.cell? ⟨w.heap.size + 1, 2, none⟩ = some (.int .i64 c') := HN0.out.c2
  have x0_9 : v0.cell? ⟨w.heap.size + 1, 3, none⟩ = some (.int .i64 d') := HN0.out.c3
  have x0_10 : v0.cell? ⟨w.heap.size + 1, 4, none⟩ = some (.int .i64 e') := HN0.out.c4
  have x0_11 : v0.cell? ⟨w.heap.size + 1, 5, none⟩ = some (.int .i64 f') := HN0.out.c5
  have hR := HR.out
  unfold thenS at hR
  rw [if_pos ⟨hr, hs⟩] at hR
  unfold thenM at hR
  dsimp only at hR
  have S0 := Lib.hid (fun w => rsum8 a' a c' b 0 w (hs.1) (hr.1) (hs.2.2.1) (hr.2.1) in_zero)
  have S1 := Lib.hid (fun w => rsum8 b' a d' b 0 w (hs.2.1) (hr.1) (hs.2.2.2.1) (hr.2.1) in_zero)
  have S2 := Lib.hid (fun w => rsum8 a' c c' d 0 w (hs.1) (hr.2.2.1) (hs.2.2.1) (hr.2.2.2.1) in_zero)
  have S3 := Lib.hid (fun w => rsum8 b' c d' d 0 w (hs.2.1) (hr.2.2.1) (hs.2.2.2.1) (hr.2.2.2.1) in_zero)
  have S4 := Lib.hid (fun w => rsum8 a' e0 c' f e' w (hs.1) (hr.2.2.2.2.1) (hs.2.2.1) (hr.2.2.2.2.2) (hs.2.2.2.2.1))
  have S5 := Lib.hid (fun w => rsum8 b' e0 d' f f' w (hs.2.1) (hr.2.2.2.2.1) (hs.2.2.2.1) (hr.2.2.2.2.2) (hs.2.2.2.2.2))
  generalize numA a' a c' b 0 = X0 at *
  generalize numA b' a d' b 0 = X1 at *
  generalize numA a' c c' d 0 = X2 at *
  generalize numA b' c d' d 0 = X3 at *
  generalize numA a' e0 c' f e' = X4 at *
  generalize numA b' e0 d' f f' = X5 at *
  have QQ := Lib.hid (show ∀ w, Calls Try.prog 15 #[.agg #[.int .i64 X0, .int .i64 X1, .int .i64 X2, .int .i64 X3, .int .i64 X4, .int .i64 X5]] w fun e w' => e = .returned (.bool (decide (Mtx.right ⟨X0, X1, X2, X3, X4, X5⟩))) ∧ Below w.heap.size w w' from fun w => rright8 ⟨X0, X1, X2, X3, X4, X5⟩ w)
  have HBz := Lib.hid (Below.refl v0.heap.size v0)
  have HBd := Lib.hid HBz.out.drew
  have HR := Lib.hid hR
  have lm0 := HM0.out.lt
  have ln0 := HN0.out.lt
  have lz0 := HZ0.out.lt
  clear hR hr hs RM RN
  go_upto_region 3 with fail
  go_cut [6] (fun s6 wc => ∃ q : Nat, s6 = .pointer (some ⟨q, 0, none⟩) ∧ MBox q ⟨X0, X1, X2, X3, X4, X5⟩ wc ∧ Below v0.heap.size v0 wc)
  case first =>
    go_region_held3 (fun w' => w'.cell? ⟨w.heap.size, 0, none⟩ = some (.int .i64 a) ∧ w'.cell? ⟨w.heap.size, 1, none⟩ = some (.int .i64 b) ∧ w'.cell? ⟨w.heap.size, 2, none⟩ = some (.int .i64 c) ∧ w'.cell? ⟨w.heap.size, 3, none⟩ = some (.int .i64 d) ∧ w'.cell? ⟨w.heap.size, 4, none⟩ = some (.int .i64 e0) ∧ w'.cell? ⟨w.heap.size, 5, none⟩ = some (.int .i64 f) ∧ w'.cell? ⟨w.heap.size + 1, 0, none⟩ = some (.int .i64 a') ∧ w'.cell? ⟨w.heap.size + 1, 1, none⟩ = some (.int .i64 b') ∧ w'.cell? ⟨w.heap.size + 1, 2, none⟩ = some (.int .i64 c') ∧ w'.cell? ⟨w.heap.size + 1, 3, none⟩ = some (.int .i64 d') ∧ w'.cell? ⟨w.heap.size + 1, 4, none⟩ = some (.int .i64 e') ∧ w'.cell? ⟨w.heap.size + 1, 5, none⟩ = some (.int .i64 f')) (first | (refine ⟨?_, ?_, ?_, ?_, ?_, ?_, ?_, ?_, ?_, ?_, ?_, ?_⟩ <;> first | with_reducible assumption | (with_reducible refine cell_alloc ?_; with_reducible assumption) | (with_reducible refine cell_far (cell_far (cell_far (cell_far (cell_far (cell_far ?_ ?_) ?_) ?_) ?_) ?_) ?_ <;> with_reducible assumption)) | (simp [go_sem, *]; done))
      (first
      | (go_at_call 38; (with_reducible refine (S0.out _).mono ?_); rintro e v1 ⟨rfl, b1⟩; have HB1 := Lib.hid (HBd.out.trans (b1.mono HBd.out.size)); (try (have HQ' := Lib.hid (HQ.out.next b1); clear HQ; have HQ := HQ')); (try (clear y0 y1 y2 y3 y4 y5 y6 y7 y8 y9 y10 y11)); (try (clear u0 r0 u1 r1 u2 r2 u3 r3 u4 r4 u5 r5 lq)); (try (have u0 := HQ.out.c0; have r0 := HQ.out.z 0; have u1 := HQ.out.c1; have r1 := HQ.out.z 1; have u2 := HQ.out.c2; have r2 := HQ.out.z 2; have u3 := HQ.out.c3; have r3 := HQ.out.z 3; have u4 := HQ.out.c4; have r4 := HQ.out.z 4; have u5 := HQ.out.c5; have r5 := HQ.out.z 5; have lq := HQ.out.lt)); have hmm := HM0.out.next HB1.out; have hnn := HN0.out.next HB1.out; have y0 : v1.cell? ⟨w.heap.size, 0, none⟩ = some (.int .i64 a) := hmm.c0; have y1 : v1.cell? ⟨w.heap.size, 1, none⟩ = some (.int .i64 b) := hmm.c1; have y2 : v1.cell? ⟨w.heap.size, 2, none⟩ = some (.int .i64 c) := hmm.c2; have y3 : v1.cell? ⟨w.heap.size, 3, none⟩ = some (.int .i64 d) := hmm.c3; have y4 : v1.cell? ⟨w.heap.size, 4, none⟩ = some (.int .i64 e0) := hmm.c4; have y5 : v1.cell? ⟨w.heap.size, 5, none⟩ = some (.int .i64 f) := hmm.c5; have y6 : v1.cell? ⟨w.heap.size + 1, 0, none⟩ = some (.int .i64 a') := hnn.c0; have y7 : v1.cell? ⟨w.heap.size + 1, 1, none⟩ = some (.int .i64 b') := hnn.c1; have y8 : v1.cell? ⟨w.heap.size + 1, 2, none⟩ = some (.int .i64 c') := hnn.c2; have y9 : v1.cell? ⟨w.heap.size + 1, 3, none⟩ = some (.int .i64 d') := hnn.c3; have y10 : v1.cell? ⟨w.heap.size + 1, 4, none⟩ = some (.int .i64 e') := hnn.c4; have y11 : v1.cell? ⟨w.heap.size + 1, 5, none⟩ = some (.int .i64 f') := hnn.c5; have lm := hmm.lt; have ln := hnn.lt; clear hmm hnn b1)
      | (go_at_call 38; (with_reducible refine (S0.out _).mono ?_); rintro e v1 ⟨rfl, b1⟩; have HBq := Lib.hid (HBz.out.alloc HBz.out.size (.cells #[.int .i64 0, .int .i64 0, .int .i64 0, .int .i64 0, .int .i64 0, .int .i64 0] 23)).drew; have hq' := MBox.new v0 ⟨0, 0, 0, 0, 0, 0⟩; have HQq : Hid (MBox v0.heap.size ⟨0, 0, 0, 0, 0, 0⟩ ((v0.alloc (.cells #[.int .i64 0, .int .i64 0, .int .i64 0, .int .i64 0, .int .i64 0, .int .i64 0] 23)).drew)) := Lib.hid hq'; clear hq'; have HB1 := Lib.hid (HBq.out.trans (b1.mono HBq.out.size)); have HQ := Lib.hid (HQq.out.next b1); have HBl := HBz; (try (clear y0 y1 y2 y3 y4 y5 y6 y7 y8 y9 y10 y11)); (try (clear u0 r0 u1 r1 u2 r2 u3 r3 u4 r4 u5 r5 lq)); (try (have u0 := HQ.out.c0; have r0 := HQ.out.z 0; have u1 := HQ.out.c1; have r1 := HQ.out.z 1; have u2 := HQ.out.c2; have r2 := HQ.out.z 2; have u3 := HQ.out.c3; have r3 := HQ.out.z 3; have u4 := HQ.out.c4; have r4 := HQ.out.z 4; have u5 := HQ.out.c5; have r5 := HQ.out.z 5; have lq := HQ.out.lt)); have hmm := HM0.out.next HB1.out; have hnn := HN0.out.next HB1.out; have y0 : v1.cell? ⟨w.heap.size, 0, none⟩ = some (.int .i64 a) := hmm.c0; have y1 : v1.cell? ⟨w.heap.size, 1, none⟩ = some (.int .i64 b) := hmm.c1; have y2 : v1.cell? ⟨w.heap.size, 2, none⟩ = some (.int .i64 c) := hmm.c2; have y3 : v1.cell? ⟨w.heap.size, 3, none⟩ = some (.int .i64 d) := hmm.c3; have y4 : v1.cell? ⟨w.heap.size, 4, none⟩ = some (.int .i64 e0) := hmm.c4; have y5 : v1.cell? ⟨w.heap.size, 5, none⟩ = some (.int .i64 f) := hmm.c5; have y6 : v1.cell? ⟨w.heap.size + 1, 0, none⟩ = some (.int .i64 a') := hnn.c0; have y7 : v1.cell? ⟨w.heap.size + 1, 1, none⟩ = some (.int .i64 b') := hnn.c1; have y8 : v1.cell? ⟨w.heap.size + 1, 2, none⟩ = some (.int .i64 c') := hnn.c2; have y9 : v1.cell? ⟨w.heap.size + 1, 3, none⟩ = some (.int .i64 d') := hnn.c3; have y10 : v1.cell? ⟨w.heap.size + 1, 4, none⟩ = some (.int .i64 e') := hnn.c4; have y11 : v1.cell? ⟨w.heap.size + 1, 5, none⟩ = some (.int .i64 f') := hnn.c5; have lm := hmm.lt; have ln := hnn.lt; clear hmm hnn b1)
      | (go_at_call 38; (with_reducible refine (S1.out _).mono ?_); rintro e v2 ⟨rfl, b2⟩; have HB2 := Lib.hid (HB1.out.trans (b2.mono HB1.out.size)); (try (have HQ' := Lib.hid (HQ.out.next b2); clear HQ; have HQ := HQ')); (try (clear y0 y1 y2 y3 y4 y5 y6 y7 y8 y9 y10 y11)); (try (clear u0 r0 u1 r1 u2 r2 u3 r3 u4 r4 u5 r5 lq)); (try (have u0 := HQ.out.c0; have r0 := HQ.out.z 0; have u1 := HQ.out.c1; have r1 := HQ.out.z 1; have u2 := HQ.out.c2; have r2 := HQ.out.z 2; have u3 := HQ.out.c3; have r3 := HQ.out.z 3; have u4 := HQ.out.c4; have r4 := HQ.out.z 4; have u5 := HQ.out.c5; have r5 := HQ.out.z 5; have lq := HQ.out.lt)); have hmm := HM0.out.next HB2.out; have hnn := HN0.out.next HB2.out; have y0 : v2.cell? ⟨w.heap.size, 0, none⟩ = some (.int .i64 a) := hmm.c0; have y1 : v2.cell? ⟨w.heap.size, 1, none⟩ = some (.int .i64 b) := hmm.c1; have y2 : v2.cell? ⟨w.heap.size, 2, none⟩ = some (.int .i64 c) := hmm.c2; have y3 : v2.cell? ⟨w.heap.size, 3, none⟩ = some (.int .i64 d) := hmm.c3; have y4 : v2.cell? ⟨w.heap.size, 4, none⟩ = some (.int .i64 e0) := hmm.c4; have y5 : v2.cell? ⟨w.heap.size, 5, none⟩ = some (.int .i64 f) := hmm.c5; have y6 : v2.cell? ⟨w.heap.size + 1, 0, none⟩ = some (.int .i64 a') := hnn.c0; have y7 : v2.cell? ⟨w.heap.size + 1, 1, none⟩ = some (.int .i64 b') := hnn.c1; have y8 : v2.cell? ⟨w.heap.size + 1, 2, none⟩ = some (.int .i64 c') := hnn.c2; have y9 : v2.cell? ⟨w.heap.size + 1, 3, none⟩ = some (.int .i64 d') := hnn.c3; have y10 : v2.cell? ⟨w.heap.size + 1, 4, none⟩ = some (.int .i64 e') := hnn.c4; have y11 : v2.cell? ⟨w.heap.size + 1, 5, none⟩ = some (.int .i64 f') := hnn.c5; have lm := hmm.lt; have ln := hnn.lt; clear hmm hnn b2)
      | (go_at_call 38; (with_reducible refine (S1.out _).mono ?_); rintro e v2 ⟨rfl, b2⟩; have HBq := Lib.hid (HB1.out.alloc HB1.out.size (.cells #[.int .i64 0, .int .i64 0, .int .i64 0, .int .i64 0, .int .i64 0, .int .i64 0] 23)); have hq' := MBox.new v1 ⟨0, 0, 0, 0, 0, 0⟩; have HQq : Hid (MBox v1.heap.size ⟨0, 0, 0, 0, 0, 0⟩ (v1.alloc (.cells #[.int .i64 0, .int .i64 0, .int .i64 0, .int .i64 0, .int .i64 0, .int .i64 0] 23))) := Lib.hid hq'; clear hq'; have HB2 := Lib.hid (HBq.out.trans (b2.mono HBq.out.size)); have HQ := Lib.hid (HQq.out.next b2); have HBl := HB1; (try (clear y0 y1 y2 y3 y4 y5 y6 y7 y8 y9 y10 y11)); (try (clear u0 r0 u1 r1 u2 r2 u3 r3 u4 r4 u5 r5 lq)); (try (have u0 := HQ.out.c0; have r0 := HQ.out.z 0; have u1 := HQ.out.c1; have r1 := HQ.out.z 1; have u2 := HQ.out.c2; have r2 := HQ.out.z 2; have u3 := HQ.out.c3; have r3 := HQ.out.z 3; have u4 := HQ.out.c4; have r4 := HQ.out.z 4; have u5 := HQ.out.c5; have r5 := HQ.out.z 5; have lq := HQ.out.lt)); have hmm := HM0.out.next HB2.out; have hnn := HN0.out.next HB2.out; have y0 : v2.cell? ⟨w.heap.size, 0, none⟩ = some (.int .i64 a) := hmm.c0; have y1 : v2.cell? ⟨w.heap.size, 1, none⟩ = some (.int .i64 b) := hmm.c1; have y2 : v2.cell? ⟨w.heap.size, 2, none⟩ = some (.int .i64 c) := hmm.c2; have y3 : v2.cell? ⟨w.heap.size, 3, none⟩ = some (.int .i64 d) := hmm.c3; have y4 : v2.cell? ⟨w.heap.size, 4, none⟩ = some (.int .i64 e0) := hmm.c4; have y5 : v2.cell? ⟨w.heap.size, 5, none⟩ = some (.int .i64 f) := hmm.c5; have y6 : v2.cell? ⟨w.heap.size + 1, 0, none⟩ = some (.int .i64 a') := hnn.c0; have y7 : v2.cell? ⟨w.heap.size + 1, 1, none⟩ = some (.int .i64 b') := hnn.c1; have y8 : v2.cell? ⟨w.heap.size + 1, 2, none⟩ = some (.int .i64 c') := hnn.c2; have y9 : v2.cell? ⟨w.heap.size + 1, 3, none⟩ = some (.int .i64 d') := hnn.c3; have y10 : v2.cell? ⟨w.heap.size + 1, 4, none⟩ = some (.int .i64 e') := hnn.c4; have y11 : v2.cell? ⟨w.heap.size + 1, 5, none⟩ = some (.int .i64 f') := hnn.c5; have lm := hmm.lt; have ln := hnn.lt; clear hmm hnn b2)
      | (go_at_call 38; (with_reducible refine (S2.out _).mono ?_); rintro e v3 ⟨rfl, b3⟩; have HB3 := Lib.hid (HB2.out.trans (b3.mono HB2.out.size)); (try (have HQ' := Lib.hid (HQ.out.next b3); clear HQ; have HQ := HQ')); (try (clear y0 y1 y2 y3 y4 y5 y6 y7 y8 y9 y10 y11)); (try (clear u0 r0 u1 r1 u2 r2 u3 r3 u4 r4 u5 r5 lq)); (try (have u0 := HQ.out.c0; have r0 := HQ.out.z 0; have u1 := HQ.out.c1; have r1 := HQ.out.z 1; have u2 := HQ.out.c2; have r2 := HQ.out.z 2; have u3 := HQ.out.c3; have r3 := HQ.out.z 3; have u4 := HQ.out.c4; have r4 := HQ.out.z 4; have u5 := HQ.out.c5; have r5 := HQ.out.z 5; have lq := HQ.out.lt)); have hmm := HM0.out.next HB3.out; have hnn := HN0.out.next HB3.out; have y0 : v3.cell? ⟨w.heap.size, 0, none⟩ = some (.int .i64 a) := hmm.c0; have y1 : v3.cell? ⟨w.heap.size, 1, none⟩ = some (.int .i64 b) := hmm.c1; have y2 : v3.cell? ⟨w.heap.size, 2, none⟩ = some (.int .i64 c) := hmm.c2; have y3 : v3.cell? ⟨w.heap.size, 3, none⟩ = some (.int .i64 d) := hmm.c3; have y4 : v3.cell? ⟨w.heap.size, 4, none⟩ = some (.int .i64 e0) := hmm.c4; have y5 : v3.cell? ⟨w.heap.size, 5, none⟩ = some (.int .i64 f) := hmm.c5; have y6 : v3.cell? ⟨w.heap.size + 1, 0, none⟩ = some (.int .i64 a') := hnn.c0; have y7 : v3.cell? ⟨w.heap.size + 1, 1, none⟩ = some (.int .i64 b') := hnn.c1; have y8 : v3.cell? ⟨w.heap.size + 1, 2, none⟩ = some (.int .i64 c') := hnn.c2; have y9 : v3.cell? ⟨w.heap.size + 1, 3, none⟩ = some (.int .i64 d') := hnn.c3; have y10 : v3.cell? ⟨w.heap.size + 1, 4, none⟩ = some (.int .i64 e') := hnn.c4; have y11 : v3.cell? ⟨w.heap.size + 1, 5, none⟩ = some (.int .i64 f') := hnn.c5; have lm := hmm.lt; have ln := hnn.lt; clear hmm hnn b3)
      | (go_at_call 38; (with_reducible refine (S2.out _).mono ?_); rintro e v3 ⟨rfl, b3⟩; have HBq := Lib.hid (HB2.out.alloc HB2.out.size (.cells #[.int .i64 0, .int .i64 0, .int .i64 0, .int .i64 0, .int .i64 0, .int .i64 0] 23)); have hq' := MBox.new v2 ⟨0, 0, 0, 0, 0, 0⟩; have HQq : Hid (MBox v2.heap.size ⟨0, 0, 0, 0, 0, 0⟩ (v2.alloc (.cells #[.int .i64 0, .int .i64 0, .int .i64 0, .int .i64 0, .int .i64 0, .int .i64 0] 23))) := Lib.hid hq'; clear hq'; have HB3 := Lib.hid (HBq.out.trans (b3.mono HBq.out.size)); have HQ := Lib.hid (HQq.out.next b3); have HBl := HB2; (try (clear y0 y1 y2 y3 y4 y5 y6 y7 y8 y9 y10 y11)); (try (clear u0 r0 u1 r1 u2 r2 u3 r3 u4 r4 u5 r5 lq)); (try (have u0 := HQ.out.c0; have r0 := HQ.out.z 0; have u1 := HQ.out.c1; have r1 := HQ.out.z 1; have u2 := HQ.out.c2; have r2 := HQ.out.z 2; have u3 := HQ.out.c3; have r3 := HQ.out.z 3; have u4 := HQ.out.c4; have r4 := HQ.out.z 4; have u5 := HQ.out.c5; have r5 := HQ.out.z 5; have lq := HQ.out.lt)); have hmm := HM0.out.next HB3.out; have hnn := HN0.out.next HB3.out; have y0 : v3.cell? ⟨w.heap.size, 0, none⟩ = some (.int .i64 a) := hmm.c0; have y1 : v3.cell? ⟨w.heap.size, 1, none⟩ = some (.int .i64 b) := hmm.c1; have y2 : v3.cell? ⟨w.heap.size, 2, none⟩ = some (.int .i64 c) := hmm.c2; have y3 : v3.cell? ⟨w.heap.size, 3, none⟩ = some (.int .i64 d) := hmm.c3; have y4 : v3.cell? ⟨w.heap.size, 4, none⟩ = some (.int .i64 e0) := hmm.c4; have y5 : v3.cell? ⟨w.heap.size, 5, none⟩ = some (.int .i64 f) := hmm.c5; have y6 : v3.cell? ⟨w.heap.size + 1, 0, none⟩ = some (.int .i64 a') := hnn.c0; have y7 : v3.cell? ⟨w.heap.size + 1, 1, none⟩ = some (.int .i64 b') := hnn.c1; have y8 : v3.cell? ⟨w.heap.size + 1, 2, none⟩ = some (.int .i64 c') := hnn.c2; have y9 : v3.cell? ⟨w.heap.size + 1, 3, none⟩ = some (.int .i64 d') := hnn.c3; have y10 : v3.cell? ⟨w.heap.size + 1, 4, none⟩ = some (.int .i64 e') := hnn.c4; have y11 : v3.cell? ⟨w.heap.size + 1, 5, none⟩ = some (.int .i64 f') := hnn.c5; have lm := hmm.lt; have ln := hnn.lt; clear hmm hnn b3)
      | (go_at_call 38; (with_reducible refine (S3.out _).mono ?_); rintro e v4 ⟨rfl, b4⟩; have HB4 := Lib.hid (HB3.out.trans (b4.mono HB3.out.size)); (try (have HQ' := Lib.hid (HQ.out.next b4); clear HQ; have HQ := HQ')); (try (clear y0 y1 y2 y3 y4 y5 y6 y7 y8 y9 y10 y11)); (try (clear u0 r0 u1 r1 u2 r2 u3 r3 u4 r4 u5 r5 lq)); (try (have u0 := HQ.out.c0; have r0 := HQ.out.z 0; have u1 := HQ.out.c1; have r1 := HQ.out.z 1; have u2 := HQ.out.c2; have r2 := HQ.out.z 2; have u3 := HQ.out.c3; have r3 := HQ.out.z 3; have u4 := HQ.out.c4; have r4 := HQ.out.z 4; have u5 := HQ.out.c5; have r5 := HQ.out.z 5; have lq := HQ.out.lt)); have hmm := HM0.out.next HB4.out; have hnn := HN0.out.next HB4.out; have y0 : v4.cell? ⟨w.heap.size, 0, none⟩ = some (.int .i64 a) := hmm.c0; have y1 : v4.cell? ⟨w.heap.size, 1, none⟩ = some (.int .i64 b) := hmm.c1; have y2 : v4.cell? ⟨w.heap.size, 2, none⟩ = some (.int .i64 c) := hmm.c2; have y3 : v4.cell? ⟨w.heap.size, 3, none⟩ = some (.int .i64 d) := hmm.c3; have y4 : v4.cell? ⟨w.heap.size, 4, none⟩ = some (.int .i64 e0) := hmm.c4; have y5 : v4.cell? ⟨w.heap.size, 5, none⟩ = some (.int .i64 f) := hmm.c5; have y6 : v4.cell? ⟨w.heap.size + 1, 0, none⟩ = some (.int .i64 a') := hnn.c0; have y7 : v4.cell? ⟨w.heap.size + 1, 1, none⟩ = some (.int .i64 b') := hnn.c1; have y8 : v4.cell? ⟨w.heap.size + 1, 2, none⟩ = some (.int .i64 c') := hnn.c2; have y9 : v4.cell? ⟨w.heap.size + 1, 3, none⟩ = some (.int .i64 d') := hnn.c3; have y10 : v4.cell? ⟨w.heap.size + 1, 4, none⟩ = some (.int .i64 e') := hnn.c4; have y11 : v4.cell? ⟨w.heap.size + 1, 5, none⟩ = some (.int .i64 f') := hnn.c5; have lm := hmm.lt; have ln := hnn.lt; clear hmm hnn b4)
      | (go_at_call 38; (with_reducible refine (S3.out _).mono ?_); rintro e v4 ⟨rfl, b4⟩; have HBq := Lib.hid (HB3.out.alloc HB3.out.size (.cells #[.int .i64 0, .int .i64 0, .int .i64 0, .int .i64 0, .int .i64 0, .int .i64 0] 23)); have hq' := MBox.new v3 ⟨0, 0, 0, 0, 0, 0⟩; have HQq : Hid (MBox v3.heap.size ⟨0, 0, 0, 0, 0, 0⟩ (v3.alloc (.cells #[.int .i64 0, .int .i64 0, .int .i64 0, .int .i64 0, .int .i64 0, .int .i64 0] 23))) := Lib.hid hq'; clear hq'; have HB4 := Lib.hid (HBq.out.trans (b4.mono HBq.out.size)); have HQ := Lib.hid (HQq.out.next b4); have HBl := HB3; (try (clear y0 y1 y2 y3 y4 y5 y6 y7 y8 y9 y10 y11)); (try (clear u0 r0 u1 r1 u2 r2 u3 r3 u4 r4 u5 r5 lq)); (try (have u0 := HQ.out.c0; have r0 := HQ.out.z 0; have u1 := HQ.out.c1; have r1 := HQ.out.z 1; have u2 := HQ.out.c2; have r2 := HQ.out.z 2; have u3 := HQ.out.c3; have r3 := HQ.out.z 3; have u4 := HQ.out.c4; have r4 := HQ.out.z 4; have u5 := HQ.out.c5; have r5 := HQ.out.z 5; have lq := HQ.out.lt)); have hmm := HM0.out.next HB4.out; have hnn := HN0.out.next HB4.out; have y0 : v4.cell? ⟨w.heap.size, 0, none⟩ = some (.int .i64 a) := hmm.c0; have y1 : v4.cell? ⟨w.heap.size, 1, none⟩ = some (.int .i64 b) := hmm.c1; have y2 : v4.cell? ⟨w.heap.size, 2, none⟩ = some (.int .i64 c) := hmm.c2; have y3 : v4.cell? ⟨w.heap.size, 3, none⟩ = some (.int .i64 d) := hmm.c3; have y4 : v4.cell? ⟨w.heap.size, 4, none⟩ = some (.int .i64 e0) := hmm.c4; have y5 : v4.cell? ⟨w.heap.size, 5, none⟩ = some (.int .i64 f) := hmm.c5; have y6 : v4.cell? ⟨w.heap.size + 1, 0, none⟩ = some (.int .i64 a') := hnn.c0; have y7 : v4.cell? ⟨w.heap.size + 1, 1, none⟩ = some (.int .i64 b') := hnn.c1; have y8 : v4.cell? ⟨w.heap.size + 1, 2, none⟩ = some (.int .i64 c') := hnn.c2; have y9 : v4.cell? ⟨w.heap.size + 1, 3, none⟩ = some (.int .i64 d') := hnn.c3; have y10 : v4.cell? ⟨w.heap.size + 1, 4, none⟩ = some (.int .i64 e') := hnn.c4; have y11 : v4.cell? ⟨w.heap.size + 1, 5, none⟩ = some (.int .i64 f') := hnn.c5; have lm := hmm.lt; have ln := hnn.lt; clear hmm hnn b4)
      | (go_at_call 38; (with_reducible refine (S4.out _).mono ?_); rintro e v5 ⟨rfl, b5⟩; have HB5 := Lib.hid (HB4.out.trans (b5.mono HB4.out.size)); (try (have HQ' := Lib.hid (HQ.out.next b5); clear HQ; have HQ := HQ')); (try (clear y0 y1 y2 y3 y4 y5 y6 y7 y8 y9 y10 y11)); (try (clear u0 r0 u1 r1 u2 r2 u3 r3 u4 r4 u5 r5 lq)); (try (have u0 := HQ.out.c0; have r0 := HQ.out.z 0; have u1 := HQ.out.c1; have r1 := HQ.out.z 1; have u2 := HQ.out.c2; have r2 := HQ.out.z 2; have u3 := HQ.out.c3; have r3 := HQ.out.z 3; have u4 := HQ.out.c4; have r4 := HQ.out.z 4; have u5 := HQ.out.c5; have r5 := HQ.out.z 5; have lq := HQ.out.lt)); have hmm := HM0.out.next HB5.out; have hnn := HN0.out.next HB5.out; have y0 : v5.cell? ⟨w.heap.size, 0, none⟩ = some (.int .i64 a) := hmm.c0; have y1 : v5.cell? ⟨w.heap.size, 1, none⟩ = some (.int .i64 b) := hmm.c1; have y2 : v5.cell? ⟨w.heap.size, 2, none⟩ = some (.int .i64 c) := hmm.c2; have y3 : v5.cell? ⟨w.heap.size, 3, none⟩ = some (.int .i64 d) := hmm.c3; have y4 : v5.cell? ⟨w.heap.size, 4, none⟩ = some (.int .i64 e0) := hmm.c4; have y5 : v5.cell? ⟨w.heap.size, 5, none⟩ = some (.int .i64 f) := hmm.c5; have y6 : v5.cell? ⟨w.heap.size + 1, 0, none⟩ = some (.int .i64 a') := hnn.c0; have y7 : v5.cell? ⟨w.heap.size + 1, 1, none⟩ = some (.int .i64 b') := hnn.c1; have y8 : v5.cell? ⟨w.heap.size + 1, 2, none⟩ = some (.int .i64 c') := hnn.c2; have y9 : v5.cell? ⟨w.heap.size + 1, 3, none⟩ = some (.int .i64 d') := hnn.c3; have y10 : v5.cell? ⟨w.heap.size + 1, 4, none⟩ = some (.int .i64 e') := hnn.c4; have y11 : v5.cell? ⟨w.heap.size + 1, 5, none⟩ = some (.int .i64 f') := hnn.c5; have lm := hmm.lt; have ln := hnn.lt; clear hmm hnn b5)
      | (go_at_call 38; (with_reducible refine (S4.out _).mono ?_); rintro e v5 ⟨rfl, b5⟩; have HBq := Lib.hid (HB4.out.alloc HB4.out.size (.cells #[.int .i64 0, .int .i64 0, .int .i64 0, .int .i64 0, .int .i64 0, .int .i64 0] 23)); have hq' := MBox.new v4 ⟨0, 0, 0, 0, 0, 0⟩; have HQq : Hid (MBox v4.heap.size ⟨0, 0, 0, 0, 0, 0⟩ (v4.alloc (.cells #[.int .i64 0, .int .i64 0, .int .i64 0, .int .i64 0, .int .i64 0, .int .i64 0] 23))) := Lib.hid hq'; clear hq'; have HB5 := Lib.hid (HBq.out.trans (b5.mono HBq.out.size)); have HQ := Lib.hid (HQq.out.next b5); have HBl := HB4; (try (clear y0 y1 y2 y3 y4 y5 y6 y7 y8 y9 y10 y11)); (try (clear u0 r0 u1 r1 u2 r2 u3 r3 u4 r4 u5 r5 lq)); (try (have u0 := HQ.out.c0; have r0 := HQ.out.z 0; have u1 := HQ.out.c1; have r1 := HQ.out.z 1; have u2 := HQ.out.c2; have r2 := HQ.out.z 2; have u3 := HQ.out.c3; have r3 := HQ.out.z 3; have u4 := HQ.out.c4; have r4 := HQ.out.z 4; have u5 := HQ.out.c5; have r5 := HQ.out.z 5; have lq := HQ.out.lt)); have hmm := HM0.out.next HB5.out; have hnn := HN0.out.next HB5.out; have y0 : v5.cell? ⟨w.heap.size, 0, none⟩ = some (.int .i64 a) := hmm.c0; have y1 : v5.cell? ⟨w.heap.size, 1, none⟩ = some (.int .i64 b) := hmm.c1; have y2 : v5.cell? ⟨w.heap.size, 2, none⟩ = some (.int .i64 c) := hmm.c2; have y3 : v5.cell? ⟨w.heap.size, 3, none⟩ = some (.int .i64 d) := hmm.c3; have y4 : v5.cell? ⟨w.heap.size, 4, none⟩ = some (.int .i64 e0) := hmm.c4; have y5 : v5.cell? ⟨w.heap.size, 5, none⟩ = some (.int .i64 f) := hmm.c5; have y6 : v5.cell? ⟨w.heap.size + 1, 0, none⟩ = some (.int .i64 a') := hnn.c0; have y7 : v5.cell? ⟨w.heap.size + 1, 1, none⟩ = some (.int .i64 b') := hnn.c1; have y8 : v5.cell? ⟨w.heap.size + 1, 2, none⟩ = some (.int .i64 c') := hnn.c2; have y9 : v5.cell? ⟨w.heap.size + 1, 3, none⟩ = some (.int .i64 d') := hnn.c3; have y10 : v5.cell? ⟨w.heap.size + 1, 4, none⟩ = some (.int .i64 e') := hnn.c4; have y11 : v5.cell? ⟨w.heap.size + 1, 5, none⟩ = some (.int .i64 f') := hnn.c5; have lm := hmm.lt; have ln := hnn.lt; clear hmm hnn b5)
      | (go_at_call 38; (with_reducible refine (S5.out _).mono ?_); rintro e v6 ⟨rfl, b6⟩; have HB6 := Lib.hid (HB5.out.trans (b6.mono HB5.out.size)); (try (have HQ' := Lib.hid (HQ.out.next b6); clear HQ; have HQ := HQ')); (try (clear y0 y1 y2 y3 y4 y5 y6 y7 y8 y9 y10 y11)); (try (clear u0 r0 u1 r1 u2 r2 u3 r3 u4 r4 u5 r5 lq)); (try (have u0 := HQ.out.c0; have r0 := HQ.out.z 0; have u1 := HQ.out.c1; have r1 := HQ.out.z 1; have u2 := HQ.out.c2; have r2 := HQ.out.z 2; have u3 := HQ.out.c3; have r3 := HQ.out.z 3; have u4 := HQ.out.c4; have r4 := HQ.out.z 4; have u5 := HQ.out.c5; have r5 := HQ.out.z 5; have lq := HQ.out.lt)); have hmm := HM0.out.next HB6.out; have hnn := HN0.out.next HB6.out; have y0 : v6.cell? ⟨w.heap.size, 0, none⟩ = some (.int .i64 a) := hmm.c0; have y1 : v6.cell? ⟨w.heap.size, 1, none⟩ = some (.int .i64 b) := hmm.c1; have y2 : v6.cell? ⟨w.heap.size, 2, none⟩ = some (.int .i64 c) := hmm.c2; have y3 : v6.cell? ⟨w.heap.size, 3, none⟩ = some (.int .i64 d) := hmm.c3; have y4 : v6.cell? ⟨w.heap.size, 4, none⟩ = some (.int .i64 e0) := hmm.c4; have y5 : v6.cell? ⟨w.heap.size, 5, none⟩ = some (.int .i64 f) := hmm.c5; have y6 : v6.cell? ⟨w.heap.size + 1, 0, none⟩ = some (.int .i64 a') := hnn.c0; have y7 : v6.cell? ⟨w.heap.size + 1, 1, none⟩ = some (.int .i64 b') := hnn.c1; have y8 : v6.cell? ⟨w.heap.size + 1, 2, none⟩ = some (.int .i64 c') := hnn.c2; have y9 : v6.cell? ⟨w.heap.size + 1, 3, none⟩ = some (.int .i64 d') := hnn.c3; have y10 : v6.cell? ⟨w.heap.size + 1, 4, none⟩ = some (.int .i64 e') := hnn.c4; have y11 : v6.cell? ⟨w.heap.size + 1, 5, none⟩ = some (.int .i64 f') := hnn.c5; have lm := hmm.lt; have ln := hnn.lt; clear hmm hnn b6)
      | (go_at_call 38; (with_reducible refine (S5.out _).mono ?_); rintro e v6 ⟨rfl, b6⟩; have HBq := Lib.hid (HB5.out.alloc HB5.out.size (.cells #[.int .i64 0, .int .i64 0, .int .i64 0, .int .i64 0, .int .i64 0, .int .i64 0] 23)); have hq' := MBox.new v5 ⟨0, 0, 0, 0, 0, 0⟩; have HQq : Hid (MBox v5.heap.size ⟨0, 0, 0, 0, 0, 0⟩ (v5.alloc (.cells #[.int .i64 0, .int .i64 0, .int .i64 0, .int .i64 0, .int .i64 0, .int .i64 0] 23))) := Lib.hid hq'; clear hq'; have HB6 := Lib.hid (HBq.out.trans (b6.mono HBq.out.size)); have HQ := Lib.hid (HQq.out.next b6); have HBl := HB5; (try (clear y0 y1 y2 y3 y4 y5 y6 y7 y8 y9 y10 y11)); (try (clear u0 r0 u1 r1 u2 r2 u3 r3 u4 r4 u5 r5 lq)); (try (have u0 := HQ.out.c0; have r0 := HQ.out.z 0; have u1 := HQ.out.c1; have r1 := HQ.out.z 1; have u2 := HQ.out.c2; have r2 := HQ.out.z 2; have u3 := HQ.out.c3; have r3 := HQ.out.z 3; have u4 := HQ.out.c4; have r4 := HQ.out.z 4; have u5 := HQ.out.c5; have r5 := HQ.out.z 5; have lq := HQ.out.lt)); have hmm := HM0.out.next HB6.out; have hnn := HN0.out.next HB6.out; have y0 : v6.cell? ⟨w.heap.size, 0, none⟩ = some (.int .i64 a) := hmm.c0; have y1 : v6.cell? ⟨w.heap.size, 1, none⟩ = some (.int .i64 b) := hmm.c1; have y2 : v6.cell? ⟨w.heap.size, 2, none⟩ = some (.int .i64 c) := hmm.c2; have y3 : v6.cell? ⟨w.heap.size, 3, none⟩ = some (.int .i64 d) := hmm.c3; have y4 : v6.cell? ⟨w.heap.size, 4, none⟩ = some (.int .i64 e0) := hmm.c4; have y5 : v6.cell? ⟨w.heap.size, 5, none⟩ = some (.int .i64 f) := hmm.c5; have y6 : v6.cell? ⟨w.heap.size + 1, 0, none⟩ = some (.int .i64 a') := hnn.c0; have y7 : v6.cell? ⟨w.heap.size + 1, 1, none⟩ = some (.int .i64 b') := hnn.c1; have y8 : v6.cell? ⟨w.heap.size + 1, 2, none⟩ = some (.int .i64 c') := hnn.c2; have y9 : v6.cell? ⟨w.heap.size + 1, 3, none⟩ = some (.int .i64 d') := hnn.c3; have y10 : v6.cell? ⟨w.heap.size + 1, 4, none⟩ = some (.int .i64 e') := hnn.c4; have y11 : v6.cell? ⟨w.heap.size + 1, 5, none⟩ = some (.int .i64 f') := hnn.c5; have lm := hmm.lt; have ln := hnn.lt; clear hmm hnn b6)
      )
    all_goals
      go_wp2_with fail
      go_meet
      first
      | (have hN := MBox.new v6 ⟨X0, X1, X2, X3, X4, X5⟩; simp only [Mtx.cells] at hN; with_reducible exact ⟨_, rfl, hN, HB6.out.alloc HB6.out.size _⟩)
      | (with_reducible exact ⟨_, rfl, HQ.out.set X0 X1 X2 X3 X4 X5, below_six8 HB6.out HBl.out.size (.int .i64 X0) (.int .i64 X1) (.int .i64 X2) (.int .i64 X3) (.int .i64 X4) (.int .i64 X5)⟩)
  case rest =>
    obtain ⟨q, rfl, hq, hb7⟩ := hcut
    have H7 := Lib.hid hq
    have HB7 := Lib.hid (HB0.out.trans (hb7.mono HB0.out.size))
    have HZ7 := Lib.hid (HZ0.out.next hb7)
    have u7_0 : wc.cell? ⟨q, 0, none⟩ = some (.int .i64 X0) := H7.out.c0
    have u7_1 : wc.cell? ⟨q, 1, none⟩ = some (.int .i64 X1) := H7.out.c1
    have u7_2 : wc.cell? ⟨q, 2, none⟩ = some (.int .i64 X2) := H7.out.c2
    have u7_3 : wc.cell? ⟨q, 3, none⟩ = some (.int .i64 X3) := H7.out.c3
    have u7_4 : wc.cell? ⟨q, 4, none⟩ = some (.int .i64 X4) := H7.out.c4
    have u7_5 : wc.cell? ⟨q, 5, none⟩ = some (.int .i64 X5) := H7.out.c5
    clear hq hb7 x0_0 x0_1 x0_2 x0_3 x0_4 x0_5 x0_6 x0_7 x0_8 x0_9 x0_10 x0_11
    by_cases hx : Mtx.right ⟨X0, X1, X2, X3, X4, X5⟩
    · rw [decide_eq_true hx] at QQ
      go_wp2_with fail
      refine (QQ.out _).mono ?_
      rintro e w8 ⟨rfl, b8⟩
      have HB8 := Lib.hid (HB7.out.trans (b8.mono HB7.out.size))
      have HZ8 := Lib.hid (HZ7.out.next b8)
      have H8 := Lib.hid (H7.out.next b8)
      have z8_0 : w8.cell? ⟨w.heap.size + 1 + 1, 0, none⟩ = some (.int .i64 0) := HZ8.out.c0
      have q8_0 := HZ8.out.z 0
      have z8_1 : w8.cell? ⟨w.heap.size + 1 + 1, 1, none⟩ = some (.int .i64 0) := HZ8.out.c1
      have q8_1 := HZ8.out.z 1
      have z8_2 : w8.cell? ⟨w.heap.size + 1 + 1, 2, none⟩ = some (.int .i64 0) := HZ8.out.c2
      have q8_2 := HZ8.out.z 2
      have z8_3 : w8.cell? ⟨w.heap.size + 1 + 1, 3, none⟩ = some (.int .i64 0) := HZ8.out.c3
      have q8_3 := HZ8.out.z 3
      have z8_4 : w8.cell? ⟨w.heap.size + 1 + 1, 4, none⟩ = some (.int .i64 0) := HZ8.out.c4
      have q8_4 := HZ8.out.z 4
      have z8_5 : w8.cell? ⟨w.heap.size + 1 + 1, 5, none⟩ = some (.int .i64 0) := HZ8.out.c5
      have q8_5 := HZ8.out.z 5
      have u8_0 : w8.cell? ⟨q, 0, none⟩ = some (.int .i64 X0) := H8.out.c0
      have u8_1 : w8.cell? ⟨q, 1, none⟩ = some (.int .i64 X1) := H8.out.c1
      have u8_2 : w8.cell? ⟨q, 2, none⟩ = some (.int .i64 X2) := H8.out.c2
      have u8_3 : w8.cell? ⟨q, 3, none⟩ = some (.int .i64 X3) := H8.out.c3
      have u8_4 : w8.cell? ⟨q, 4, none⟩ = some (.int .i64 X4) := H8.out.c4
      have u8_5 : w8.cell? ⟨q, 5, none⟩ = some (.int .i64 X5) := H8.out.c5
      obtain rfl : (⟨X0, X1, X2, X3, X4, X5⟩, 0) = R := by rw [← HR.out]; rw [if_pos hx]
      go_wp2_with fail
      exact me_close8 Try.results18 (HZ8.out.set X0 X1 X2 X3 X4 X5) (below_six HB8.out (by omega) (.int .i64 X0) (.int .i64 X1) (.int .i64 X2) (.int .i64 X3) (.int .i64 X4) (.int .i64 X5)) rfl rfl
    · rw [decide_eq_false hx] at QQ
      go_wp2_with fail
      refine (QQ.out _).mono ?_
      rintro e w8 ⟨rfl, b8⟩
      have HB8 := Lib.hid (HB7.out.trans (b8.mono HB7.out.size))
      have HZ8 := Lib.hid (HZ7.out.next b8)
      have H8 := Lib.hid (H7.out.next b8)
      have z8_0 : w8.cell? ⟨w.heap.size + 1 + 1, 0, none⟩ = some (.int .i64 0) := HZ8.out.c0
      have q8_0 := HZ8.out.z 0
      have z8_1 : w8.cell? ⟨w.heap.size + 1 + 1, 1, none⟩ = some (.int .i64 0) := HZ8.out.c1
      have q8_1 := HZ8.out.z 1
      have z8_2 : w8.cell? ⟨w.heap.size + 1 + 1, 2, none⟩ = some (.int .i64 0) := HZ8.out.c2
      have q8_2 := HZ8.out.z 2
      have z8_3 : w8.cell? ⟨w.heap.size + 1 + 1, 3, none⟩ = some (.int .i64 0) := HZ8.out.c3
      have q8_3 := HZ8.out.z 3
      have z8_4 : w8.cell? ⟨w.heap.size + 1 + 1, 4, none⟩ = some (.int .i64 0) := HZ8.out.c4
      have q8_4 := HZ8.out.z 4
      have z8_5 : w8.cell? ⟨w.heap.size + 1 + 1, 5, none⟩ = some (.int .i64 0) := HZ8.out.c5
      have q8_5 := HZ8.out.z 5
      have u8_0 : w8.cell? ⟨q, 0, none⟩ = some (.int .i64 X0) := H8.out.c0
      have u8_1 : w8.cell? ⟨q, 1, none⟩ = some (.int .i64 X1) := H8.out.c1
      have u8_2 : w8.cell? ⟨q, 2, none⟩ = some (.int .i64 X2) := H8.out.c2
      have u8_3 : w8.cell? ⟨q, 3, none⟩ = some (.int .i64 X3) := H8.out.c3
      have u8_4 : w8.cell? ⟨q, 4, none⟩ = some (.int .i64 X4) := H8.out.c4
      have u8_5 : w8.cell? ⟨q, 5, none⟩ = some (.int .i64 X5) := H8.out.c5
      obtain rfl : (zeroM, 2) = R := by rw [← HR.out]; rw [if_neg hx]
      go_wp2_with fail
      exact me_close8 Try.results18 (HZ8.out.set 0 0 0 0 0 0) (below_six HB8.out (by omega) (.int .i64 0) (.int .i64 0) (.int .i64 0) (.int .i64 0) (.int .i64 0) (.int .i64 0)) rfl rfl
end Go.Proofs.Ythnjdncnmdmjaaa
