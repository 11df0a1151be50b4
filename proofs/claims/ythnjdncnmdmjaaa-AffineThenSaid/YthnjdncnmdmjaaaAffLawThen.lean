/-
  PROVED: the statement of AffineThen, for every input. (Typed by a program.)
-/
import Derived.Test.YthnjdncnmdmjaaaRows
import Derived.Test.YthnjdncnmdmjaaaAffWakes
import Derived.Test.YthnjdncnmdmjaaaAffTrod
import Derived.Test.YthnjdncnmdmjaaaAffCell
import Derived.Test.YthnjdncnmdmjaaaAffThn
import Derived.Test.YthnjdncnmdmjaaaAffThen
import Derived.Deep.DeepCutAuto
namespace Go.Proofs.Ythnjdncnmdmjaaa.affineThen
open Go.ChangeShapes Go.WideShapes Go.ChangeAt Go.RowKit Go.Shelf

theorem mi_same : MI64 sameM := by unfold MI64 I64 sameM; decide
theorem then_same_is (m : Mtx) : thenS m sameM = if m.right then (m, 0) else (zeroM, 1) := by
  unfold thenS
  rw [then_same]
  by_cases h : m.right
  · rw [if_pos ⟨h, right_same⟩, if_pos h, if_pos h]
  · rw [if_neg (fun k => h k.1), if_neg h]
theorem same_then_is (m : Mtx) : thenS sameM m = if m.right then (m, 0) else (zeroM, 1) := by
  unfold thenS
  rw [same_then]
  by_cases h : m.right
  · rw [if_pos ⟨right_same, h⟩, if_pos h, if_pos h]
  · rw [if_neg (fun k => h k.2), if_neg h]
theorem boxes2m (w : World) (m n : Mtx) : MBox w.heap.size m ((w.alloc (.cells m.cells 23)).alloc (.cells n.cells 23)) ∧ MBox (w.heap.size + 1) n ((w.alloc (.cells m.cells 23)).alloc (.cells n.cells 23)) ∧ Below w.heap.size w ((w.alloc (.cells m.cells 23)).alloc (.cells n.cells 23)) := by
  have b1 := (Below.refl w.heap.size w).alloc (Nat.le_refl _) (.cells m.cells 23)
  have m1 := MBox.new w m
  generalize hA : w.alloc (.cells m.cells 23) = A at *
  have sA : A.heap.size = w.heap.size + 1 := by rw [← hA]; simp
  have b2 := (Below.refl A.heap.size A).alloc (Nat.le_refl _) (.cells n.cells 23)
  have p2 := MBox.new A n
  rw [sA] at p2
  exact ⟨m1.next b2, p2, b1.trans (b2.mono b1.size)⟩
set_option maxHeartbeats 16000000 in
set_option maxRecDepth 100000 in
theorem walk (m : Mtx) (i : MI64 m) (n : Mtx) (j : MI64 n) (w : World) :
    Calls Try.prog 4 #[m.val, n.val] w fun e w' => e = .returned (.bool true) ∧ Below w.heap.size w w' := by
  have K := Lib.hid (fun w => wakes8 w)
  have TH := Lib.hid (fun w => athen8 m n w i j)
  have RT := Lib.hid (fun w => rthen8 m n w)
  have T1 := Lib.hid (fun w => athen8 m sameM w i mi_same)
  have T2 := Lib.hid (fun w => athen8 sameM m w mi_same i)
  have SM := Lib.hid (fun w => asame8 w)
  have RR := Lib.hid (fun w => rright8 m w)
  rw [then_same_is] at T1
  rw [same_then_is] at T2
  generalize thenS m n = R at *
  obtain ⟨⟨x0, x1, x2, x3, x4, x5⟩, z⟩ := R
  obtain ⟨Q, hQ⟩ : ∃ Q, (if m.right then (m, (0 : Int)) else (zeroM, 1)) = Q := ⟨_, rfl⟩
  rw [hQ] at T1 T2
  have HQ := Lib.hid hQ
  clear hQ i j
  obtain ⟨⟨s0, s1, s2, s3, s4, s5⟩, g⟩ := Q
  obtain ⟨hbm, hbn, hb⟩ := boxes2m w m n
  obtain ⟨a, b, c, d, e0, f⟩ := m
  obtain ⟨a', b', c', d', e', f'⟩ := n
  unfold ME at TH RT T1 T2
  unfold Mtx.val at TH RT T1 T2 SM RR
  unfold sameM at T1 T2 SM
  simp only [Mtx.cells] at TH RT T1 T2 SM RR hbm hbn hb
  have HM0 := Lib.hid hbm
  have HN0 := Lib.hid hbn
  have HB0 := Lib.hid hb
  clear hbm hbn hb
  show Calls _ _ #[.agg #[.int .i64 a, .int .i64 b, .int .i64 c, .int .i64 d, .int .i64 e0, .int .i64 f], .agg #[.int .i64 a', .int .i64 b', .int .i64 c', .int .i64 d', .int .i64 e', .int .i64 f']] w _
  go_enter Try.func4, Try.ntmps4
  go_wp2_with fail
  generalize (w.alloc (.cells #[.int .i64 a, .int .i64 b, .int .i64 c, .int .i64 d, .int .i64 e0, .int .i64 f] 23)).alloc (.cells #[.int .i64 a', .int .i64 b', .int .i64 c', .int .i64 d', .int .i64 e', .int .i64 f'] 23) = w0 at *
  refine (K.out _).mono ?_
  rintro e w1 ⟨rfl, b1⟩
  have HB1 := Lib.hid (HB0.out.trans (b1.mono HB0.out.size))
  have HM1 := Lib.hid (HM0.out.next b1)
  have HN1 := Lib.hid (HN0.out.next b1)
  clear b1
  have m_10 : w1.cell? ⟨w.heap.size, 0, none⟩ = some (.int .i64 a) := HM1.out.c0
  have m_11 : w1.cell? ⟨w.heap.size, 1, none⟩ = some (.int .i64 b) := HM1.out.c1
  have m_12 : w1.cell? ⟨w.heap.size, 2, none⟩ = some (.int .i64 c) := HM1.out.c2
  have m_13 : w1.cell? ⟨w.heap.size, 3, none⟩ = some (.int .i64 d) := HM1.out.c3
  have m_14 : w1.cell? ⟨w.heap.size, 4, none⟩ = some (.int .i64 e0) := HM1.out.c4
  have m_15 : w1.cell? ⟨w.heap.size, 5, none⟩ = some (.int .i64 f) := HM1.out.c5
  have n_10 : w1.cell? ⟨w.heap.size + 1, 0, none⟩ = some (.int .i64 a') := HN1.out.c0
  have n_11 : w1.cell? ⟨w.heap.size + 1, 1, none⟩ = some (.int .i64 b') := HN1.out.c1
  have n_12 : w1.cell? ⟨w.heap.size + 1, 2, none⟩ = some (.int .i64 c') := HN1.out.c2
  have n_13 : w1.cell? ⟨w.heap.size + 1, 3, none⟩ = some (.int .i64 d') := HN1.out.c3
  have n_14 : w1.cell? ⟨w.heap.size + 1, 4, none⟩ = some (.int .i64 e') := HN1.out.c4
  have n_15 : w1.cell? ⟨w.heap.size + 1, 5, none⟩ = some (.int .i64 f') := HN1.out.c5
  go_wp2_with fail
  refine (TH.out _).mono ?_
  rintro e w2 ⟨rfl, b2⟩
  have HB2 := Lib.hid (HB1.out.trans (b2.mono HB1.out.size))
  have HM2 := Lib.hid (HM1.out.next b2)
  have HN2 := Lib.hid (HN1.out.next b2)
  clear b2
  clear m_10 m_11 m_12 m_13 m_14 m_15 n_10 n_11 n_12 n_13 n_14 n_15
  clear K TH
  go_upto_region 4 with fail
  have al := (Below.refl w2.heap.size w2).alloc (Nat.le_refl _) (.cells #[.int .i64 x0, .int .i64 x1, .int .i64 x2, .int .i64 x3, .int .i64 x4, .int .i64 x5] 23)
  have hnew := MBox.new w2 ⟨x0, x1, x2, x3, x4, x5⟩
  simp only [Mtx.cells] at hnew
  have HX3 := Lib.hid hnew
  have HB3 := Lib.hid (HB2.out.alloc HB2.out.size (.cells #[.int .i64 x0, .int .i64 x1, .int .i64 x2, .int .i64 x3, .int .i64 x4, .int .i64 x5] 23))
  have HM3 := Lib.hid (HM2.out.next al)
  have HN3 := Lib.hid (HN2.out.next al)
  clear al hnew
  generalize w2.alloc (.cells #[.int .i64 x0, .int .i64 x1, .int .i64 x2, .int .i64 x3, .int .i64 x4, .int .i64 x5] 23) = w3 at *
  generalize w2.heap.size = kx at *
  have m_30 : w3.cell? ⟨w.heap.size, 0, none⟩ = some (.int .i64 a) := HM3.out.c0
  have m_31 : w3.cell? ⟨w.heap.size, 1, none⟩ = some (.int .i64 b) := HM3.out.c1
  have m_32 : w3.cell? ⟨w.heap.size, 2, none⟩ = some (.int .i64 c) := HM3.out.c2
  have m_33 : w3.cell? ⟨w.heap.size, 3, none⟩ = some (.int .i64 d) := HM3.out.c3
  have m_34 : w3.cell? ⟨w.heap.size, 4, none⟩ = some (.int .i64 e0) := HM3.out.c4
  have m_35 : w3.cell? ⟨w.heap.size, 5, none⟩ = some (.int .i64 f) := HM3.out.c5
  have n_30 : w3.cell? ⟨w.heap.size + 1, 0, none⟩ = some (.int .i64 a') := HN3.out.c0
  have n_31 : w3.cell? ⟨w.heap.size + 1, 1, none⟩ = some (.int .i64 b') := HN3.out.c1
  have n_32 : w3.cell? ⟨w.heap.size + 1, 2, none⟩ = some (.int .i64 c') := HN3.out.c2
  have n_33 : w3.cell? ⟨w.heap.size + 1, 3, none⟩ = some (.int .i64 d') := HN3.out.c3
  have n_34 : w3.cell? ⟨w.heap.size + 1, 4, none⟩ = some (.int .i64 e') := HN3.out.c4
  have n_35 : w3.cell? ⟨w.heap.size + 1, 5, none⟩ = some (.int .i64 f') := HN3.out.c5
  go_wp2_with fail
  refine (RT.out _).mono ?_
  rintro e w4 ⟨rfl, b4⟩
  have HB4 := Lib.hid (HB3.out.trans (b4.mono HB3.out.size))
  have HM4 := Lib.hid (HM3.out.next b4)
  have HN4 := Lib.hid (HN3.out.next b4)
  have HX4 := Lib.hid (HX3.out.next b4)
  clear b4
  clear m_30 m_31 m_32 m_33 m_34 m_35 n_30 n_31 n_32 n_33 n_34 n_35
  clear RT
  go_upto_region 5 with fail
  have al := (Below.refl w4.heap.size w4).alloc (Nat.le_refl _) (.cells #[.int .i64 x0, .int .i64 x1, .int .i64 x2, .int .i64 x3, .int .i64 x4, .int .i64 x5] 23)
  have hnew := MBox.new w4 ⟨x0, x1, x2, x3, x4, x5⟩
  simp only [Mtx.cells] at hnew
  have HV5 := Lib.hid hnew
  have HB5 := Lib.hid (HB4.out.alloc HB4.out.size (.cells #[.int .i64 x0, .int .i64 x1, .int .i64 x2, .int .i64 x3, .int .i64 x4, .int .i64 x5] 23))
  have HM5 := Lib.hid (HM4.out.next al)
  have HN5 := Lib.hid (HN4.out.next al)
  have HX5 := Lib.hid (HX4.out.next al)
  clear al hnew
  generalize w4.alloc (.cells #[.int .i64 x0, .int .i64 x1, .int .i64 x2, .int .i64 x3, .int .i64 x4, .int .i64 x5] 23) = w5 at *
  generalize w4.heap.size = kv at *
  clear HM0 HM1 HM2 HM3 HM4 HN0 HN1 HN2 HN3 HN4 HN5 HX3 HX4 HB0 HB1 HB2 HB3 HB4
  go_upto_region 5 with fail
  go_cut [9, 10] (fun s0_ s1_ wc => s1_ = .int .i64 g ∧ ∃ q : Nat, s0_ = .pointer (some ⟨q, 0, none⟩) ∧ MBox q ⟨s0, s1, s2, s3, s4, s5⟩ wc ∧ Below w5.heap.size w5 wc)
  case first =>
    have HBz := Lib.hid (Below.refl w5.heap.size w5)
    have HBd := Lib.hid HBz.out.drew
    have xM0 : w5.cell? ⟨w.heap.size, 0, none⟩ = some (.int .i64 a) := HM5.out.c0
    have xM1 : w5.cell? ⟨w.heap.size, 1, none⟩ = some (.int .i64 b) := HM5.out.c1
    have xM2 : w5.cell? ⟨w.heap.size, 2, none⟩ = some (.int .i64 c) := HM5.out.c2
    have xM3 : w5.cell? ⟨w.heap.size, 3, none⟩ = some (.int .i64 d) := HM5.out.c3
    have xM4 : w5.cell? ⟨w.heap.size, 4, none⟩ = some (.int .i64 e0) := HM5.out.c4
    have xM5 : w5.cell? ⟨w.heap.size, 5, none⟩ = some (.int .i64 f) := HM5.out.c5
    have lM := HM5.out.lt
    go_region_held3 (fun w' => w'.cell? ⟨w.heap.size, 0, none⟩ = some (.int .i64 a) ∧ w'.cell? ⟨w.heap.size, 1, none⟩ = some (.int .i64 b) ∧ w'.cell? ⟨w.heap.size, 2, none⟩ = some (.int .i64 c) ∧ w'.cell? ⟨w.heap.size, 3, none⟩ = some (.int .i64 d) ∧ w'.cell? ⟨w.heap.size, 4, none⟩ = some (.int .i64 e0) ∧ w'.cell? ⟨w.heap.size, 5, none⟩ = some (.int .i64 f)) (first | (refine ⟨?_, ?_, ?_, ?_, ?_, ?_⟩ <;> first | with_reducible assumption | (with_reducible refine cell_alloc ?_; with_reducible assumption) | (with_reducible refine cell_far (cell_far (cell_far (cell_far (cell_far (cell_far ?_ ?_) ?_) ?_) ?_) ?_) ?_ <;> with_reducible assumption)) | (simp [go_sem, *]; done))
      (first
      | (go_at_call 13; (with_reducible refine (SM.out _).mono ?_); rintro e v1 ⟨rfl, bc1⟩; have HBc1 := Lib.hid (HBd.out.trans (bc1.mono HBd.out.size)); (try (have HNB' := Lib.hid (HNB.out.next bc1); clear HNB; have HNB := HNB')); (try (clear yM0 yM1 yM2 yM3 yM4 yM5)); (try (clear u0 r0 u1 r1 u2 r2 u3 r3 u4 r4 u5 r5 lq)); (try (have u0 := HNB.out.c0; have r0 := HNB.out.z 0; have u1 := HNB.out.c1; have r1 := HNB.out.z 1; have u2 := HNB.out.c2; have r2 := HNB.out.z 2; have u3 := HNB.out.c3; have r3 := HNB.out.z 3; have u4 := HNB.out.c4; have r4 := HNB.out.z 4; have u5 := HNB.out.c5; have r5 := HNB.out.z 5; have lq := HNB.out.lt)); have hM_ := HM5.out.next HBc1.out; have yM0 : v1.cell? ⟨w.heap.size, 0, none⟩ = some (.int .i64 a) := hM_.c0; have yM1 : v1.cell? ⟨w.heap.size, 1, none⟩ = some (.int .i64 b) := hM_.c1; have yM2 : v1.cell? ⟨w.heap.size, 2, none⟩ = some (.int .i64 c) := hM_.c2; have yM3 : v1.cell? ⟨w.heap.size, 3, none⟩ = some (.int .i64 d) := hM_.c3; have yM4 : v1.cell? ⟨w.heap.size, 4, none⟩ = some (.int .i64 e0) := hM_.c4; have yM5 : v1.cell? ⟨w.heap.size, 5, none⟩ = some (.int .i64 f) := hM_.c5; have lM := hM_.lt; clear hM_; clear bc1)
      | (go_at_call 13; (with_reducible refine (SM.out _).mono ?_); rintro e v1 ⟨rfl, bc1⟩; have HBq := Lib.hid (HBz.out.alloc HBz.out.size (.cells #[.int .i64 0, .int .i64 0, .int .i64 0, .int .i64 0, .int .i64 0, .int .i64 0] 23)).drew; have hq' := MBox.new w5 ⟨0, 0, 0, 0, 0, 0⟩; have HQq : Hid (MBox w5.heap.size ⟨0, 0, 0, 0, 0, 0⟩ ((w5.alloc (.cells #[.int .i64 0, .int .i64 0, .int .i64 0, .int .i64 0, .int .i64 0, .int .i64 0] 23)).drew)) := Lib.hid hq'; clear hq'; have HBc1 := Lib.hid (HBq.out.trans (bc1.mono HBq.out.size)); have HNB := Lib.hid (HQq.out.next bc1); have HBl := HBz; (try (clear yM0 yM1 yM2 yM3 yM4 yM5)); (try (clear u0 r0 u1 r1 u2 r2 u3 r3 u4 r4 u5 r5 lq)); (try (have u0 := HNB.out.c0; have r0 := HNB.out.z 0; have u1 := HNB.out.c1; have r1 := HNB.out.z 1; have u2 := HNB.out.c2; have r2 := HNB.out.z 2; have u3 := HNB.out.c3; have r3 := HNB.out.z 3; have u4 := HNB.out.c4; have r4 := HNB.out.z 4; have u5 := HNB.out.c5; have r5 := HNB.out.z 5; have lq := HNB.out.lt)); have hM_ := HM5.out.next HBc1.out; have yM0 : v1.cell? ⟨w.heap.size, 0, none⟩ = some (.int .i64 a) := hM_.c0; have yM1 : v1.cell? ⟨w.heap.size, 1, none⟩ = some (.int .i64 b) := hM_.c1; have yM2 : v1.cell? ⟨w.heap.size, 2, none⟩ = some (.int .i64 c) := hM_.c2; have yM3 : v1.cell? ⟨w.heap.size, 3, none⟩ = some (.int .i64 d) := hM_.c3; have yM4 : v1.cell? ⟨w.heap.size, 4, none⟩ = some (.int .i64 e0) := hM_.c4; have yM5 : v1.cell? ⟨w.heap.size, 5, none⟩ = some (.int .i64 f) := hM_.c5; have lM := hM_.lt; clear hM_; clear bc1)
      | (go_at_call 17; (with_reducible refine (T1.out _).mono ?_); rintro e v2 ⟨rfl, bc2⟩; have HBc2 := Lib.hid (HBc1.out.trans (bc2.mono HBc1.out.size)); (try (have HNB' := Lib.hid (HNB.out.next bc2); clear HNB; have HNB := HNB')); (try (clear yM0 yM1 yM2 yM3 yM4 yM5)); (try (clear u0 r0 u1 r1 u2 r2 u3 r3 u4 r4 u5 r5 lq)); (try (have u0 := HNB.out.c0; have r0 := HNB.out.z 0; have u1 := HNB.out.c1; have r1 := HNB.out.z 1; have u2 := HNB.out.c2; have r2 := HNB.out.z 2; have u3 := HNB.out.c3; have r3 := HNB.out.z 3; have u4 := HNB.out.c4; have r4 := HNB.out.z 4; have u5 := HNB.out.c5; have r5 := HNB.out.z 5; have lq := HNB.out.lt)); have hM_ := HM5.out.next HBc2.out; have yM0 : v2.cell? ⟨w.heap.size, 0, none⟩ = some (.int .i64 a) := hM_.c0; have yM1 : v2.cell? ⟨w.heap.size, 1, none⟩ = some (.int .i64 b) := hM_.c1; have yM2 : v2.cell? ⟨w.heap.size, 2, none⟩ = some (.int .i64 c) := hM_.c2; have yM3 : v2.cell? ⟨w.heap.size, 3, none⟩ = some (.int .i64 d) := hM_.c3; have yM4 : v2.cell? ⟨w.heap.size, 4, none⟩ = some (.int .i64 e0) := hM_.c4; have yM5 : v2.cell? ⟨w.heap.size, 5, none⟩ = some (.int .i64 f) := hM_.c5; have lM := hM_.lt; clear hM_; clear bc2)
      | (go_at_call 17; (with_reducible refine (T1.out _).mono ?_); rintro e v2 ⟨rfl, bc2⟩; have HBq := Lib.hid (HBc1.out.alloc HBc1.out.size (.cells #[.int .i64 0, .int .i64 0, .int .i64 0, .int .i64 0, .int .i64 0, .int .i64 0] 23)); have hq' := MBox.new v1 ⟨0, 0, 0, 0, 0, 0⟩; have HQq : Hid (MBox v1.heap.size ⟨0, 0, 0, 0, 0, 0⟩ ((v1.alloc (.cells #[.int .i64 0, .int .i64 0, .int .i64 0, .int .i64 0, .int .i64 0, .int .i64 0] 23)))) := Lib.hid hq'; clear hq'; have HBc2 := Lib.hid (HBq.out.trans (bc2.mono HBq.out.size)); have HNB := Lib.hid (HQq.out.next bc2); have HBl := HBc1; (try (clear yM0 yM1 yM2 yM3 yM4 yM5)); (try (clear u0 r0 u1 r1 u2 r2 u3 r3 u4 r4 u5 r5 lq)); (try (have u0 := HNB.out.c0; have r0 := HNB.out.z 0; have u1 := HNB.out.c1; have r1 := HNB.out.z 1; have u2 := HNB.out.c2; have r2 := HNB.out.z 2; have u3 := HNB.out.c3; have r3 := HNB.out.z 3; have u4 := HNB.out.c4; have r4 := HNB.out.z 4; have u5 := HNB.out.c5; have r5 := HNB.out.z 5; have lq := HNB.out.lt)); have hM_ := HM5.out.next HBc2.out; have yM0 : v2.cell? ⟨w.heap.size, 0, none⟩ = some (.int .i64 a) := hM_.c0; have yM1 : v2.cell? ⟨w.heap.size, 1, none⟩ = some (.int .i64 b) := hM_.c1; have yM2 : v2.cell? ⟨w.heap.size, 2, none⟩ = some (.int .i64 c) := hM_.c2; have yM3 : v2.cell? ⟨w.heap.size, 3, none⟩ = some (.int .i64 d) := hM_.c3; have yM4 : v2.cell? ⟨w.heap.size, 4, none⟩ = some (.int .i64 e0) := hM_.c4; have yM5 : v2.cell? ⟨w.heap.size, 5, none⟩ = some (.int .i64 f) := hM_.c5; have lM := hM_.lt; clear hM_; clear bc2)
      )
    all_goals
      go_wp2_with fail
      go_meet
      first
      | (have hN := MBox.new v2 ⟨s0, s1, s2, s3, s4, s5⟩; simp only [Mtx.cells] at hN; with_reducible exact ⟨rfl, _, rfl, hN, HBc2.out.alloc HBc2.out.size _⟩)
      | (with_reducible exact ⟨rfl, _, rfl, HNB.out.set s0 s1 s2 s3 s4 s5, below_six8 HBc2.out HBl.out.size _ _ _ _ _ _⟩)
  case rest =>
    obtain ⟨rfl, ka, rfl, hq_, hb_⟩ := hcut
    have HB6 := Lib.hid (HB5.out.trans (hb_.mono HB5.out.size))
    have HM6 := Lib.hid (HM5.out.next hb_)
    have HX6 := Lib.hid (HX5.out.next hb_)
    have HV6 := Lib.hid (HV5.out.next hb_)
    have HA6 := Lib.hid hq_
    clear hq_ hb_
    generalize wc = w6 at *
    clear HM5 HX5 HV5 HB5 T1
    go_upto_region 6 with fail
    go_cut [11, 12] (fun s0_ s1_ wc => s1_ = .int .i64 g ∧ ∃ q : Nat, s0_ = .pointer (some ⟨q, 0, none⟩) ∧ MBox q ⟨s0, s1, s2, s3, s4, s5⟩ wc ∧ Below w6.heap.size w6 wc)
    case first =>
      have HBz := Lib.hid (Below.refl w6.heap.size w6)
      have HBd := Lib.hid HBz.out.drew
      have xM0 : w6.cell? ⟨w.heap.size, 0, none⟩ = some (.int .i64 a) := HM6.out.c0
      have xM1 : w6.cell? ⟨w.heap.size, 1, none⟩ = some (.int .i64 b) := HM6.out.c1
      have xM2 : w6.cell? ⟨w.heap.size, 2, none⟩ = some (.int .i64 c) := HM6.out.c2
      have xM3 : w6.cell? ⟨w.heap.size, 3, none⟩ = some (.int .i64 d) := HM6.out.c3
      have xM4 : w6.cell? ⟨w.heap.size, 4, none⟩ = some (.int .i64 e0) := HM6.out.c4
      have xM5 : w6.cell? ⟨w.heap.size, 5, none⟩ = some (.int .i64 f) := HM6.out.c5
      have lM := HM6.out.lt
      go_region_held3 (fun w' => w'.cell? ⟨w.heap.size, 0, none⟩ = some (.int .i64 a) ∧ w'.cell? ⟨w.heap.size, 1, none⟩ = some (.int .i64 b) ∧ w'.cell? ⟨w.heap.size, 2, none⟩ = some (.int .i64 c) ∧ w'.cell? ⟨w.heap.size, 3, none⟩ = some (.int .i64 d) ∧ w'.cell? ⟨w.heap.size, 4, none⟩ = some (.int .i64 e0) ∧ w'.cell? ⟨w.heap.size, 5, none⟩ = some (.int .i64 f)) (first | (refine ⟨?_, ?_, ?_, ?_, ?_, ?_⟩ <;> first | with_reducible assumption | (with_reducible refine cell_alloc ?_; with_reducible assumption) | (with_reducible refine cell_far (cell_far (cell_far (cell_far (cell_far (cell_far ?_ ?_) ?_) ?_) ?_) ?_) ?_ <;> with_reducible assumption)) | (simp [go_sem, *]; done))
        (first
        | (go_at_call 13; (with_reducible refine (SM.out _).mono ?_); rintro e v1 ⟨rfl, bc1⟩; have HBc1 := Lib.hid (HBd.out.trans (bc1.mono HBd.out.size)); (try (have HNB' := Lib.hid (HNB.out.next bc1); clear HNB; have HNB := HNB')); (try (clear yM0 yM1 yM2 yM3 yM4 yM5)); (try (clear u0 r0 u1 r1 u2 r2 u3 r3 u4 r4 u5 r5 lq)); (try (have u0 := HNB.out.c0; have r0 := HNB.out.z 0; have u1 := HNB.out.c1; have r1 := HNB.out.z 1; have u2 := HNB.out.c2; have r2 := HNB.out.z 2; have u3 := HNB.out.c3; have r3 := HNB.out.z 3; have u4 := HNB.out.c4; have r4 := HNB.out.z 4; have u5 := HNB.out.c5; have r5 := HNB.out.z 5; have lq := HNB.out.lt)); have hM_ := HM6.out.next HBc1.out; have yM0 : v1.cell? ⟨w.heap.size, 0, none⟩ = some (.int .i64 a) := hM_.c0; have yM1 : v1.cell? ⟨w.heap.size, 1, none⟩ = some (.int .i64 b) := hM_.c1; have yM2 : v1.cell? ⟨w.heap.size, 2, none⟩ = some (.int .i64 c) := hM_.c2; have yM3 : v1.cell? ⟨w.heap.size, 3, none⟩ = some (.int .i64 d) := hM_.c3; have yM4 : v1.cell? ⟨w.heap.size, 4, none⟩ = some (.int .i64 e0) := hM_.c4; have yM5 : v1.cell? ⟨w.heap.size, 5, none⟩ = some (.int .i64 f) := hM_.c5; have lM := hM_.lt; clear hM_; clear bc1)
        | (go_at_call 13; (with_reducible refine (SM.out _).mono ?_); rintro e v1 ⟨rfl, bc1⟩; have HBq := Lib.hid (HBz.out.alloc HBz.out.size (.cells #[.int .i64 0, .int .i64 0, .int .i64 0, .int .i64 0, .int .i64 0, .int .i64 0] 23)).drew; have hq' := MBox.new w6 ⟨0, 0, 0, 0, 0, 0⟩; have HQq : Hid (MBox w6.heap.size ⟨0, 0, 0, 0, 0, 0⟩ ((w6.alloc (.cells #[.int .i64 0, .int .i64 0, .int .i64 0, .int .i64 0, .int .i64 0, .int .i64 0] 23)).drew)) := Lib.hid hq'; clear hq'; have HBc1 := Lib.hid (HBq.out.trans (bc1.mono HBq.out.size)); have HNB := Lib.hid (HQq.out.next bc1); have HBl := HBz; (try (clear yM0 yM1 yM2 yM3 yM4 yM5)); (try (clear u0 r0 u1 r1 u2 r2 u3 r3 u4 r4 u5 r5 lq)); (try (have u0 := HNB.out.c0; have r0 := HNB.out.z 0; have u1 := HNB.out.c1; have r1 := HNB.out.z 1; have u2 := HNB.out.c2; have r2 := HNB.out.z 2; have u3 := HNB.out.c3; have r3 := HNB.out.z 3; have u4 := HNB.out.c4; have r4 := HNB.out.z 4; have u5 := HNB.out.c5; have r5 := HNB.out.z 5; have lq := HNB.out.lt)); have hM_ := HM6.out.next HBc1.out; have yM0 : v1.cell? ⟨w.heap.size, 0, none⟩ = some (.int .i64 a) := hM_.c0; have yM1 : v1.cell? ⟨w.heap.size, 1, none⟩ = some (.int .i64 b) := hM_.c1; have yM2 : v1.cell? ⟨w.heap.size, 2, none⟩ = some (.int .i64 c) := hM_.c2; have yM3 : v1.cell? ⟨w.heap.size, 3, none⟩ = some (.int .i64 d) := hM_.c3; have yM4 : v1.cell? ⟨w.heap.size, 4, none⟩ = some (.int .i64 e0) := hM_.c4; have yM5 : v1.cell? ⟨w.heap.size, 5, none⟩ = some (.int .i64 f) := hM_.c5; have lM := hM_.lt; clear hM_; clear bc1)
        | (go_at_call 17; (with_reducible refine (T2.out _).mono ?_); rintro e v2 ⟨rfl, bc2⟩; have HBc2 := Lib.hid (HBc1.out.trans (bc2.mono HBc1.out.size)); (try (have HNB' := Lib.hid (HNB.out.next bc2); clear HNB; have HNB := HNB')); (try (clear yM0 yM1 yM2 yM3 yM4 yM5)); (try (clear u0 r0 u1 r1 u2 r2 u3 r3 u4 r4 u5 r5 lq)); (try (have u0 := HNB.out.c0; have r0 := HNB.out.z 0; have u1 := HNB.out.c1; have r1 := HNB.out.z 1; have u2 := HNB.out.c2; have r2 := HNB.out.z 2; have u3 := HNB.out.c3; have r3 := HNB.out.z 3; have u4 := HNB.out.c4; have r4 := HNB.out.z 4; have u5 := HNB.out.c5; have r5 := HNB.out.z 5; have lq := HNB.out.lt)); have hM_ := HM6.out.next HBc2.out; have yM0 : v2.cell? ⟨w.heap.size, 0, none⟩ = some (.int .i64 a) := hM_.c0; have yM1 : v2.cell? ⟨w.heap.size, 1, none⟩ = some (.int .i64 b) := hM_.c1; have yM2 : v2.cell? ⟨w.heap.size, 2, none⟩ = some (.int .i64 c) := hM_.c2; have yM3 : v2.cell? ⟨w.heap.size, 3, none⟩ = some (.int .i64 d) := hM_.c3; have yM4 : v2.cell? ⟨w.heap.size, 4, none⟩ = some (.int .i64 e0) := hM_.c4; have yM5 : v2.cell? ⟨w.heap.size, 5, none⟩ = some (.int .i64 f) := hM_.c5; have lM := hM_.lt; clear hM_; clear bc2)
        | (go_at_call 17; (with_reducible refine (T2.out _).mono ?_); rintro e v2 ⟨rfl, bc2⟩; have HBq := Lib.hid (HBc1.out.alloc HBc1.out.size (.cells #[.int .i64 0, .int .i64 0, .int .i64 0, .int .i64 0, .int .i64 0, .int .i64 0] 23)); have hq' := MBox.new v1 ⟨0, 0, 0, 0, 0, 0⟩; have HQq : Hid (MBox v1.heap.size ⟨0, 0, 0, 0, 0, 0⟩ ((v1.alloc (.cells #[.int .i64 0, .int .i64 0, .int .i64 0, .int .i64 0, .int .i64 0, .int .i64 0] 23)))) := Lib.hid hq'; clear hq'; have HBc2 := Lib.hid (HBq.out.trans (bc2.mono HBq.out.size)); have HNB := Lib.hid (HQq.out.next bc2); have HBl := HBc1; (try (clear yM0 yM1 yM2 yM3 yM4 yM5)); (try (clear u0 r0 u1 r1 u2 r2 u3 r3 u4 r4 u5 r5 lq)); (try (have u0 := HNB.out.c0; have r0 := HNB.out.z 0; have u1 := HNB.out.c1; have r1 := HNB.out.z 1; have u2 := HNB.out.c2; have r2 := HNB.out.z 2; have u3 := HNB.out.c3; have r3 := HNB.out.z 3; have u4 := HNB.out.c4; have r4 := HNB.out.z 4; have u5 := HNB.out.c5; have r5 := HNB.out.z 5; have lq := HNB.out.lt)); have hM_ := HM6.out.next HBc2.out; have yM0 : v2.cell? ⟨w.heap.size, 0, none⟩ = some (.int .i64 a) := hM_.c0; have yM1 : v2.cell? ⟨w.heap.size, 1, none⟩ = some (.int .i64 b) := hM_.c1; have yM2 : v2.cell? ⟨w.heap.size, 2, none⟩ = some (.int .i64 c) := hM_.c2; have yM3 : v2.cell? ⟨w.heap.size, 3, none⟩ = some (.int .i64 d) := hM_.c3; have yM4 : v2.cell? ⟨w.heap.size, 4, none⟩ = some (.int .i64 e0) := hM_.c4; have yM5 : v2.cell? ⟨w.heap.size, 5, none⟩ = some (.int .i64 f) := hM_.c5; have lM := hM_.lt; clear hM_; clear bc2)
        )
      all_goals
        go_wp2_with fail
        go_meet
        first
        | (have hN := MBox.new v2 ⟨s0, s1, s2, s3, s4, s5⟩; simp only [Mtx.cells] at hN; with_reducible exact ⟨rfl, _, rfl, hN, HBc2.out.alloc HBc2.out.size _⟩)
        | (with_reducible exact ⟨rfl, _, rfl, HNB.out.set s0 s1 s2 s3 s4 s5, below_six8 HBc2.out HBl.out.size _ _ _ _ _ _⟩)
    case rest =>
      obtain ⟨rfl, ke, rfl, hq_, hb_⟩ := hcut
      have HB7 := Lib.hid (HB6.out.trans (hb_.mono HB6.out.size))
      have HM7 := Lib.hid (HM6.out.next hb_)
      have HX7 := Lib.hid (HX6.out.next hb_)
      have HV7 := Lib.hid (HV6.out.next hb_)
      have HA7 := Lib.hid (HA6.out.next hb_)
      have HE7 := Lib.hid hq_
      clear hq_ hb_
      generalize wc = w7 at *
      clear HM6 HX6 HV6 HB6 HA6 T2 SM
      have m_70 : w7.cell? ⟨w.heap.size, 0, none⟩ = some (.int .i64 a) := HM7.out.c0
      have m_71 : w7.cell? ⟨w.heap.size, 1, none⟩ = some (.int .i64 b) := HM7.out.c1
      have m_72 : w7.cell? ⟨w.heap.size, 2, none⟩ = some (.int .i64 c) := HM7.out.c2
      have m_73 : w7.cell? ⟨w.heap.size, 3, none⟩ = some (.int .i64 d) := HM7.out.c3
      have m_74 : w7.cell? ⟨w.heap.size, 4, none⟩ = some (.int .i64 e0) := HM7.out.c4
      have m_75 : w7.cell? ⟨w.heap.size, 5, none⟩ = some (.int .i64 f) := HM7.out.c5
      have x_70 : w7.cell? ⟨kx, 0, none⟩ = some (.int .i64 x0) := HX7.out.c0
      have x_71 : w7.cell? ⟨kx, 1, none⟩ = some (.int .i64 x1) := HX7.out.c1
      have x_72 : w7.cell? ⟨kx, 2, none⟩ = some (.int .i64 x2) := HX7.out.c2
      have x_73 : w7.cell? ⟨kx, 3, none⟩ = some (.int .i64 x3) := HX7.out.c3
      have x_74 : w7.cell? ⟨kx, 4, none⟩ = some (.int .i64 x4) := HX7.out.c4
      have x_75 : w7.cell? ⟨kx, 5, none⟩ = some (.int .i64 x5) := HX7.out.c5
      have v_70 : w7.cell? ⟨kv, 0, none⟩ = some (.int .i64 x0) := HV7.out.c0
      have v_71 : w7.cell? ⟨kv, 1, none⟩ = some (.int .i64 x1) := HV7.out.c1
      have v_72 : w7.cell? ⟨kv, 2, none⟩ = some (.int .i64 x2) := HV7.out.c2
      have v_73 : w7.cell? ⟨kv, 3, none⟩ = some (.int .i64 x3) := HV7.out.c3
      have v_74 : w7.cell? ⟨kv, 4, none⟩ = some (.int .i64 x4) := HV7.out.c4
      have v_75 : w7.cell? ⟨kv, 5, none⟩ = some (.int .i64 x5) := HV7.out.c5
      have ez : (z != z) = false := by simp
      go_wp2_with fail
      refine (RR.out _).mono ?_
      rintro e w8 ⟨rfl, b8⟩
      have HB8 := Lib.hid (HB7.out.trans (b8.mono HB7.out.size))
      have HM8 := Lib.hid (HM7.out.next b8)
      have HX8 := Lib.hid (HX7.out.next b8)
      have HV8 := Lib.hid (HV7.out.next b8)
      have HA8 := Lib.hid (HA7.out.next b8)
      have HE8 := Lib.hid (HE7.out.next b8)
      clear b8
      clear m_70 m_71 m_72 m_73 m_74 m_75 x_70 x_71 x_72 x_73 x_74 x_75 v_70 v_71 v_72 v_73 v_74 v_75
      clear ez
      have hq := HQ.out
      clear HQ HX7 HV7 HM7 HA7 HE7 HB7
      by_cases hr : Mtx.right ⟨a, b, c, d, e0, f⟩
      · rw [decide_eq_true hr] at *
        rw [if_pos hr] at hq
        simp only [Prod.mk.injEq, Mtx.mk.injEq] at hq
        obtain ⟨⟨rfl, rfl, rfl, rfl, rfl, rfl⟩, rfl⟩ := hq
        have m_80 : w8.cell? ⟨w.heap.size, 0, none⟩ = some (.int .i64 a) := HM8.out.c0
        have m_81 : w8.cell? ⟨w.heap.size, 1, none⟩ = some (.int .i64 b) := HM8.out.c1
        have m_82 : w8.cell? ⟨w.heap.size, 2, none⟩ = some (.int .i64 c) := HM8.out.c2
        have m_83 : w8.cell? ⟨w.heap.size, 3, none⟩ = some (.int .i64 d) := HM8.out.c3
        have m_84 : w8.cell? ⟨w.heap.size, 4, none⟩ = some (.int .i64 e0) := HM8.out.c4
        have m_85 : w8.cell? ⟨w.heap.size, 5, none⟩ = some (.int .i64 f) := HM8.out.c5
        have a_80 : w8.cell? ⟨ka, 0, none⟩ = some (.int .i64 a) := HA8.out.c0
        have a_81 : w8.cell? ⟨ka, 1, none⟩ = some (.int .i64 b) := HA8.out.c1
        have a_82 : w8.cell? ⟨ka, 2, none⟩ = some (.int .i64 c) := HA8.out.c2
        have a_83 : w8.cell? ⟨ka, 3, none⟩ = some (.int .i64 d) := HA8.out.c3
        have a_84 : w8.cell? ⟨ka, 4, none⟩ = some (.int .i64 e0) := HA8.out.c4
        have a_85 : w8.cell? ⟨ka, 5, none⟩ = some (.int .i64 f) := HA8.out.c5
        have e_80 : w8.cell? ⟨ke, 0, none⟩ = some (.int .i64 a) := HE8.out.c0
        have e_81 : w8.cell? ⟨ke, 1, none⟩ = some (.int .i64 b) := HE8.out.c1
        have e_82 : w8.cell? ⟨ke, 2, none⟩ = some (.int .i64 c) := HE8.out.c2
        have e_83 : w8.cell? ⟨ke, 3, none⟩ = some (.int .i64 d) := HE8.out.c3
        have e_84 : w8.cell? ⟨ke, 4, none⟩ = some (.int .i64 e0) := HE8.out.c4
        have e_85 : w8.cell? ⟨ke, 5, none⟩ = some (.int .i64 f) := HE8.out.c5
        go_wp2_with fail
        go_ret
        exact ⟨rfl, HB8.out⟩
      · rw [decide_eq_false hr] at *
        rw [if_neg hr] at hq
        simp only [Prod.mk.injEq] at hq
        obtain ⟨_, rfl⟩ := hq
        go_wp2_with fail
        go_ret
        exact ⟨rfl, HB8.out⟩
set_option maxRecDepth 100000 in
theorem lifted (os : Os) (started : os.Started) (H : Type) (enc : TypeId × Value → H) :
    ReturnsInHanded {} Try.checked os 4 .any (Rows.affineThenSpec.pre6 enc Try.prog Try.f4 Rows.affineThenRow.domain false) (Rows.affineThenSpec.post enc Try.prog Try.f4 false true false false) := by
  refine returnsInHanded_of_change (C := Try.checked) own started (by kernel_rfl) Try.func4
    (ChangeSpec.witness6 (enc := enc) (C := Try.checked) false ⟨#[], #[.agg #[.int .i64 0, .int .i64 0, .int .i64 0, .int .i64 0, .int .i64 0, .int .i64 0], .agg #[.int .i64 0, .int .i64 0, .int .i64 0, .int .i64 0, .int .i64 0, .int .i64 0]], []⟩ 8 (by kernel_rfl) (by kernel_rfl) (by kernel_rfl) (by kernel_rfl)) ?_
  intro W base args ds gs before hval0 hW hcnd _
  have hval : ∀ (j : Nat) t v, Try.f4.params[j]? = some t → args[j]? = some v → Value.okWide Try.prog W .any base t v := hval0
  have hW' := hW
  obtain ⟨p, q, hA0, hV, rfl, hfz, hnd⟩ := hW
  have hA : DataW.TrodAll enc Try.prog W 0 (fun _ => true) true Try.f4.params.toList args.toList ds p := hA0
  rw [Try.params4] at hA hval
  obtain ⟨v0, v1, d0, d1, p0, p1, rfl, rfl, rfl, h0, h1⟩ := trodAll_two hA
  obtain ⟨rfl, rfl⟩ := trodVars_none hV
  obtain ⟨m0, rfl, w0⟩ := mtx_of_trod Try.underlying23 (by kernel_rfl) (by kernel_rfl) Try.underlying2 Try.underlying2 Try.underlying2 Try.underlying2 Try.underlying2 Try.underlying2 (hval 0 23 v0 rfl rfl) h0
  obtain ⟨m1, rfl, w1⟩ := mtx_of_trod Try.underlying23 (by kernel_rfl) (by kernel_rfl) Try.underlying2 Try.underlying2 Try.underlying2 Try.underlying2 Try.underlying2 Try.underlying2 (hval 1 23 v1 rfl rfl) h1
  clear hA0 hval0
  simp only [List.append_nil] at hW'
  have lt0 : ∀ x ∈ p0, x.block < W.heap.size := fun x hx => hW'.lt x (by simp [hx])
  have lt1 : ∀ x ∈ p1, x.block < W.heap.size := fun x hx => hW'.lt x (by simp [hx])
  refine (walk m0 w0 m1 w1 W).mono fun e W' ⟨he, hg⟩ => ?_
  subst he
  have b0' := Below.trod laidOut (by kernel_rfl) (of_decide_eq_true (by kernel_rfl)) h0 hg lt0
  have b1' := Below.trod laidOut (by kernel_rfl) (of_decide_eq_true (by kernel_rfl)) h1 hg lt1
  exact ⟨_, rfl, ⟨_, _, _, [], _, [], hW', trodAll_mk1 (shut_bool Try.underlying4 _), trodAll_mk2 b0' b1', rfl, hg.frame _, fun h => by cases h⟩⟩

/-- The given statement. -/
theorem proved : Rows.AffineThenSaid :=
  OpenClaim.holds_of_wide 4 Try.f4 rfl rfl rfl rfl rfl rfl rfl ⟨rfl, rfl, rfl, rfl, rfl⟩ rfl rfl rfl rfl rfl (by kernel_rfl) Try.func4 (by kernel_rfl)
    (of_decide_eq_true (by kernel_rfl)) (by unfold Func.isWrapper; first | (rw [if_pos (by decide +kernel)]; kernel_rfl) | (rw [if_neg (by decide +kernel)]; exact ⟨rfl, rfl⟩))
    (fun os started H enc _ => lifted os started H enc)
end Go.Proofs.Ythnjdncnmdmjaaa.affineThen
