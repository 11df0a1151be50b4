/-
  PROVED: the statement of AffineApplies, for every input. (Typed by a program.)
-/
import Derived.Test.YthnjdncnmdmjaaaRows
import Derived.Test.YthnjdncnmdmjaaaAffWakes
import Derived.Test.YthnjdncnmdmjaaaAffTrod
import Derived.Test.YthnjdncnmdmjaaaAffCell
import Derived.Test.YthnjdncnmdmjaaaAffApply
import Derived.Deep.DeepCutAuto
namespace Go.Proofs.Ythnjdncnmdmjaaa.affineApplies
open Go.ChangeShapes Go.WideShapes Go.ChangeAt Go.RowKit Go.Shelf

theorem mi_same : MI64 sameM := by unfold MI64 I64 sameM; decide
theorem apply_same_in {x y : Int} (hx : In32 x) (hy : In32 y) : applyS sameM x y = ((x, y), 0) := by
  unfold applyS
  rw [if_pos ⟨right_same, hx, hy⟩, app_same, if_pos ⟨hx, hy⟩]
theorem apply_same_out {x y : Int} (h : ¬ (In32 x ∧ In32 y)) : applyS sameM x y = ((0, 0), 1) := by
  unfold applyS
  rw [if_neg (fun k => h k.2)]
theorem boxes2 (w : World) (m : Mtx) (x y : Int) : MBox w.heap.size m ((w.alloc (.cells m.cells 23)).alloc (.cells #[.int .i64 x, .int .i64 y] 25)) ∧ PBox (w.heap.size + 1) x y ((w.alloc (.cells m.cells 23)).alloc (.cells #[.int .i64 x, .int .i64 y] 25)) ∧ Below w.heap.size w ((w.alloc (.cells m.cells 23)).alloc (.cells #[.int .i64 x, .int .i64 y] 25)) := by
  have b1 := (Below.refl w.heap.size w).alloc (Nat.le_refl _) (.cells m.cells 23)
  have m1 := MBox.new w m
  generalize hA : w.alloc (.cells m.cells 23) = A at *
  have sA : A.heap.size = w.heap.size + 1 := by rw [← hA]; simp
  have b2 := (Below.refl A.heap.size A).alloc (Nat.le_refl _) (.cells #[.int .i64 x, .int .i64 y] 25)
  have p2 := PBox.new A x y
  rw [sA] at p2
  exact ⟨m1.next b2, p2, b1.trans (b2.mono b1.size)⟩
set_option maxHeartbeats 16000000 in
set_option maxRecDepth 100000 in
theorem walk (m : Mtx) (i : MI64 m) (x y : Int) (hx : I64 x) (hy : I64 y) (w : World) :
    Calls Try.prog 3 #[m.val, .agg #[.int .i64 x, .int .i64 y]] w fun e w' => e = .returned (.bool true) ∧ Below w.heap.size w w' := by
  have K := Lib.hid (fun w => wakes8 w)
  have AP := Lib.hid (fun w => aapply8 m x y w i hx hy)
  have RA := Lib.hid (fun w => rapply8 m x y w)
  have AR := Lib.hid (fun w => aright8 m w i)
  have RR := Lib.hid (fun w => rright8 m w)
  have SM := Lib.hid (fun w => asame8 w)
  have SP := Lib.hid (fun w => aapply8 sameM x y w mi_same hx hy)
  have IX := Lib.hid (fun w => rin8 x w)
  have IY := Lib.hid (fun w => rin8 y w)
  obtain ⟨hbm, hbp, hb⟩ := boxes2 w m x y
  generalize applyS m x y = R at *
  obtain ⟨⟨qx, qy⟩, z⟩ := R
  obtain ⟨R2, hR2⟩ : ∃ R2, applyS sameM x y = R2 := ⟨_, rfl⟩
  rw [hR2] at SP
  have HQ := Lib.hid hR2
  clear hR2
  obtain ⟨⟨sx, sy⟩, g⟩ := R2
  have er : (decide m.right == decide m.right) = true := by simp
  generalize decide m.right = rr at *
  obtain ⟨a, b, c, d, e0, f⟩ := m
  unfold PE at AP RA SP
  unfold Mtx.val at AP RA AR RR SM SP
  unfold sameM at SM SP
  simp only [Mtx.cells] at AP RA AR RR SM SP hbm hbp hb
  have HM0 := Lib.hid hbm
  have HP0 := Lib.hid hbp
  have HB0 := Lib.hid hb
  have ez : (z == z) = true := by simp
  clear hbm hbp hb hx hy i
  show Calls _ _ #[.agg #[.int .i64 a, .int .i64 b, .int .i64 c, .int .i64 d, .int .i64 e0, .int .i64 f], _] w _
  go_enter Try.func3, Try.ntmps3
  go_wp2_with fail
  generalize (w.alloc (.cells #[.int .i64 a, .int .i64 b, .int .i64 c, .int .i64 d, .int .i64 e0, .int .i64 f] 23)).alloc (.cells #[.int .i64 x, .int .i64 y] 25) = w0 at *
  refine (K.out _).mono ?_
  rintro e w1 ⟨rfl, b1⟩
  have HB1 := Lib.hid (HB0.out.trans (b1.mono HB0.out.size))
  have HM1 := Lib.hid (HM0.out.next b1)
  have HP1 := Lib.hid (HP0.out.next b1)
  clear b1
  have m_10 : w1.cell? ⟨w.heap.size, 0, none⟩ = some (.int .i64 a) := HM1.out.c0
  have m_11 : w1.cell? ⟨w.heap.size, 1, none⟩ = some (.int .i64 b) := HM1.out.c1
  have m_12 : w1.cell? ⟨w.heap.size, 2, none⟩ = some (.int .i64 c) := HM1.out.c2
  have m_13 : w1.cell? ⟨w.heap.size, 3, none⟩ = some (.int .i64 d) := HM1.out.c3
  have m_14 : w1.cell? ⟨w.heap.size, 4, none⟩ = some (.int .i64 e0) := HM1.out.c4
  have m_15 : w1.cell? ⟨w.heap.size, 5, none⟩ = some (.int .i64 f) := HM1.out.c5
  have p_10 : w1.cell? ⟨w.heap.size + 1, 0, none⟩ = some (.int .i64 x) := HP1.out.c0
  have p_11 : w1.cell? ⟨w.heap.size + 1, 1, none⟩ = some (.int .i64 y) := HP1.out.c1
  go_wp2_with fail
  refine (AP.out _).mono ?_
  rintro e w2 ⟨rfl, b2⟩
  have HB2 := Lib.hid (HB1.out.trans (b2.mono HB1.out.size))
  have HM2 := Lib.hid (HM1.out.next b2)
  have HP2 := Lib.hid (HP1.out.next b2)
  clear b2
  clear m_10 m_11 m_12 m_13 m_14 m_15 p_10 p_11
  clear K AP
  go_upto_region 4 with fail
  have al := (Below.refl w2.heap.size w2).alloc (Nat.le_refl _) (.cells #[.int .i64 qx, .int .i64 qy] 25)
  have hnew := PBox.new w2 qx qy
  have HQ3 := Lib.hid hnew
  have HB3 := Lib.hid (HB2.out.alloc HB2.out.size (.cells #[.int .i64 qx, .int .i64 qy] 25))
  have HM3 := Lib.hid (HM2.out.next al)
  have HP3 := Lib.hid (HP2.out.next al)
  clear al hnew
  generalize w2.alloc (.cells #[.int .i64 qx, .int .i64 qy] 25) = w3 at *
  generalize w2.heap.size = kq at *
  have m_30 : w3.cell? ⟨w.heap.size, 0, none⟩ = some (.int .i64 a) := HM3.out.c0
  have m_31 : w3.cell? ⟨w.heap.size, 1, none⟩ = some (.int .i64 b) := HM3.out.c1
  have m_32 : w3.cell? ⟨w.heap.size, 2, none⟩ = some (.int .i64 c) := HM3.out.c2
  have m_33 : w3.cell? ⟨w.heap.size, 3, none⟩ = some (.int .i64 d) := HM3.out.c3
  have m_34 : w3.cell? ⟨w.heap.size, 4, none⟩ = some (.int .i64 e0) := HM3.out.c4
  have m_35 : w3.cell? ⟨w.heap.size, 5, none⟩ = some (.int .i64 f) := HM3.out.c5
  have p_30 : w3.cell? ⟨w.heap.size + 1, 0, none⟩ = some (.int .i64 x) := HP3.out.c0
  have p_31 : w3.cell? ⟨w.heap.size + 1, 1, none⟩ = some (.int .i64 y) := HP3.out.c1
  go_wp2_with fail
  refine (RA.out _).mono ?_
  rintro e w4 ⟨rfl, b4⟩
  have HB4 := Lib.hid (HB3.out.trans (b4.mono HB3.out.size))
  have HM4 := Lib.hid (HM3.out.next b4)
  have HP4 := Lib.hid (HP3.out.next b4)
  have HQ4 := Lib.hid (HQ3.out.next b4)
  clear b4
  clear m_30 m_31 m_32 m_33 m_34 m_35 p_30 p_31
  clear RA
  go_upto_region 5 with fail
  have al := (Below.refl w4.heap.size w4).alloc (Nat.le_refl _) (.cells #[.int .i64 qx, .int .i64 qy] 25)
  have hnew := PBox.new w4 qx qy
  have HT5 := Lib.hid hnew
  have HB5 := Lib.hid (HB4.out.alloc HB4.out.size (.cells #[.int .i64 qx, .int .i64 qy] 25))
  have HM5 := Lib.hid (HM4.out.next al)
  have HP5 := Lib.hid (HP4.out.next al)
  have HQ5 := Lib.hid (HQ4.out.next al)
  clear al hnew
  generalize w4.alloc (.cells #[.int .i64 qx, .int .i64 qy] 25) = w5 at *
  generalize w4.heap.size = kt at *
  clear HM0 HM1 HM2 HM3 HM4 HP0 HP1 HP2 HP3 HP4 HQ3 HQ4 HB0 HB1 HB2 HB3 HB4
  go_upto_region 5 with fail
  go_cut [9, 10] (fun s0_ s1_ wc => s1_ = .int .i64 g ∧ ∃ q : Nat, s0_ = .pointer (some ⟨q, 0, none⟩) ∧ PBox q sx sy wc ∧ Below w5.heap.size w5 wc)
  case first =>
    have HBz := Lib.hid (Below.refl w5.heap.size w5)
    have HBd := Lib.hid HBz.out.drew
    have xP0 : w5.cell? ⟨w.heap.size + 1, 0, none⟩ = some (.int .i64 x) := HP5.out.c0
    have xP1 : w5.cell? ⟨w.heap.size + 1, 1, none⟩ = some (.int .i64 y) := HP5.out.c1
    have lP := HP5.out.lt
    go_region_held3 (fun w' => w'.cell? ⟨w.heap.size + 1, 0, none⟩ = some (.int .i64 x) ∧ w'.cell? ⟨w.heap.size + 1, 1, none⟩ = some (.int .i64 y)) (first | (refine ⟨?_, ?_⟩ <;> first | with_reducible assumption | (with_reducible refine cell_alloc ?_; with_reducible assumption) | (with_reducible refine cell_far (cell_far ?_ ?_) ?_ <;> with_reducible assumption)) | (simp [go_sem, *]; done))
      (first
      | (go_at_call 13; (with_reducible refine (SM.out _).mono ?_); rintro e v1 ⟨rfl, bc1⟩; have HBc1 := Lib.hid (HBd.out.trans (bc1.mono HBd.out.size)); (try (have HNB' := Lib.hid (HNB.out.next bc1); clear HNB; have HNB := HNB')); (try (clear yP0 yP1)); (try (clear u0 r0 u1 r1 lq)); (try (have u0 := HNB.out.c0; have r0 := HNB.out.z 0; have u1 := HNB.out.c1; have r1 := HNB.out.z 1; have lq := HNB.out.lt)); have hP_ := HP5.out.next HBc1.out; have yP0 : v1.cell? ⟨w.heap.size + 1, 0, none⟩ = some (.int .i64 x) := hP_.c0; have yP1 : v1.cell? ⟨w.heap.size + 1, 1, none⟩ = some (.int .i64 y) := hP_.c1; have lP := hP_.lt; clear hP_; clear bc1)
      | (go_at_call 13; (with_reducible refine (SM.out _).mono ?_); rintro e v1 ⟨rfl, bc1⟩; have HBq := Lib.hid (HBz.out.alloc HBz.out.size (.cells #[.int .i64 0, .int .i64 0] 25)).drew; have hq' := PBox.new w5 0 0; have HQq : Hid (PBox w5.heap.size 0 0 ((w5.alloc (.cells #[.int .i64 0, .int .i64 0] 25)).drew)) := Lib.hid hq'; clear hq'; have HBc1 := Lib.hid (HBq.out.trans (bc1.mono HBq.out.size)); have HNB := Lib.hid (HQq.out.next bc1); have HBl := HBz; (try (clear yP0 yP1)); (try (clear u0 r0 u1 r1 lq)); (try (have u0 := HNB.out.c0; have r0 := HNB.out.z 0; have u1 := HNB.out.c1; have r1 := HNB.out.z 1; have lq := HNB.out.lt)); have hP_ := HP5.out.next HBc1.out; have yP0 : v1.cell? ⟨w.heap.size + 1, 0, none⟩ = some (.int .i64 x) := hP_.c0; have yP1 : v1.cell? ⟨w.heap.size + 1, 1, none⟩ = some (.int .i64 y) := hP_.c1; have lP := hP_.lt; clear hP_; clear bc1)
      | (go_at_call 11; (with_reducible refine (SP.out _).mono ?_); rintro e v2 ⟨rfl, bc2⟩; have HBc2 := Lib.hid (HBc1.out.trans (bc2.mono HBc1.out.size)); (try (have HNB' := Lib.hid (HNB.out.next bc2); clear HNB; have HNB := HNB')); (try (clear yP0 yP1)); (try (clear u0 r0 u1 r1 lq)); (try (have u0 := HNB.out.c0; have r0 := HNB.out.z 0; have u1 := HNB.out.c1; have r1 := HNB.out.z 1; have lq := HNB.out.lt)); have hP_ := HP5.out.next HBc2.out; have yP0 : v2.cell? ⟨w.heap.size + 1, 0, none⟩ = some (.int .i64 x) := hP_.c0; have yP1 : v2.cell? ⟨w.heap.size + 1, 1, none⟩ = some (.int .i64 y) := hP_.c1; have lP := hP_.lt; clear hP_; clear bc2)
      | (go_at_call 11; (with_reducible refine (SP.out _).mono ?_); rintro e v2 ⟨rfl, bc2⟩; have HBq := Lib.hid (HBc1.out.alloc HBc1.out.size (.cells #[.int .i64 0, .int .i64 0] 25)); have hq' := PBox.new v1 0 0; have HQq : Hid (PBox v1.heap.size 0 0 ((v1.alloc (.cells #[.int .i64 0, .int .i64 0] 25)))) := Lib.hid hq'; clear hq'; have HBc2 := Lib.hid (HBq.out.trans (bc2.mono HBq.out.size)); have HNB := Lib.hid (HQq.out.next bc2); have HBl := HBc1; (try (clear yP0 yP1)); (try (clear u0 r0 u1 r1 lq)); (try (have u0 := HNB.out.c0; have r0 := HNB.out.z 0; have u1 := HNB.out.c1; have r1 := HNB.out.z 1; have lq := HNB.out.lt)); have hP_ := HP5.out.next HBc2.out; have yP0 : v2.cell? ⟨w.heap.size + 1, 0, none⟩ = some (.int .i64 x) := hP_.c0; have yP1 : v2.cell? ⟨w.heap.size + 1, 1, none⟩ = some (.int .i64 y) := hP_.c1; have lP := hP_.lt; clear hP_; clear bc2)
      )
    all_goals
      go_wp2_with fail
      go_meet
      first
      | (with_reducible exact ⟨rfl, _, rfl, PBox.new v2 sx sy, HBc2.out.alloc HBc2.out.size _⟩)
      | (with_reducible exact ⟨rfl, _, rfl, HNB.out.set sx sy, below_pt9 HBc2.out HBl.out.size _ _⟩)
  case rest =>
    obtain ⟨rfl, ks, rfl, hq_, hb_⟩ := hcut
    have HB6 := Lib.hid (HB5.out.trans (hb_.mono HB5.out.size))
    have HM6 := Lib.hid (HM5.out.next hb_)
    have HP6 := Lib.hid (HP5.out.next hb_)
    have HQ6 := Lib.hid (HQ5.out.next hb_)
    have HT6 := Lib.hid (HT5.out.next hb_)
    have HS6 := Lib.hid hq_
    clear hq_ hb_
    generalize wc = w6 at *
    clear HM5 HP5 HQ5 HT5 HB5 SM SP
    have hq := HQ.out
    clear HQ
    by_cases hin : In32 x ∧ In32 y
    · rw [apply_same_in hin.1 hin.2] at hq
      simp only [Prod.mk.injEq] at hq
      obtain ⟨⟨rfl, rfl⟩, rfl⟩ := hq
      rw [decide_eq_true hin.1] at IX
      rw [decide_eq_true hin.2] at IY
      clear hin
      have m_60 : w6.cell? ⟨w.heap.size, 0, none⟩ = some (.int .i64 a) := HM6.out.c0
      have m_61 : w6.cell? ⟨w.heap.size, 1, none⟩ = some (.int .i64 b) := HM6.out.c1
      have m_62 : w6.cell? ⟨w.heap.size, 2, none⟩ = some (.int .i64 c) := HM6.out.c2
      have m_63 : w6.cell? ⟨w.heap.size, 3, none⟩ = some (.int .i64 d) := HM6.out.c3
      have m_64 : w6.cell? ⟨w.heap.size, 4, none⟩ = some (.int .i64 e0) := HM6.out.c4
      have m_65 : w6.cell? ⟨w.heap.size, 5, none⟩ = some (.int .i64 f) := HM6.out.c5
      have p_60 : w6.cell? ⟨w.heap.size + 1, 0, none⟩ = some (.int .i64 x) := HP6.out.c0
      have p_61 : w6.cell? ⟨w.heap.size + 1, 1, none⟩ = some (.int .i64 y) := HP6.out.c1
      have q_60 : w6.cell? ⟨kq, 0, none⟩ = some (.int .i64 qx) := HQ6.out.c0
      have q_61 : w6.cell? ⟨kq, 1, none⟩ = some (.int .i64 qy) := HQ6.out.c1
      have t_60 : w6.cell? ⟨kt, 0, none⟩ = some (.int .i64 qx) := HT6.out.c0
      have t_61 : w6.cell? ⟨kt, 1, none⟩ = some (.int .i64 qy) := HT6.out.c1
      have s_60 : w6.cell? ⟨ks, 0, none⟩ = some (.int .i64 x) := HS6.out.c0
      have s_61 : w6.cell? ⟨ks, 1, none⟩ = some (.int .i64 y) := HS6.out.c1
      have HBe := Lib.hid HB6.out.drew
      have HMe : Hid (MBox w.heap.size ⟨a, b, c, d, e0, f⟩ w6.drew) := Lib.hid HM6.out
      have HPe : Hid (PBox (w.heap.size + 1) x y w6.drew) := Lib.hid HP6.out
      have HQe : Hid (PBox kq qx qy w6.drew) := Lib.hid HQ6.out
      have HTe : Hid (PBox kt qx qy w6.drew) := Lib.hid HT6.out
      have HSe : Hid (PBox ks x y w6.drew) := Lib.hid HS6.out
      go_wp2_with fail
      go_region_held3 (fun w' => w'.cell? ⟨w.heap.size, 0, none⟩ = some (.int .i64 a) ∧ w'.cell? ⟨w.heap.size, 1, none⟩ = some (.int .i64 b) ∧ w'.cell? ⟨w.heap.size, 2, none⟩ = some (.int .i64 c) ∧ w'.cell? ⟨w.heap.size, 3, none⟩ = some (.int .i64 d) ∧ w'.cell? ⟨w.heap.size, 4, none⟩ = some (.int .i64 e0) ∧ w'.cell? ⟨w.heap.size, 5, none⟩ = some (.int .i64 f) ∧ w'.cell? ⟨w.heap.size + 1, 0, none⟩ = some (.int .i64 x) ∧ w'.cell? ⟨w.heap.size + 1, 1, none⟩ = some (.int .i64 y) ∧ w'.cell? ⟨kq, 0, none⟩ = some (.int .i64 qx) ∧ w'.cell? ⟨kq, 1, none⟩ = some (.int .i64 qy) ∧ w'.cell? ⟨kt, 0, none⟩ = some (.int .i64 qx) ∧ w'.cell? ⟨kt, 1, none⟩ = some (.int .i64 qy) ∧ w'.cell? ⟨ks, 0, none⟩ = some (.int .i64 x) ∧ w'.cell? ⟨ks, 1, none⟩ = some (.int .i64 y)) (first | (refine ⟨?_, ?_, ?_, ?_, ?_, ?_, ?_, ?_, ?_, ?_, ?_, ?_, ?_, ?_⟩ <;> with_reducible assumption) | (simp [go_sem, *]; done))
        (first | (go_at_call 14; (with_reducible refine (AR.out _).mono ?_); rintro e w7 ⟨rfl, bf⟩; have HBf := Lib.hid (HBe.out.trans (bf.mono HBe.out.size)); have HMf := Lib.hid (HMe.out.next bf); have HPf := Lib.hid (HPe.out.next bf); have HQf := Lib.hid (HQe.out.next bf); have HTf := Lib.hid (HTe.out.next bf); have HSf := Lib.hid (HSe.out.next bf); have tMf0 : w7.cell? ⟨w.heap.size, 0, none⟩ = some (.int .i64 a) := HMf.out.c0; have tMf1 : w7.cell? ⟨w.heap.size, 1, none⟩ = some (.int .i64 b) := HMf.out.c1; have tMf2 : w7.cell? ⟨w.heap.size, 2, none⟩ = some (.int .i64 c) := HMf.out.c2; have tMf3 : w7.cell? ⟨w.heap.size, 3, none⟩ = some (.int .i64 d) := HMf.out.c3; have tMf4 : w7.cell? ⟨w.heap.size, 4, none⟩ = some (.int .i64 e0) := HMf.out.c4; have tMf5 : w7.cell? ⟨w.heap.size, 5, none⟩ = some (.int .i64 f) := HMf.out.c5; have tPf0 : w7.cell? ⟨w.heap.size + 1, 0, none⟩ = some (.int .i64 x) := HPf.out.c0; have tPf1 : w7.cell? ⟨w.heap.size + 1, 1, none⟩ = some (.int .i64 y) := HPf.out.c1; have tQf0 : w7.cell? ⟨kq, 0, none⟩ = some (.int .i64 qx) := HQf.out.c0; have tQf1 : w7.cell? ⟨kq, 1, none⟩ = some (.int .i64 qy) := HQf.out.c1; have tTf0 : w7.cell? ⟨kt, 0, none⟩ = some (.int .i64 qx) := HTf.out.c0; have tTf1 : w7.cell? ⟨kt, 1, none⟩ = some (.int .i64 qy) := HTf.out.c1; have tSf0 : w7.cell? ⟨ks, 0, none⟩ = some (.int .i64 x) := HSf.out.c0; have tSf1 : w7.cell? ⟨ks, 1, none⟩ = some (.int .i64 y) := HSf.out.c1; clear bf) | (go_at_call 15; (with_reducible refine (RR.out _).mono ?_); rintro e w8 ⟨rfl, bg⟩; have HBg := Lib.hid (HBf.out.trans (bg.mono HBf.out.size)); have HMg := Lib.hid (HMf.out.next bg); have HPg := Lib.hid (HPf.out.next bg); have HQg := Lib.hid (HQf.out.next bg); have HTg := Lib.hid (HTf.out.next bg); have HSg := Lib.hid (HSf.out.next bg); have tMg0 : w8.cell? ⟨w.heap.size, 0, none⟩ = some (.int .i64 a) := HMg.out.c0; have tMg1 : w8.cell? ⟨w.heap.size, 1, none⟩ = some (.int .i64 b) := HMg.out.c1; have tMg2 : w8.cell? ⟨w.heap.size, 2, none⟩ = some (.int .i64 c) := HMg.out.c2; have tMg3 : w8.cell? ⟨w.heap.size, 3, none⟩ = some (.int .i64 d) := HMg.out.c3; have tMg4 : w8.cell? ⟨w.heap.size, 4, none⟩ = some (.int .i64 e0) := HMg.out.c4; have tMg5 : w8.cell? ⟨w.heap.size, 5, none⟩ = some (.int .i64 f) := HMg.out.c5; have tPg0 : w8.cell? ⟨w.heap.size + 1, 0, none⟩ = some (.int .i64 x) := HPg.out.c0; have tPg1 : w8.cell? ⟨w.heap.size + 1, 1, none⟩ = some (.int .i64 y) := HPg.out.c1; have tQg0 : w8.cell? ⟨kq, 0, none⟩ = some (.int .i64 qx) := HQg.out.c0; have tQg1 : w8.cell? ⟨kq, 1, none⟩ = some (.int .i64 qy) := HQg.out.c1; have tTg0 : w8.cell? ⟨kt, 0, none⟩ = some (.int .i64 qx) := HTg.out.c0; have tTg1 : w8.cell? ⟨kt, 1, none⟩ = some (.int .i64 qy) := HTg.out.c1; have tSg0 : w8.cell? ⟨ks, 0, none⟩ = some (.int .i64 x) := HSg.out.c0; have tSg1 : w8.cell? ⟨ks, 1, none⟩ = some (.int .i64 y) := HSg.out.c1; clear bg) | (go_at_call 16; (with_reducible refine (IX.out _).mono ?_); rintro e wi ⟨rfl, rfl⟩) | (go_at_call 16; (with_reducible refine (IY.out _).mono ?_); rintro e wj ⟨rfl, rfl⟩))
      all_goals
        go_wp2_with fail
        go_ret
        exact ⟨rfl, by first | exact HBg.out | exact HBg.out.drew⟩
    · rw [apply_same_out hin] at hq
      simp only [Prod.mk.injEq] at hq
      obtain ⟨⟨rfl, rfl⟩, rfl⟩ := hq
      by_cases hx : In32 x
      · have hy : ¬ In32 y := fun h => hin ⟨hx, h⟩
        rw [decide_eq_true hx] at IX
        rw [decide_eq_false hy] at IY
        clear hin hx hy
        have m_60 : w6.cell? ⟨w.heap.size, 0, none⟩ = some (.int .i64 a) := HM6.out.c0
        have m_61 : w6.cell? ⟨w.heap.size, 1, none⟩ = some (.int .i64 b) := HM6.out.c1
        have m_62 : w6.cell? ⟨w.heap.size, 2, none⟩ = some (.int .i64 c) := HM6.out.c2
        have m_63 : w6.cell? ⟨w.heap.size, 3, none⟩ = some (.int .i64 d) := HM6.out.c3
        have m_64 : w6.cell? ⟨w.heap.size, 4, none⟩ = some (.int .i64 e0) := HM6.out.c4
        have m_65 : w6.cell? ⟨w.heap.size, 5, none⟩ = some (.int .i64 f) := HM6.out.c5
        have p_60 : w6.cell? ⟨w.heap.size + 1, 0, none⟩ = some (.int .i64 x) := HP6.out.c0
        have p_61 : w6.cell? ⟨w.heap.size + 1, 1, none⟩ = some (.int .i64 y) := HP6.out.c1
        have q_60 : w6.cell? ⟨kq, 0, none⟩ = some (.int .i64 qx) := HQ6.out.c0
        have q_61 : w6.cell? ⟨kq, 1, none⟩ = some (.int .i64 qy) := HQ6.out.c1
        have t_60 : w6.cell? ⟨kt, 0, none⟩ = some (.int .i64 qx) := HT6.out.c0
        have t_61 : w6.cell? ⟨kt, 1, none⟩ = some (.int .i64 qy) := HT6.out.c1
        have s_60 : w6.cell? ⟨ks, 0, none⟩ = some (.int .i64 0) := HS6.out.c0
        have s_61 : w6.cell? ⟨ks, 1, none⟩ = some (.int .i64 0) := HS6.out.c1
        have HBe := Lib.hid HB6.out.drew
        have HMe : Hid (MBox w.heap.size ⟨a, b, c, d, e0, f⟩ w6.drew) := Lib.hid HM6.out
        have HPe : Hid (PBox (w.heap.size + 1) x y w6.drew) := Lib.hid HP6.out
        have HQe : Hid (PBox kq qx qy w6.drew) := Lib.hid HQ6.out
        have HTe : Hid (PBox kt qx qy w6.drew) := Lib.hid HT6.out
        have HSe : Hid (PBox ks 0 0 w6.drew) := Lib.hid HS6.out
        go_wp2_with fail
        refine wp_region_held_drew (S := (fun w' => w'.cell? ⟨w.heap.size, 0, none⟩ = some (.int .i64 a) ∧ w'.cell? ⟨w.heap.size, 1, none⟩ = some (.int .i64 b) ∧ w'.cell? ⟨w.heap.size, 2, none⟩ = some (.int .i64 c) ∧ w'.cell? ⟨w.heap.size, 3, none⟩ = some (.int .i64 d) ∧ w'.cell? ⟨w.heap.size, 4, none⟩ = some (.int .i64 e0) ∧ w'.cell? ⟨w.heap.size, 5, none⟩ = some (.int .i64 f) ∧ w'.cell? ⟨w.heap.size + 1, 0, none⟩ = some (.int .i64 x) ∧ w'.cell? ⟨w.heap.size + 1, 1, none⟩ = some (.int .i64 y) ∧ w'.cell? ⟨kq, 0, none⟩ = some (.int .i64 qx) ∧ w'.cell? ⟨kq, 1, none⟩ = some (.int .i64 qy) ∧ w'.cell? ⟨kt, 0, none⟩ = some (.int .i64 qx) ∧ w'.cell? ⟨kt, 1, none⟩ = some (.int .i64 qy) ∧ w'.cell? ⟨ks, 0, none⟩ = some (.int .i64 0) ∧ w'.cell? ⟨ks, 1, none⟩ = some (.int .i64 0))) (by kernel_rfl) ?_ (fun hHeld => ?_)
        · (try dsimp only)
          (first | (refine ⟨?_, ?_, ?_, ?_, ?_, ?_, ?_, ?_, ?_, ?_, ?_, ?_, ?_, ?_⟩ <;> with_reducible assumption) | (simp [go_sem, *]; done))
        refine wpAnyH_take (i := 0) (oi := { dst := some 31, op := Op.load 25 (Operand.tmp 5), type := 25, pos := "law.go:24", after := #[], guard := none }) (v := ?_) rfl (by kernel_rfl) (by kernel_rfl) (by kernel_rfl) (fun _ _ _ h => h) (Or.inl ⟨by rfl, ?_⟩) (by assumption) ?_
        rotate_left
        · (intro w hSw; (try dsimp only at hSw); go_simp; (first | done | with_reducible rfl))
        (try simp only [Act.put, List.setIfInBounds_toArray, List.set_cons_zero, List.set_cons_succ])
        refine wpAnyH_take (i := 1) (oi := { dst := some 32, op := Op.load 25 (Operand.tmp 7), type := 25, pos := "law.go:24", after := #[], guard := none }) (v := ?_) rfl (by kernel_rfl) (by kernel_rfl) (by kernel_rfl) (fun _ _ _ h => h) (Or.inl ⟨by rfl, ?_⟩) (by assumption) ?_
        rotate_left
        · (intro w hSw; (try dsimp only at hSw); go_simp; (first | done | with_reducible rfl))
        (try simp only [Act.put, List.setIfInBounds_toArray, List.set_cons_zero, List.set_cons_succ])
        refine wpAnyH_take (i := 2) (oi := { dst := some 33, op := Op.binOp BinOp.eql 25 (Operand.tmp 31) (Operand.tmp 32) 25, type := 4, pos := "law.go:24", after := #[{ on := 0, ground := Ground.data }, { on := 1, ground := Ground.data }], guard := none }) (v := ?_) rfl (by kernel_rfl) (by kernel_rfl) (by kernel_rfl) (fun _ _ _ h => h) (Or.inl ⟨by rfl, ?_⟩) (by assumption) ?_
        rotate_left
        · (intro w hSw; (try dsimp only at hSw); go_simp; (first | done | with_reducible rfl))
        (try simp only [Act.put, List.setIfInBounds_toArray, List.set_cons_zero, List.set_cons_succ])
        refine wpAnyH_take (i := 3) (oi := { dst := some 34, op := Op.move (Operand.tmp 33), type := 4, pos := "law.go:24", after := #[{ on := 2, ground := Ground.data }], guard := none }) (v := ?_) rfl (by kernel_rfl) (by kernel_rfl) (by kernel_rfl) (fun _ _ _ h => h) (Or.inl ⟨by rfl, ?_⟩) (by assumption) ?_
        rotate_left
        · (intro w hSw; (try dsimp only at hSw); go_simp; (first | done | with_reducible rfl))
        (try simp only [Act.put, List.setIfInBounds_toArray, List.set_cons_zero, List.set_cons_succ])
        refine wpAnyH_take (i := 4) (oi := { dst := some 35, op := Op.move (Operand.tmp 6), type := 27, pos := "law.go:24", after := #[{ on := 3, ground := Ground.guard }], guard := some (3, true) }) (v := ?_) rfl (by kernel_rfl) (by kernel_rfl) (by kernel_rfl) (fun _ _ _ h => h) (Or.inl ⟨by rfl, ?_⟩) (by assumption) ?_
        rotate_left
        · (intro w hSw; (try dsimp only at hSw); go_simp; (first | done | with_reducible rfl))
        (try simp only [Act.put, List.setIfInBounds_toArray, List.set_cons_zero, List.set_cons_succ])
        refine wpAnyH_take (i := 5) (oi := { dst := some 36, op := Op.move (Operand.tmp 8), type := 3, pos := "law.go:24", after := #[{ on := 3, ground := Ground.guard }], guard := some (3, true) }) (v := ?_) rfl (by kernel_rfl) (by kernel_rfl) (by kernel_rfl) (fun _ _ _ h => h) (Or.inl ⟨by rfl, ?_⟩) (by assumption) ?_
        rotate_left
        · (intro w hSw; (try dsimp only at hSw); go_simp; (first | done | with_reducible rfl))
        (try simp only [Act.put, List.setIfInBounds_toArray, List.set_cons_zero, List.set_cons_succ])
        refine wpAnyH_take (i := 6) (oi := { dst := some 37, op := Op.binOp BinOp.eql 3 (Operand.tmp 35) (Operand.tmp 36) 3, type := 4, pos := "law.go:24", after := #[{ on := 4, ground := Ground.data }, { on := 5, ground := Ground.data }, { on := 3, ground := Ground.guard }], guard := some (3, true) }) (v := ?_) rfl (by kernel_rfl) (by kernel_rfl) (by kernel_rfl) (fun _ _ _ h => h) (Or.inl ⟨by rfl, ?_⟩) (by assumption) ?_
        rotate_left
        · (intro w hSw; (try dsimp only at hSw); go_simp; (first | done | with_reducible rfl))
        (try simp only [Act.put, List.setIfInBounds_toArray, List.set_cons_zero, List.set_cons_succ])
        refine wpAnyH_take (i := 7) (oi := { dst := some 38, op := Op.pick (Operand.tmp 34) (Operand.tmp 37) (Operand.const (Value.bool false)), type := 4, pos := "law.go:24", after := #[{ on := 3, ground := Ground.data }, { on := 6, ground := Ground.data }], guard := none }) (v := ?_) rfl (by kernel_rfl) (by kernel_rfl) (by kernel_rfl) (fun _ _ _ h => h) (Or.inl ⟨by rfl, ?_⟩) (by assumption) ?_
        rotate_left
        · (intro w hSw; (try dsimp only at hSw); go_simp; (first | done | with_reducible rfl))
        (try simp only [Act.put, List.setIfInBounds_toArray, List.set_cons_zero, List.set_cons_succ])
        refine wpAnyH_take (i := 8) (oi := { dst := some 39, op := Op.move (Operand.tmp 38), type := 4, pos := "law.go:24", after := #[{ on := 7, ground := Ground.data }, { on := 3, ground := Ground.chain }], guard := none }) (v := ?_) rfl (by kernel_rfl) (by kernel_rfl) (by kernel_rfl) (fun _ _ _ h => h) (Or.inl ⟨by rfl, ?_⟩) (by assumption) ?_
        rotate_left
        · (intro w hSw; (try dsimp only at hSw); go_simp; (first | done | with_reducible rfl))
        (try simp only [Act.put, List.setIfInBounds_toArray, List.set_cons_zero, List.set_cons_succ])
        refine wpAnyH_take (i := 9) (oi := { dst := some 40, op := Op.load 23 (Operand.tmp 2), type := 23, pos := "law.go:24", after := #[{ on := 8, ground := Ground.guard }], guard := some (8, true) }) (v := ?_) rfl (by kernel_rfl) (by kernel_rfl) (by kernel_rfl) (fun _ _ _ h => h) (Or.inl ⟨by rfl, ?_⟩) (by assumption) ?_
        rotate_left
        · (intro w hSw; (try dsimp only at hSw); go_simp; (first | done | with_reducible rfl))
        (try simp only [Act.put, List.setIfInBounds_toArray, List.set_cons_zero, List.set_cons_succ])
        refine wpAnyH_take (i := 11) (oi := { dst := some 42, op := Op.load 23 (Operand.tmp 2), type := 23, pos := "law.go:24", after := #[{ on := 8, ground := Ground.guard }], guard := some (8, true) }) (v := ?_) rfl (by kernel_rfl) (by kernel_rfl) (by kernel_rfl) (fun _ _ _ h => h) (Or.inl ⟨by rfl, ?_⟩) (by assumption) ?_
        rotate_left
        · (intro w hSw; (try dsimp only at hSw); go_simp; (first | done | with_reducible rfl))
        (try simp only [Act.put, List.setIfInBounds_toArray, List.set_cons_zero, List.set_cons_succ])
        refine wpAnyH_ready (rs := [10]) (by kernel_rfl) (by simp) ?_
        refine AllReadyH.cons (o := { dst := some 41, op := Op.call { callee := Callee.value (Operand.func 14), args := #[Operand.tmp 40], argTypes := #[23] }, type := 4, pos := "law.go:24", after := #[{ on := 9, ground := Ground.data }, { on := 8, ground := Ground.chain }, { on := 8, ground := Ground.guard }], guard := some (8, true) }) rfl (fun K hK => ?_) AllReadyH.nil
        go_simp
        (go_at_call 14; (with_reducible refine (AR.out _).mono ?_); rintro e w7 ⟨rfl, bf⟩; have HBf := Lib.hid (HBe.out.trans (bf.mono HBe.out.size)); have HMf := Lib.hid (HMe.out.next bf); have HPf := Lib.hid (HPe.out.next bf); have HQf := Lib.hid (HQe.out.next bf); have HTf := Lib.hid (HTe.out.next bf); have HSf := Lib.hid (HSe.out.next bf); have tMf0 : w7.cell? ⟨w.heap.size, 0, none⟩ = some (.int .i64 a) := HMf.out.c0; have tMf1 : w7.cell? ⟨w.heap.size, 1, none⟩ = some (.int .i64 b) := HMf.out.c1; have tMf2 : w7.cell? ⟨w.heap.size, 2, none⟩ = some (.int .i64 c) := HMf.out.c2; have tMf3 : w7.cell? ⟨w.heap.size, 3, none⟩ = some (.int .i64 d) := HMf.out.c3; have tMf4 : w7.cell? ⟨w.heap.size, 4, none⟩ = some (.int .i64 e0) := HMf.out.c4; have tMf5 : w7.cell? ⟨w.heap.size, 5, none⟩ = some (.int .i64 f) := HMf.out.c5; have tPf0 : w7.cell? ⟨w.heap.size + 1, 0, none⟩ = some (.int .i64 x) := HPf.out.c0; have tPf1 : w7.cell? ⟨w.heap.size + 1, 1, none⟩ = some (.int .i64 y) := HPf.out.c1; have tQf0 : w7.cell? ⟨kq, 0, none⟩ = some (.int .i64 qx) := HQf.out.c0; have tQf1 : w7.cell? ⟨kq, 1, none⟩ = some (.int .i64 qy) := HQf.out.c1; have tTf0 : w7.cell? ⟨kt, 0, none⟩ = some (.int .i64 qx) := HTf.out.c0; have tTf1 : w7.cell? ⟨kt, 1, none⟩ = some (.int .i64 qy) := HTf.out.c1; have tSf0 : w7.cell? ⟨ks, 0, none⟩ = some (.int .i64 0) := HSf.out.c0; have tSf1 : w7.cell? ⟨ks, 1, none⟩ = some (.int .i64 0) := HSf.out.c1; clear bf)
        refine hK.out _ _ ?_ (fun hHeld => ?_)
        · (try dsimp only)
          (first | (refine ⟨?_, ?_, ?_, ?_, ?_, ?_, ?_, ?_, ?_, ?_, ?_, ?_, ?_, ?_⟩ <;> with_reducible assumption) | (simp [go_sem, *]; done))
        clear hK K
        (try simp only [Act.put, List.setIfInBounds_toArray, List.set_cons_zero, List.set_cons_succ])
        refine wpAnyH_ready (rs := [12]) (by kernel_rfl) (by simp) ?_
        refine AllReadyH.cons (o := { dst := some 43, op := Op.call { callee := Callee.value (Operand.func 15), args := #[Operand.tmp 42], argTypes := #[23] }, type := 4, pos := "law.go:24", after := #[{ on := 11, ground := Ground.data }, { on := 10, ground := Ground.chain }, { on := 8, ground := Ground.guard }], guard := some (8, true) }) rfl (fun K hK => ?_) AllReadyH.nil
        go_simp
        (go_at_call 15; (with_reducible refine (RR.out _).mono ?_); rintro e w8 ⟨rfl, bg⟩; have HBg := Lib.hid (HBf.out.trans (bg.mono HBf.out.size)); have HMg := Lib.hid (HMf.out.next bg); have HPg := Lib.hid (HPf.out.next bg); have HQg := Lib.hid (HQf.out.next bg); have HTg := Lib.hid (HTf.out.next bg); have HSg := Lib.hid (HSf.out.next bg); have tMg0 : w8.cell? ⟨w.heap.size, 0, none⟩ = some (.int .i64 a) := HMg.out.c0; have tMg1 : w8.cell? ⟨w.heap.size, 1, none⟩ = some (.int .i64 b) := HMg.out.c1; have tMg2 : w8.cell? ⟨w.heap.size, 2, none⟩ = some (.int .i64 c) := HMg.out.c2; have tMg3 : w8.cell? ⟨w.heap.size, 3, none⟩ = some (.int .i64 d) := HMg.out.c3; have tMg4 : w8.cell? ⟨w.heap.size, 4, none⟩ = some (.int .i64 e0) := HMg.out.c4; have tMg5 : w8.cell? ⟨w.heap.size, 5, none⟩ = some (.int .i64 f) := HMg.out.c5; have tPg0 : w8.cell? ⟨w.heap.size + 1, 0, none⟩ = some (.int .i64 x) := HPg.out.c0; have tPg1 : w8.cell? ⟨w.heap.size + 1, 1, none⟩ = some (.int .i64 y) := HPg.out.c1; have tQg0 : w8.cell? ⟨kq, 0, none⟩ = some (.int .i64 qx) := HQg.out.c0; have tQg1 : w8.cell? ⟨kq, 1, none⟩ = some (.int .i64 qy) := HQg.out.c1; have tTg0 : w8.cell? ⟨kt, 0, none⟩ = some (.int .i64 qx) := HTg.out.c0; have tTg1 : w8.cell? ⟨kt, 1, none⟩ = some (.int .i64 qy) := HTg.out.c1; have tSg0 : w8.cell? ⟨ks, 0, none⟩ = some (.int .i64 0) := HSg.out.c0; have tSg1 : w8.cell? ⟨ks, 1, none⟩ = some (.int .i64 0) := HSg.out.c1; clear bg)
        refine hK.out _ _ ?_ (fun hHeld => ?_)
        · (try dsimp only)
          (first | (refine ⟨?_, ?_, ?_, ?_, ?_, ?_, ?_, ?_, ?_, ?_, ?_, ?_, ?_, ?_⟩ <;> with_reducible assumption) | (simp [go_sem, *]; done))
        clear hK K
        (try simp only [Act.put, List.setIfInBounds_toArray, List.set_cons_zero, List.set_cons_succ])
        refine wpAnyH_take (i := 13) (oi := { dst := some 44, op := Op.binOp BinOp.eql 4 (Operand.tmp 41) (Operand.tmp 43) 4, type := 4, pos := "law.go:24", after := #[{ on := 10, ground := Ground.data }, { on := 12, ground := Ground.data }, { on := 8, ground := Ground.guard }], guard := some (8, true) }) (v := ?_) rfl (by kernel_rfl) (by kernel_rfl) (by kernel_rfl) (fun _ _ _ h => h) (Or.inl ⟨by rfl, ?_⟩) (by assumption) ?_
        rotate_left
        · (intro w hSw; (try dsimp only at hSw); go_simp; (first | done | with_reducible rfl))
        (try simp only [Act.put, List.setIfInBounds_toArray, List.set_cons_zero, List.set_cons_succ])
        refine wpAnyH_take (i := 14) (oi := { dst := some 45, op := Op.pick (Operand.tmp 39) (Operand.tmp 44) (Operand.const (Value.bool false)), type := 4, pos := "law.go:24", after := #[{ on := 8, ground := Ground.data }, { on := 13, ground := Ground.data }], guard := none }) (v := ?_) rfl (by kernel_rfl) (by kernel_rfl) (by kernel_rfl) (fun _ _ _ h => h) (Or.inl ⟨by rfl, ?_⟩) (by assumption) ?_
        rotate_left
        · (intro w hSw; (try dsimp only at hSw); go_simp; (first | done | with_reducible rfl))
        (try simp only [Act.put, List.setIfInBounds_toArray, List.set_cons_zero, List.set_cons_succ])
        refine wpAnyH_take (i := 15) (oi := { dst := some 46, op := Op.move (Operand.tmp 45), type := 4, pos := "law.go:24", after := #[{ on := 14, ground := Ground.data }, { on := 12, ground := Ground.chain }], guard := none }) (v := ?_) rfl (by kernel_rfl) (by kernel_rfl) (by kernel_rfl) (fun _ _ _ h => h) (Or.inl ⟨by rfl, ?_⟩) (by assumption) ?_
        rotate_left
        · (intro w hSw; (try dsimp only at hSw); go_simp; (first | done | with_reducible rfl))
        (try simp only [Act.put, List.setIfInBounds_toArray, List.set_cons_zero, List.set_cons_succ])
        refine wpAnyH_take (i := 16) (oi := { dst := some 47, op := Op.move (Operand.tmp 10), type := 27, pos := "law.go:24", after := #[{ on := 15, ground := Ground.guard }], guard := some (15, true) }) (v := ?_) rfl (by kernel_rfl) (by kernel_rfl) (by kernel_rfl) (fun _ _ _ h => h) (Or.inl ⟨by rfl, ?_⟩) (by assumption) ?_
        rotate_left
        · (intro w hSw; (try dsimp only at hSw); go_simp; (first | done | with_reducible rfl))
        (try simp only [Act.put, List.setIfInBounds_toArray, List.set_cons_zero, List.set_cons_succ])
        refine wpAnyH_take (i := 17) (oi := { dst := some 48, op := Op.binOp BinOp.neq 27 (Operand.tmp 47) (Operand.const (Value.int IntKind.i64 0)) 27, type := 4, pos := "law.go:24", after := #[{ on := 16, ground := Ground.data }, { on := 15, ground := Ground.guard }], guard := some (15, true) }) (v := ?_) rfl (by kernel_rfl) (by kernel_rfl) (by kernel_rfl) (fun _ _ _ h => h) (Or.inl ⟨by rfl, ?_⟩) (by assumption) ?_
        rotate_left
        · (intro w hSw; (try dsimp only at hSw); go_simp; (first | done | with_reducible rfl))
        (try simp only [Act.put, List.setIfInBounds_toArray, List.set_cons_zero, List.set_cons_succ])
        refine wpAnyH_take (i := 18) (oi := { dst := some 49, op := Op.move (Operand.tmp 48), type := 4, pos := "law.go:24", after := #[{ on := 17, ground := Ground.data }, { on := 15, ground := Ground.chain }, { on := 15, ground := Ground.guard }], guard := some (15, true) }) (v := ?_) rfl (by kernel_rfl) (by kernel_rfl) (by kernel_rfl) (fun _ _ _ h => h) (Or.inl ⟨by rfl, ?_⟩) (by assumption) ?_
        rotate_left
        · (intro w hSw; (try dsimp only at hSw); go_simp; (first | done | with_reducible rfl))
        (try simp only [Act.put, List.setIfInBounds_toArray, List.set_cons_zero, List.set_cons_succ])
        refine wpAnyH_take (i := 19) (oi := { dst := some 50, op := Op.load 25 (Operand.tmp 9), type := 25, pos := "law.go:24", after := #[{ on := 18, ground := Ground.guard }], guard := some (18, false) }) (v := undef) rfl (by kernel_rfl) (by kernel_rfl) (by kernel_rfl) (fun _ _ _ h => h) (Or.inr ⟨by rfl, rfl⟩) (by assumption) ?_
        (try simp only [Act.put, List.setIfInBounds_toArray, List.set_cons_zero, List.set_cons_succ])
        refine wpAnyH_take (i := 20) (oi := { dst := some 51, op := Op.load 25 (Operand.tmp 3), type := 25, pos := "law.go:24", after := #[{ on := 18, ground := Ground.guard }], guard := some (18, false) }) (v := undef) rfl (by kernel_rfl) (by kernel_rfl) (by kernel_rfl) (fun _ _ _ h => h) (Or.inr ⟨by rfl, rfl⟩) (by assumption) ?_
        (try simp only [Act.put, List.setIfInBounds_toArray, List.set_cons_zero, List.set_cons_succ])
        refine wpAnyH_take (i := 21) (oi := { dst := some 52, op := Op.binOp BinOp.eql 25 (Operand.tmp 50) (Operand.tmp 51) 25, type := 4, pos := "law.go:24", after := #[{ on := 19, ground := Ground.data }, { on := 20, ground := Ground.data }, { on := 18, ground := Ground.guard }], guard := some (18, false) }) (v := undef) rfl (by kernel_rfl) (by kernel_rfl) (by kernel_rfl) (fun _ _ _ h => h) (Or.inr ⟨by rfl, rfl⟩) (by assumption) ?_
        (try simp only [Act.put, List.setIfInBounds_toArray, List.set_cons_zero, List.set_cons_succ])
        refine wpAnyH_take (i := 22) (oi := { dst := some 53, op := Op.pick (Operand.tmp 49) (Operand.const (Value.bool true)) (Operand.tmp 52), type := 4, pos := "law.go:24", after := #[{ on := 18, ground := Ground.data }, { on := 21, ground := Ground.data }, { on := 15, ground := Ground.guard }], guard := some (15, true) }) (v := ?_) rfl (by kernel_rfl) (by kernel_rfl) (by kernel_rfl) (fun _ _ _ h => h) (Or.inl ⟨by rfl, ?_⟩) (by assumption) ?_
        rotate_left
        · (intro w hSw; (try dsimp only at hSw); go_simp; (first | done | with_reducible rfl))
        (try simp only [Act.put, List.setIfInBounds_toArray, List.set_cons_zero, List.set_cons_succ])
        refine wpAnyH_take (i := 23) (oi := { dst := some 54, op := Op.pick (Operand.tmp 46) (Operand.tmp 53) (Operand.const (Value.bool false)), type := 4, pos := "law.go:24", after := #[{ on := 15, ground := Ground.data }, { on := 22, ground := Ground.data }], guard := none }) (v := ?_) rfl (by kernel_rfl) (by kernel_rfl) (by kernel_rfl) (fun _ _ _ h => h) (Or.inl ⟨by rfl, ?_⟩) (by assumption) ?_
        rotate_left
        · (intro w hSw; (try dsimp only at hSw); go_simp; (first | done | with_reducible rfl))
        (try simp only [Act.put, List.setIfInBounds_toArray, List.set_cons_zero, List.set_cons_succ])
        refine wpAnyH_take (i := 24) (oi := { dst := some 55, op := Op.move (Operand.tmp 54), type := 4, pos := "law.go:24", after := #[{ on := 23, ground := Ground.data }, { on := 18, ground := Ground.chain }], guard := none }) (v := ?_) rfl (by kernel_rfl) (by kernel_rfl) (by kernel_rfl) (fun _ _ _ h => h) (Or.inl ⟨by rfl, ?_⟩) (by assumption) ?_
        rotate_left
        · (intro w hSw; (try dsimp only at hSw); go_simp; (first | done | with_reducible rfl))
        (try simp only [Act.put, List.setIfInBounds_toArray, List.set_cons_zero, List.set_cons_succ])
        refine wpAnyH_take (i := 25) (oi := { dst := some 56, op := Op.move (Operand.tmp 10), type := 27, pos := "law.go:24", after := #[{ on := 24, ground := Ground.guard }], guard := some (24, true) }) (v := ?_) rfl (by kernel_rfl) (by kernel_rfl) (by kernel_rfl) (fun _ _ _ h => h) (Or.inl ⟨by rfl, ?_⟩) (by assumption) ?_
        rotate_left
        · (intro w hSw; (try dsimp only at hSw); go_simp; (first | done | with_reducible rfl))
        (try simp only [Act.put, List.setIfInBounds_toArray, List.set_cons_zero, List.set_cons_succ])
        refine wpAnyH_take (i := 26) (oi := { dst := some 57, op := Op.binOp BinOp.eql 27 (Operand.tmp 56) (Operand.const (Value.int IntKind.i64 0)) 27, type := 4, pos := "law.go:24", after := #[{ on := 25, ground := Ground.data }, { on := 24, ground := Ground.guard }], guard := some (24, true) }) (v := ?_) rfl (by kernel_rfl) (by kernel_rfl) (by kernel_rfl) (fun _ _ _ h => h) (Or.inl ⟨by rfl, ?_⟩) (by assumption) ?_
        rotate_left
        · (intro w hSw; (try dsimp only at hSw); go_simp; (first | done | with_reducible rfl))
        (try simp only [Act.put, List.setIfInBounds_toArray, List.set_cons_zero, List.set_cons_succ])
        refine wpAnyH_take (i := 27) (oi := { dst := some 58, op := Op.fieldAddr 25 (Operand.tmp 3) 0, type := 0, pos := "law.go:24", after := #[{ on := 24, ground := Ground.guard }], guard := some (24, true) }) (v := ?_) rfl (by kernel_rfl) (by kernel_rfl) (by kernel_rfl) (fun _ _ _ h => h) (Or.inl ⟨by rfl, ?_⟩) (by assumption) ?_
        rotate_left
        · (intro w hSw; (try dsimp only at hSw); go_simp; (first | done | with_reducible rfl))
        (try simp only [Act.put, List.setIfInBounds_toArray, List.set_cons_zero, List.set_cons_succ])
        refine wpAnyH_take (i := 28) (oi := { dst := some 59, op := Op.load 2 (Operand.tmp 58), type := 2, pos := "law.go:24", after := #[{ on := 27, ground := Ground.data }, { on := 24, ground := Ground.guard }], guard := some (24, true) }) (v := ?_) rfl (by kernel_rfl) (by kernel_rfl) (by kernel_rfl) (fun _ _ _ h => h) (Or.inl ⟨by rfl, ?_⟩) (by assumption) ?_
        rotate_left
        · (intro w hSw; (try dsimp only at hSw); go_simp; (first | done | with_reducible rfl))
        (try simp only [Act.put, List.setIfInBounds_toArray, List.set_cons_zero, List.set_cons_succ])
        refine wpAnyH_ready (rs := [29]) (by kernel_rfl) (by simp) ?_
        refine AllReadyH.cons (o := { dst := some 60, op := Op.call { callee := Callee.value (Operand.func 16), args := #[Operand.tmp 59], argTypes := #[2] }, type := 4, pos := "law.go:24", after := #[{ on := 28, ground := Ground.data }, { on := 24, ground := Ground.chain }, { on := 24, ground := Ground.guard }], guard := some (24, true) }) rfl (fun K hK => ?_) AllReadyH.nil
        go_simp
        (go_at_call 16; (with_reducible refine (IX.out _).mono ?_); rintro e wi ⟨rfl, rfl⟩)
        refine hK.out _ _ ?_ (fun hHeld => ?_)
        · (try dsimp only)
          (first | (refine ⟨?_, ?_, ?_, ?_, ?_, ?_, ?_, ?_, ?_, ?_, ?_, ?_, ?_, ?_⟩ <;> with_reducible assumption) | (simp [go_sem, *]; done))
        clear hK K
        (try simp only [Act.put, List.setIfInBounds_toArray, List.set_cons_zero, List.set_cons_succ])
        refine wpAnyH_take (i := 30) (oi := { dst := some 61, op := Op.move (Operand.tmp 60), type := 4, pos := "law.go:24", after := #[{ on := 29, ground := Ground.data }, { on := 29, ground := Ground.chain }, { on := 24, ground := Ground.guard }], guard := some (24, true) }) (v := ?_) rfl (by kernel_rfl) (by kernel_rfl) (by kernel_rfl) (fun _ _ _ h => h) (Or.inl ⟨by rfl, ?_⟩) (by assumption) ?_
        rotate_left
        · (intro w hSw; (try dsimp only at hSw); go_simp; (first | done | with_reducible rfl))
        (try simp only [Act.put, List.setIfInBounds_toArray, List.set_cons_zero, List.set_cons_succ])
        refine wpAnyH_take (i := 31) (oi := { dst := some 62, op := Op.fieldAddr 25 (Operand.tmp 3) 1, type := 0, pos := "law.go:24", after := #[{ on := 30, ground := Ground.guard }], guard := some (30, true) }) (v := ?_) rfl (by kernel_rfl) (by kernel_rfl) (by kernel_rfl) (fun _ _ _ h => h) (Or.inl ⟨by rfl, ?_⟩) (by assumption) ?_
        rotate_left
        · (intro w hSw; (try dsimp only at hSw); go_simp; (first | done | with_reducible rfl))
        (try simp only [Act.put, List.setIfInBounds_toArray, List.set_cons_zero, List.set_cons_succ])
        refine wpAnyH_take (i := 32) (oi := { dst := some 63, op := Op.load 2 (Operand.tmp 62), type := 2, pos := "law.go:24", after := #[{ on := 31, ground := Ground.data }, { on := 30, ground := Ground.guard }], guard := some (30, true) }) (v := ?_) rfl (by kernel_rfl) (by kernel_rfl) (by kernel_rfl) (fun _ _ _ h => h) (Or.inl ⟨by rfl, ?_⟩) (by assumption) ?_
        rotate_left
        · (intro w hSw; (try dsimp only at hSw); go_simp; (first | done | with_reducible rfl))
        (try simp only [Act.put, List.setIfInBounds_toArray, List.set_cons_zero, List.set_cons_succ])
        refine wpAnyH_ready (rs := [33]) (by kernel_rfl) (by simp) ?_
        refine AllReadyH.cons (o := { dst := some 64, op := Op.call { callee := Callee.value (Operand.func 16), args := #[Operand.tmp 63], argTypes := #[2] }, type := 4, pos := "law.go:24", after := #[{ on := 32, ground := Ground.data }, { on := 30, ground := Ground.chain }, { on := 30, ground := Ground.guard }], guard := some (30, true) }) rfl (fun K hK => ?_) AllReadyH.nil
        go_simp
        (go_at_call 16; (with_reducible refine (IY.out _).mono ?_); rintro e wj ⟨rfl, rfl⟩)
        refine hK.out _ _ ?_ (fun hHeld => ?_)
        · (try dsimp only)
          (first | (refine ⟨?_, ?_, ?_, ?_, ?_, ?_, ?_, ?_, ?_, ?_, ?_, ?_, ?_, ?_⟩ <;> with_reducible assumption) | (simp [go_sem, *]; done))
        clear hK K
        (try simp only [Act.put, List.setIfInBounds_toArray, List.set_cons_zero, List.set_cons_succ])
        refine wpAnyH_take (i := 34) (oi := { dst := some 65, op := Op.pick (Operand.tmp 61) (Operand.tmp 64) (Operand.const (Value.bool false)), type := 4, pos := "law.go:24", after := #[{ on := 30, ground := Ground.data }, { on := 33, ground := Ground.data }, { on := 24, ground := Ground.guard }], guard := some (24, true) }) (v := ?_) rfl (by kernel_rfl) (by kernel_rfl) (by kernel_rfl) (fun _ _ _ h => h) (Or.inl ⟨by rfl, ?_⟩) (by assumption) ?_
        rotate_left
        · (intro w hSw; (try dsimp only at hSw); go_simp; (first | done | with_reducible rfl))
        (try simp only [Act.put, List.setIfInBounds_toArray, List.set_cons_zero, List.set_cons_succ])
        refine wpAnyH_take (i := 35) (oi := { dst := some 66, op := Op.binOp BinOp.eql 4 (Operand.tmp 57) (Operand.tmp 65) 4, type := 4, pos := "law.go:24", after := #[{ on := 26, ground := Ground.data }, { on := 34, ground := Ground.data }, { on := 24, ground := Ground.guard }], guard := some (24, true) }) (v := ?_) rfl (by kernel_rfl) (by kernel_rfl) (by kernel_rfl) (fun _ _ _ h => h) (Or.inl ⟨by rfl, ?_⟩) (by assumption) ?_
        rotate_left
        · (intro w hSw; (try dsimp only at hSw); go_simp; (first | done | with_reducible rfl))
        (try simp only [Act.put, List.setIfInBounds_toArray, List.set_cons_zero, List.set_cons_succ])
        refine wpAnyH_take (i := 36) (oi := { dst := some 67, op := Op.pick (Operand.tmp 55) (Operand.tmp 66) (Operand.const (Value.bool false)), type := 4, pos := "law.go:24", after := #[{ on := 24, ground := Ground.data }, { on := 35, ground := Ground.data }], guard := none }) (v := ?_) rfl (by kernel_rfl) (by kernel_rfl) (by kernel_rfl) (fun _ _ _ h => h) (Or.inl ⟨by rfl, ?_⟩) (by assumption) ?_
        rotate_left
        · (intro w hSw; (try dsimp only at hSw); go_simp; (first | done | with_reducible rfl))
        (try simp only [Act.put, List.setIfInBounds_toArray, List.set_cons_zero, List.set_cons_succ])
        refine wpAnyH_take (i := 37) (oi := { dst := some 4, op := Op.assign (Operand.tmp 67), type := 4, pos := "law.go:24", after := #[{ on := 36, ground := Ground.data }, { on := 33, ground := Ground.chain }, { on := 0, ground := Ground.phase }, { on := 1, ground := Ground.phase }, { on := 2, ground := Ground.phase }, { on := 3, ground := Ground.phase }, { on := 4, ground := Ground.phase }, { on := 5, ground := Ground.phase }, { on := 6, ground := Ground.phase }, { on := 7, ground := Ground.phase }, { on := 8, ground := Ground.phase }, { on := 9, ground := Ground.phase }, { on := 10, ground := Ground.phase }, { on := 11, ground := Ground.phase }, { on := 12, ground := Ground.phase }, { on := 13, ground := Ground.phase }, { on := 14, ground := Ground.phase }, { on := 15, ground := Ground.phase }, { on := 16, ground := Ground.phase }, { on := 17, ground := Ground.phase }, { on := 18, ground := Ground.phase }, { on := 19, ground := Ground.phase }, { on := 20, ground := Ground.phase }, { on := 21, ground := Ground.phase }, { on := 22, ground := Ground.phase }, { on := 23, ground := Ground.phase }, { on := 24, ground := Ground.phase }, { on := 25, ground := Ground.phase }, { on := 26, ground := Ground.phase }, { on := 27, ground := Ground.phase }, { on := 28, ground := Ground.phase }, { on := 29, ground := Ground.phase }, { on := 30, ground := Ground.phase }, { on := 31, ground := Ground.phase }, { on := 32, ground := Ground.phase }, { on := 33, ground := Ground.phase }, { on := 34, ground := Ground.phase }, { on := 35, ground := Ground.phase }, { on := 36, ground := Ground.phase }], guard := none }) (v := ?_) rfl (by kernel_rfl) (by kernel_rfl) (by kernel_rfl) (fun _ _ _ h => h) (Or.inl ⟨by rfl, ?_⟩) (by assumption) ?_
        rotate_left
        · (intro w hSw; (try dsimp only at hSw); go_simp; (first | done | with_reducible rfl))
        (try simp only [Act.put, List.setIfInBounds_toArray, List.set_cons_zero, List.set_cons_succ])
        refine wpAnyH_done (by kernel_rfl) ?_ _
        go_wp2_with fail
        go_ret
        exact ⟨rfl, by first | exact HBg.out | exact HBg.out.drew⟩
      · rw [decide_eq_false hx] at IX
        clear hin hx
        have m_60 : w6.cell? ⟨w.heap.size, 0, none⟩ = some (.int .i64 a) := HM6.out.c0
        have m_61 : w6.cell? ⟨w.heap.size, 1, none⟩ = some (.int .i64 b) := HM6.out.c1
        have m_62 : w6.cell? ⟨w.heap.size, 2, none⟩ = some (.int .i64 c) := HM6.out.c2
        have m_63 : w6.cell? ⟨w.heap.size, 3, none⟩ = some (.int .i64 d) := HM6.out.c3
        have m_64 : w6.cell? ⟨w.heap.size, 4, none⟩ = some (.int .i64 e0) := HM6.out.c4
        have m_65 : w6.cell? ⟨w.heap.size, 5, none⟩ = some (.int .i64 f) := HM6.out.c5
        have p_60 : w6.cell? ⟨w.heap.size + 1, 0, none⟩ = some (.int .i64 x) := HP6.out.c0
        have p_61 : w6.cell? ⟨w.heap.size + 1, 1, none⟩ = some (.int .i64 y) := HP6.out.c1
        have q_60 : w6.cell? ⟨kq, 0, none⟩ = some (.int .i64 qx) := HQ6.out.c0
        have q_61 : w6.cell? ⟨kq, 1, none⟩ = some (.int .i64 qy) := HQ6.out.c1
        have t_60 : w6.cell? ⟨kt, 0, none⟩ = some (.int .i64 qx) := HT6.out.c0
        have t_61 : w6.cell? ⟨kt, 1, none⟩ = some (.int .i64 qy) := HT6.out.c1
        have s_60 : w6.cell? ⟨ks, 0, none⟩ = some (.int .i64 0) := HS6.out.c0
        have s_61 : w6.cell? ⟨ks, 1, none⟩ = some (.int .i64 0) := HS6.out.c1
        have HBe := Lib.hid HB6.out.drew
        have HMe : Hid (MBox w.heap.size ⟨a, b, c, d, e0, f⟩ w6.drew) := Lib.hid HM6.out
        have HPe : Hid (PBox (w.heap.size + 1) x y w6.drew) := Lib.hid HP6.out
        have HQe : Hid (PBox kq qx qy w6.drew) := Lib.hid HQ6.out
        have HTe : Hid (PBox kt qx qy w6.drew) := Lib.hid HT6.out
        have HSe : Hid (PBox ks 0 0 w6.drew) := Lib.hid HS6.out
        go_wp2_with fail
        refine wp_region_held_drew (S := (fun w' => w'.cell? ⟨w.heap.size, 0, none⟩ = some (.int .i64 a) ∧ w'.cell? ⟨w.heap.size, 1, none⟩ = some (.int .i64 b) ∧ w'.cell? ⟨w.heap.size, 2, none⟩ = some (.int .i64 c) ∧ w'.cell? ⟨w.heap.size, 3, none⟩ = some (.int .i64 d) ∧ w'.cell? ⟨w.heap.size, 4, none⟩ = some (.int .i64 e0) ∧ w'.cell? ⟨w.heap.size, 5, none⟩ = some (.int .i64 f) ∧ w'.cell? ⟨w.heap.size + 1, 0, none⟩ = some (.int .i64 x) ∧ w'.cell? ⟨w.heap.size + 1, 1, none⟩ = some (.int .i64 y) ∧ w'.cell? ⟨kq, 0, none⟩ = some (.int .i64 qx) ∧ w'.cell? ⟨kq, 1, none⟩ = some (.int .i64 qy) ∧ w'.cell? ⟨kt, 0, none⟩ = some (.int .i64 qx) ∧ w'.cell? ⟨kt, 1, none⟩ = some (.int .i64 qy) ∧ w'.cell? ⟨ks, 0, none⟩ = some (.int .i64 0) ∧ w'.cell? ⟨ks, 1, none⟩ = some (.int .i64 0))) (by kernel_rfl) ?_ (fun hHeld => ?_)
        · (try dsimp only)
          (first | (refine ⟨?_, ?_, ?_, ?_, ?_, ?_, ?_, ?_, ?_, ?_, ?_, ?_, ?_, ?_⟩ <;> with_reducible assumption) | (simp [go_sem, *]; done))
        refine wpAnyH_take (i := 0) (oi := { dst := some 31, op := Op.load 25 (Operand.tmp 5), type := 25, pos := "law.go:24", after := #[], guard := none }) (v := ?_) rfl (by kernel_rfl) (by kernel_rfl) (by kernel_rfl) (fun _ _ _ h => h) (Or.inl ⟨by rfl, ?_⟩) (by assumption) ?_
        rotate_left
        · (intro w hSw; (try dsimp only at hSw); go_simp; (first | done | with_reducible rfl))
        (try simp only [Act.put, List.setIfInBounds_toArray, List.set_cons_zero, List.set_cons_succ])
        refine wpAnyH_take (i := 1) (oi := { dst := some 32, op := Op.load 25 (Operand.tmp 7), type := 25, pos := "law.go:24", after := #[], guard := none }) (v := ?_) rfl (by kernel_rfl) (by kernel_rfl) (by kernel_rfl) (fun _ _ _ h => h) (Or.inl ⟨by rfl, ?_⟩) (by assumption) ?_
        rotate_left
        · (intro w hSw; (try dsimp only at hSw); go_simp; (first | done | with_reducible rfl))
        (try simp only [Act.put, List.setIfInBounds_toArray, List.set_cons_zero, List.set_cons_succ])
        refine wpAnyH_take (i := 2) (oi := { dst := some 33, op := Op.binOp BinOp.eql 25 (Operand.tmp 31) (Operand.tmp 32) 25, type := 4, pos := "law.go:24", after := #[{ on := 0, ground := Ground.data }, { on := 1, ground := Ground.data }], guard := none }) (v := ?_) rfl (by kernel_rfl) (by kernel_rfl) (by kernel_rfl) (fun _ _ _ h => h) (Or.inl ⟨by rfl, ?_⟩) (by assumption) ?_
        rotate_left
        · (intro w hSw; (try dsimp only at hSw); go_simp; (first | done | with_reducible rfl))
        (try simp only [Act.put, List.setIfInBounds_toArray, List.set_cons_zero, List.set_cons_succ])
        refine wpAnyH_take (i := 3) (oi := { dst := some 34, op := Op.move (Operand.tmp 33), type := 4, pos := "law.go:24", after := #[{ on := 2, ground := Ground.data }], guard := none }) (v := ?_) rfl (by kernel_rfl) (by kernel_rfl) (by kernel_rfl) (fun _ _ _ h => h) (Or.inl ⟨by rfl, ?_⟩) (by assumption) ?_
        rotate_left
        · (intro w hSw; (try dsimp only at hSw); go_simp; (first | done | with_reducible rfl))
        (try simp only [Act.put, List.setIfInBounds_toArray, List.set_cons_zero, List.set_cons_succ])
        refine wpAnyH_take (i := 4) (oi := { dst := some 35, op := Op.move (Operand.tmp 6), type := 27, pos := "law.go:24", after := #[{ on := 3, ground := Ground.guard }], guard := some (3, true) }) (v := ?_) rfl (by kernel_rfl) (by kernel_rfl) (by kernel_rfl) (fun _ _ _ h => h) (Or.inl ⟨by rfl, ?_⟩) (by assumption) ?_
        rotate_left
        · (intro w hSw; (try dsimp only at hSw); go_simp; (first | done | with_reducible rfl))
        (try simp only [Act.put, List.setIfInBounds_toArray, List.set_cons_zero, List.set_cons_succ])
        refine wpAnyH_take (i := 5) (oi := { dst := some 36, op := Op.move (Operand.tmp 8), type := 3, pos := "law.go:24", after := #[{ on := 3, ground := Ground.guard }], guard := some (3, true) }) (v := ?_) rfl (by kernel_rfl) (by kernel_rfl) (by kernel_rfl) (fun _ _ _ h => h) (Or.inl ⟨by rfl, ?_⟩) (by assumption) ?_
        rotate_left
        · (intro w hSw; (try dsimp only at hSw); go_simp; (first | done | with_reducible rfl))
        (try simp only [Act.put, List.setIfInBounds_toArray, List.set_cons_zero, List.set_cons_succ])
        refine wpAnyH_take (i := 6) (oi := { dst := some 37, op := Op.binOp BinOp.eql 3 (Operand.tmp 35) (Operand.tmp 36) 3, type := 4, pos := "law.go:24", after := #[{ on := 4, ground := Ground.data }, { on := 5, ground := Ground.data }, { on := 3, ground := Ground.guard }], guard := some (3, true) }) (v := ?_) rfl (by kernel_rfl) (by kernel_rfl) (by kernel_rfl) (fun _ _ _ h => h) (Or.inl ⟨by rfl, ?_⟩) (by assumption) ?_
        rotate_left
        · (intro w hSw; (try dsimp only at hSw); go_simp; (first | done | with_reducible rfl))
        (try simp only [Act.put, List.setIfInBounds_toArray, List.set_cons_zero, List.set_cons_succ])
        refine wpAnyH_take (i := 7) (oi := { dst := some 38, op := Op.pick (Operand.tmp 34) (Operand.tmp 37) (Operand.const (Value.bool false)), type := 4, pos := "law.go:24", after := #[{ on := 3, ground := Ground.data }, { on := 6, ground := Ground.data }], guard := none }) (v := ?_) rfl (by kernel_rfl) (by kernel_rfl) (by kernel_rfl) (fun _ _ _ h => h) (Or.inl ⟨by rfl, ?_⟩) (by assumption) ?_
        rotate_left
        · (intro w hSw; (try dsimp only at hSw); go_simp; (first | done | with_reducible rfl))
        (try simp only [Act.put, List.setIfInBounds_toArray, List.set_cons_zero, List.set_cons_succ])
        refine wpAnyH_take (i := 8) (oi := { dst := some 39, op := Op.move (Operand.tmp 38), type := 4, pos := "law.go:24", after := #[{ on := 7, ground := Ground.data }, { on := 3, ground := Ground.chain }], guard := none }) (v := ?_) rfl (by kernel_rfl) (by kernel_rfl) (by kernel_rfl) (fun _ _ _ h => h) (Or.inl ⟨by rfl, ?_⟩) (by assumption) ?_
        rotate_left
        · (intro w hSw; (try dsimp only at hSw); go_simp; (first | done | with_reducible rfl))
        (try simp only [Act.put, List.setIfInBounds_toArray, List.set_cons_zero, List.set_cons_succ])
        refine wpAnyH_take (i := 9) (oi := { dst := some 40, op := Op.load 23 (Operand.tmp 2), type := 23, pos := "law.go:24", after := #[{ on := 8, ground := Ground.guard }], guard := some (8, true) }) (v := ?_) rfl (by kernel_rfl) (by kernel_rfl) (by kernel_rfl) (fun _ _ _ h => h) (Or.inl ⟨by rfl, ?_⟩) (by assumption) ?_
        rotate_left
        · (intro w hSw; (try dsimp only at hSw); go_simp; (first | done | with_reducible rfl))
        (try simp only [Act.put, List.setIfInBounds_toArray, List.set_cons_zero, List.set_cons_succ])
        refine wpAnyH_take (i := 11) (oi := { dst := some 42, op := Op.load 23 (Operand.tmp 2), type := 23, pos := "law.go:24", after := #[{ on := 8, ground := Ground.guard }], guard := some (8, true) }) (v := ?_) rfl (by kernel_rfl) (by kernel_rfl) (by kernel_rfl) (fun _ _ _ h => h) (Or.inl ⟨by rfl, ?_⟩) (by assumption) ?_
        rotate_left
        · (intro w hSw; (try dsimp only at hSw); go_simp; (first | done | with_reducible rfl))
        (try simp only [Act.put, List.setIfInBounds_toArray, List.set_cons_zero, List.set_cons_succ])
        refine wpAnyH_ready (rs := [10]) (by kernel_rfl) (by simp) ?_
        refine AllReadyH.cons (o := { dst := some 41, op := Op.call { callee := Callee.value (Operand.func 14), args := #[Operand.tmp 40], argTypes := #[23] }, type := 4, pos := "law.go:24", after := #[{ on := 9, ground := Ground.data }, { on := 8, ground := Ground.chain }, { on := 8, ground := Ground.guard }], guard := some (8, true) }) rfl (fun K hK => ?_) AllReadyH.nil
        go_simp
        (go_at_call 14; (with_reducible refine (AR.out _).mono ?_); rintro e w7 ⟨rfl, bf⟩; have HBf := Lib.hid (HBe.out.trans (bf.mono HBe.out.size)); have HMf := Lib.hid (HMe.out.next bf); have HPf := Lib.hid (HPe.out.next bf); have HQf := Lib.hid (HQe.out.next bf); have HTf := Lib.hid (HTe.out.next bf); have HSf := Lib.hid (HSe.out.next bf); have tMf0 : w7.cell? ⟨w.heap.size, 0, none⟩ = some (.int .i64 a) := HMf.out.c0; have tMf1 : w7.cell? ⟨w.heap.size, 1, none⟩ = some (.int .i64 b) := HMf.out.c1; have tMf2 : w7.cell? ⟨w.heap.size, 2, none⟩ = some (.int .i64 c) := HMf.out.c2; have tMf3 : w7.cell? ⟨w.heap.size, 3, none⟩ = some (.int .i64 d) := HMf.out.c3; have tMf4 : w7.cell? ⟨w.heap.size, 4, none⟩ = some (.int .i64 e0) := HMf.out.c4; have tMf5 : w7.cell? ⟨w.heap.size, 5, none⟩ = some (.int .i64 f) := HMf.out.c5; have tPf0 : w7.cell? ⟨w.heap.size + 1, 0, none⟩ = some (.int .i64 x) := HPf.out.c0; have tPf1 : w7.cell? ⟨w.heap.size + 1, 1, none⟩ = some (.int .i64 y) := HPf.out.c1; have tQf0 : w7.cell? ⟨kq, 0, none⟩ = some (.int .i64 qx) := HQf.out.c0; have tQf1 : w7.cell? ⟨kq, 1, none⟩ = some (.int .i64 qy) := HQf.out.c1; have tTf0 : w7.cell? ⟨kt, 0, none⟩ = some (.int .i64 qx) := HTf.out.c0; have tTf1 : w7.cell? ⟨kt, 1, none⟩ = some (.int .i64 qy) := HTf.out.c1; have tSf0 : w7.cell? ⟨ks, 0, none⟩ = some (.int .i64 0) := HSf.out.c0; have tSf1 : w7.cell? ⟨ks, 1, none⟩ = some (.int .i64 0) := HSf.out.c1; clear bf)
        refine hK.out _ _ ?_ (fun hHeld => ?_)
        · (try dsimp only)
          (first | (refine ⟨?_, ?_, ?_, ?_, ?_, ?_, ?_, ?_, ?_, ?_, ?_, ?_, ?_, ?_⟩ <;> with_reducible assumption) | (simp [go_sem, *]; done))
        clear hK K
        (try simp only [Act.put, List.setIfInBounds_toArray, List.set_cons_zero, List.set_cons_succ])
        refine wpAnyH_ready (rs := [12]) (by kernel_rfl) (by simp) ?_
        refine AllReadyH.cons (o := { dst := some 43, op := Op.call { callee := Callee.value (Operand.func 15), args := #[Operand.tmp 42], argTypes := #[23] }, type := 4, pos := "law.go:24", after := #[{ on := 11, ground := Ground.data }, { on := 10, ground := Ground.chain }, { on := 8, ground := Ground.guard }], guard := some (8, true) }) rfl (fun K hK => ?_) AllReadyH.nil
        go_simp
        (go_at_call 15; (with_reducible refine (RR.out _).mono ?_); rintro e w8 ⟨rfl, bg⟩; have HBg := Lib.hid (HBf.out.trans (bg.mono HBf.out.size)); have HMg := Lib.hid (HMf.out.next bg); have HPg := Lib.hid (HPf.out.next bg); have HQg := Lib.hid (HQf.out.next bg); have HTg := Lib.hid (HTf.out.next bg); have HSg := Lib.hid (HSf.out.next bg); have tMg0 : w8.cell? ⟨w.heap.size, 0, none⟩ = some (.int .i64 a) := HMg.out.c0; have tMg1 : w8.cell? ⟨w.heap.size, 1, none⟩ = some (.int .i64 b) := HMg.out.c1; have tMg2 : w8.cell? ⟨w.heap.size, 2, none⟩ = some (.int .i64 c) := HMg.out.c2; have tMg3 : w8.cell? ⟨w.heap.size, 3, none⟩ = some (.int .i64 d) := HMg.out.c3; have tMg4 : w8.cell? ⟨w.heap.size, 4, none⟩ = some (.int .i64 e0) := HMg.out.c4; have tMg5 : w8.cell? ⟨w.heap.size, 5, none⟩ = some (.int .i64 f) := HMg.out.c5; have tPg0 : w8.cell? ⟨w.heap.size + 1, 0, none⟩ = some (.int .i64 x) := HPg.out.c0; have tPg1 : w8.cell? ⟨w.heap.size + 1, 1, none⟩ = some (.int .i64 y) := HPg.out.c1; have tQg0 : w8.cell? ⟨kq, 0, none⟩ = some (.int .i64 qx) := HQg.out.c0; have tQg1 : w8.cell? ⟨kq, 1, none⟩ = some (.int .i64 qy) := HQg.out.c1; have tTg0 : w8.cell? ⟨kt, 0, none⟩ = some (.int .i64 qx) := HTg.out.c0; have tTg1 : w8.cell? ⟨kt, 1, none⟩ = some (.int .i64 qy) := HTg.out.c1; have tSg0 : w8.cell? ⟨ks, 0, none⟩ = some (.int .i64 0) := HSg.out.c0; have tSg1 : w8.cell? ⟨ks, 1, none⟩ = some (.int .i64 0) := HSg.out.c1; clear bg)
        refine hK.out _ _ ?_ (fun hHeld => ?_)
        · (try dsimp only)
          (first | (refine ⟨?_, ?_, ?_, ?_, ?_, ?_, ?_, ?_, ?_, ?_, ?_, ?_, ?_, ?_⟩ <;> with_reducible assumption) | (simp [go_sem, *]; done))
        clear hK K
        (try simp only [Act.put, List.setIfInBounds_toArray, List.set_cons_zero, List.set_cons_succ])
        refine wpAnyH_take (i := 13) (oi := { dst := some 44, op := Op.binOp BinOp.eql 4 (Operand.tmp 41) (Operand.tmp 43) 4, type := 4, pos := "law.go:24", after := #[{ on := 10, ground := Ground.data }, { on := 12, ground := Ground.data }, { on := 8, ground := Ground.guard }], guard := some (8, true) }) (v := ?_) rfl (by kernel_rfl) (by kernel_rfl) (by kernel_rfl) (fun _ _ _ h => h) (Or.inl ⟨by rfl, ?_⟩) (by assumption) ?_
        rotate_left
        · (intro w hSw; (try dsimp only at hSw); go_simp; (first | done | with_reducible rfl))
        (try simp only [Act.put, List.setIfInBounds_toArray, List.set_cons_zero, List.set_cons_succ])
        refine wpAnyH_take (i := 14) (oi := { dst := some 45, op := Op.pick (Operand.tmp 39) (Operand.tmp 44) (Operand.const (Value.bool false)), type := 4, pos := "law.go:24", after := #[{ on := 8, ground := Ground.data }, { on := 13, ground := Ground.data }], guard := none }) (v := ?_) rfl (by kernel_rfl) (by kernel_rfl) (by kernel_rfl) (fun _ _ _ h => h) (Or.inl ⟨by rfl, ?_⟩) (by assumption) ?_
        rotate_left
        · (intro w hSw; (try dsimp only at hSw); go_simp; (first | done | with_reducible rfl))
        (try simp only [Act.put, List.setIfInBounds_toArray, List.set_cons_zero, List.set_cons_succ])
        refine wpAnyH_take (i := 15) (oi := { dst := some 46, op := Op.move (Operand.tmp 45), type := 4, pos := "law.go:24", after := #[{ on := 14, ground := Ground.data }, { on := 12, ground := Ground.chain }], guard := none }) (v := ?_) rfl (by kernel_rfl) (by kernel_rfl) (by kernel_rfl) (fun _ _ _ h => h) (Or.inl ⟨by rfl, ?_⟩) (by assumption) ?_
        rotate_left
        · (intro w hSw; (try dsimp only at hSw); go_simp; (first | done | with_reducible rfl))
        (try simp only [Act.put, List.setIfInBounds_toArray, List.set_cons_zero, List.set_cons_succ])
        refine wpAnyH_take (i := 16) (oi := { dst := some 47, op := Op.move (Operand.tmp 10), type := 27, pos := "law.go:24", after := #[{ on := 15, ground := Ground.guard }], guard := some (15, true) }) (v := ?_) rfl (by kernel_rfl) (by kernel_rfl) (by kernel_rfl) (fun _ _ _ h => h) (Or.inl ⟨by rfl, ?_⟩) (by assumption) ?_
        rotate_left
        · (intro w hSw; (try dsimp only at hSw); go_simp; (first | done | with_reducible rfl))
        (try simp only [Act.put, List.setIfInBounds_toArray, List.set_cons_zero, List.set_cons_succ])
        refine wpAnyH_take (i := 17) (oi := { dst := some 48, op := Op.binOp BinOp.neq 27 (Operand.tmp 47) (Operand.const (Value.int IntKind.i64 0)) 27, type := 4, pos := "law.go:24", after := #[{ on := 16, ground := Ground.data }, { on := 15, ground := Ground.guard }], guard := some (15, true) }) (v := ?_) rfl (by kernel_rfl) (by kernel_rfl) (by kernel_rfl) (fun _ _ _ h => h) (Or.inl ⟨by rfl, ?_⟩) (by assumption) ?_
        rotate_left
        · (intro w hSw; (try dsimp only at hSw); go_simp; (first | done | with_reducible rfl))
        (try simp only [Act.put, List.setIfInBounds_toArray, List.set_cons_zero, List.set_cons_succ])
        refine wpAnyH_take (i := 18) (oi := { dst := some 49, op := Op.move (Operand.tmp 48), type := 4, pos := "law.go:24", after := #[{ on := 17, ground := Ground.data }, { on := 15, ground := Ground.chain }, { on := 15, ground := Ground.guard }], guard := some (15, true) }) (v := ?_) rfl (by kernel_rfl) (by kernel_rfl) (by kernel_rfl) (fun _ _ _ h => h) (Or.inl ⟨by rfl, ?_⟩) (by assumption) ?_
        rotate_left
        · (intro w hSw; (try dsimp only at hSw); go_simp; (first | done | with_reducible rfl))
        (try simp only [Act.put, List.setIfInBounds_toArray, List.set_cons_zero, List.set_cons_succ])
        refine wpAnyH_take (i := 19) (oi := { dst := some 50, op := Op.load 25 (Operand.tmp 9), type := 25, pos := "law.go:24", after := #[{ on := 18, ground := Ground.guard }], guard := some (18, false) }) (v := undef) rfl (by kernel_rfl) (by kernel_rfl) (by kernel_rfl) (fun _ _ _ h => h) (Or.inr ⟨by rfl, rfl⟩) (by assumption) ?_
        (try simp only [Act.put, List.setIfInBounds_toArray, List.set_cons_zero, List.set_cons_succ])
        refine wpAnyH_take (i := 20) (oi := { dst := some 51, op := Op.load 25 (Operand.tmp 3), type := 25, pos := "law.go:24", after := #[{ on := 18, ground := Ground.guard }], guard := some (18, false) }) (v := undef) rfl (by kernel_rfl) (by kernel_rfl) (by kernel_rfl) (fun _ _ _ h => h) (Or.inr ⟨by rfl, rfl⟩) (by assumption) ?_
        (try simp only [Act.put, List.setIfInBounds_toArray, List.set_cons_zero, List.set_cons_succ])
        refine wpAnyH_take (i := 21) (oi := { dst := some 52, op := Op.binOp BinOp.eql 25 (Operand.tmp 50) (Operand.tmp 51) 25, type := 4, pos := "law.go:24", after := #[{ on := 19, ground := Ground.data }, { on := 20, ground := Ground.data }, { on := 18, ground := Ground.guard }], guard := some (18, false) }) (v := undef) rfl (by kernel_rfl) (by kernel_rfl) (by kernel_rfl) (fun _ _ _ h => h) (Or.inr ⟨by rfl, rfl⟩) (by assumption) ?_
        (try simp only [Act.put, List.setIfInBounds_toArray, List.set_cons_zero, List.set_cons_succ])
        refine wpAnyH_take (i := 22) (oi := { dst := some 53, op := Op.pick (Operand.tmp 49) (Operand.const (Value.bool true)) (Operand.tmp 52), type := 4, pos := "law.go:24", after := #[{ on := 18, ground := Ground.data }, { on := 21, ground := Ground.data }, { on := 15, ground := Ground.guard }], guard := some (15, true) }) (v := ?_) rfl (by kernel_rfl) (by kernel_rfl) (by kernel_rfl) (fun _ _ _ h => h) (Or.inl ⟨by rfl, ?_⟩) (by assumption) ?_
        rotate_left
        · (intro w hSw; (try dsimp only at hSw); go_simp; (first | done | with_reducible rfl))
        (try simp only [Act.put, List.setIfInBounds_toArray, List.set_cons_zero, List.set_cons_succ])
        refine wpAnyH_take (i := 23) (oi := { dst := some 54, op := Op.pick (Operand.tmp 46) (Operand.tmp 53) (Operand.const (Value.bool false)), type := 4, pos := "law.go:24", after := #[{ on := 15, ground := Ground.data }, { on := 22, ground := Ground.data }], guard := none }) (v := ?_) rfl (by kernel_rfl) (by kernel_rfl) (by kernel_rfl) (fun _ _ _ h => h) (Or.inl ⟨by rfl, ?_⟩) (by assumption) ?_
        rotate_left
        · (intro w hSw; (try dsimp only at hSw); go_simp; (first | done | with_reducible rfl))
        (try simp only [Act.put, List.setIfInBounds_toArray, List.set_cons_zero, List.set_cons_succ])
        refine wpAnyH_take (i := 24) (oi := { dst := some 55, op := Op.move (Operand.tmp 54), type := 4, pos := "law.go:24", after := #[{ on := 23, ground := Ground.data }, { on := 18, ground := Ground.chain }], guard := none }) (v := ?_) rfl (by kernel_rfl) (by kernel_rfl) (by kernel_rfl) (fun _ _ _ h => h) (Or.inl ⟨by rfl, ?_⟩) (by assumption) ?_
        rotate_left
        · (intro w hSw; (try dsimp only at hSw); go_simp; (first | done | with_reducible rfl))
        (try simp only [Act.put, List.setIfInBounds_toArray, List.set_cons_zero, List.set_cons_succ])
        refine wpAnyH_take (i := 25) (oi := { dst := some 56, op := Op.move (Operand.tmp 10), type := 27, pos := "law.go:24", after := #[{ on := 24, ground := Ground.guard }], guard := some (24, true) }) (v := ?_) rfl (by kernel_rfl) (by kernel_rfl) (by kernel_rfl) (fun _ _ _ h => h) (Or.inl ⟨by rfl, ?_⟩) (by assumption) ?_
        rotate_left
        · (intro w hSw; (try dsimp only at hSw); go_simp; (first | done | with_reducible rfl))
        (try simp only [Act.put, List.setIfInBounds_toArray, List.set_cons_zero, List.set_cons_succ])
        refine wpAnyH_take (i := 26) (oi := { dst := some 57, op := Op.binOp BinOp.eql 27 (Operand.tmp 56) (Operand.const (Value.int IntKind.i64 0)) 27, type := 4, pos := "law.go:24", after := #[{ on := 25, ground := Ground.data }, { on := 24, ground := Ground.guard }], guard := some (24, true) }) (v := ?_) rfl (by kernel_rfl) (by kernel_rfl) (by kernel_rfl) (fun _ _ _ h => h) (Or.inl ⟨by rfl, ?_⟩) (by assumption) ?_
        rotate_left
        · (intro w hSw; (try dsimp only at hSw); go_simp; (first | done | with_reducible rfl))
        (try simp only [Act.put, List.setIfInBounds_toArray, List.set_cons_zero, List.set_cons_succ])
        refine wpAnyH_take (i := 27) (oi := { dst := some 58, op := Op.fieldAddr 25 (Operand.tmp 3) 0, type := 0, pos := "law.go:24", after := #[{ on := 24, ground := Ground.guard }], guard := some (24, true) }) (v := ?_) rfl (by kernel_rfl) (by kernel_rfl) (by kernel_rfl) (fun _ _ _ h => h) (Or.inl ⟨by rfl, ?_⟩) (by assumption) ?_
        rotate_left
        · (intro w hSw; (try dsimp only at hSw); go_simp; (first | done | with_reducible rfl))
        (try simp only [Act.put, List.setIfInBounds_toArray, List.set_cons_zero, List.set_cons_succ])
        refine wpAnyH_take (i := 28) (oi := { dst := some 59, op := Op.load 2 (Operand.tmp 58), type := 2, pos := "law.go:24", after := #[{ on := 27, ground := Ground.data }, { on := 24, ground := Ground.guard }], guard := some (24, true) }) (v := ?_) rfl (by kernel_rfl) (by kernel_rfl) (by kernel_rfl) (fun _ _ _ h => h) (Or.inl ⟨by rfl, ?_⟩) (by assumption) ?_
        rotate_left
        · (intro w hSw; (try dsimp only at hSw); go_simp; (first | done | with_reducible rfl))
        (try simp only [Act.put, List.setIfInBounds_toArray, List.set_cons_zero, List.set_cons_succ])
        refine wpAnyH_ready (rs := [29]) (by kernel_rfl) (by simp) ?_
        refine AllReadyH.cons (o := { dst := some 60, op := Op.call { callee := Callee.value (Operand.func 16), args := #[Operand.tmp 59], argTypes := #[2] }, type := 4, pos := "law.go:24", after := #[{ on := 28, ground := Ground.data }, { on := 24, ground := Ground.chain }, { on := 24, ground := Ground.guard }], guard := some (24, true) }) rfl (fun K hK => ?_) AllReadyH.nil
        go_simp
        (go_at_call 16; (with_reducible refine (IX.out _).mono ?_); rintro e wi ⟨rfl, rfl⟩)
        refine hK.out _ _ ?_ (fun hHeld => ?_)
        · (try dsimp only)
          (first | (refine ⟨?_, ?_, ?_, ?_, ?_, ?_, ?_, ?_, ?_, ?_, ?_, ?_, ?_, ?_⟩ <;> with_reducible assumption) | (simp [go_sem, *]; done))
        clear hK K
        (try simp only [Act.put, List.setIfInBounds_toArray, List.set_cons_zero, List.set_cons_succ])
        refine wpAnyH_take (i := 30) (oi := { dst := some 61, op := Op.move (Operand.tmp 60), type := 4, pos := "law.go:24", after := #[{ on := 29, ground := Ground.data }, { on := 29, ground := Ground.chain }, { on := 24, ground := Ground.guard }], guard := some (24, true) }) (v := ?_) rfl (by kernel_rfl) (by kernel_rfl) (by kernel_rfl) (fun _ _ _ h => h) (Or.inl ⟨by rfl, ?_⟩) (by assumption) ?_
        rotate_left
        · (intro w hSw; (try dsimp only at hSw); go_simp; (first | done | with_reducible rfl))
        (try simp only [Act.put, List.setIfInBounds_toArray, List.set_cons_zero, List.set_cons_succ])
        refine wpAnyH_take (i := 31) (oi := { dst := some 62, op := Op.fieldAddr 25 (Operand.tmp 3) 1, type := 0, pos := "law.go:24", after := #[{ on := 30, ground := Ground.guard }], guard := some (30, true) }) (v := undef) rfl (by kernel_rfl) (by kernel_rfl) (by kernel_rfl) (fun _ _ _ h => h) (Or.inr ⟨by rfl, rfl⟩) (by assumption) ?_
        (try simp only [Act.put, List.setIfInBounds_toArray, List.set_cons_zero, List.set_cons_succ])
        refine wpAnyH_take (i := 32) (oi := { dst := some 63, op := Op.load 2 (Operand.tmp 62), type := 2, pos := "law.go:24", after := #[{ on := 31, ground := Ground.data }, { on := 30, ground := Ground.guard }], guard := some (30, true) }) (v := undef) rfl (by kernel_rfl) (by kernel_rfl) (by kernel_rfl) (fun _ _ _ h => h) (Or.inr ⟨by rfl, rfl⟩) (by assumption) ?_
        (try simp only [Act.put, List.setIfInBounds_toArray, List.set_cons_zero, List.set_cons_succ])
        refine wpAnyH_take (i := 33) (oi := { dst := some 64, op := Op.call { callee := Callee.value (Operand.func 16), args := #[Operand.tmp 63], argTypes := #[2] }, type := 4, pos := "law.go:24", after := #[{ on := 32, ground := Ground.data }, { on := 30, ground := Ground.chain }, { on := 30, ground := Ground.guard }], guard := some (30, true) }) (v := undef) rfl (by kernel_rfl) (by kernel_rfl) (by kernel_rfl) (fun _ _ _ h => h) (Or.inr ⟨by rfl, rfl⟩) (by assumption) ?_
        (try simp only [Act.put, List.setIfInBounds_toArray, List.set_cons_zero, List.set_cons_succ])
        refine wpAnyH_take (i := 34) (oi := { dst := some 65, op := Op.pick (Operand.tmp 61) (Operand.tmp 64) (Operand.const (Value.bool false)), type := 4, pos := "law.go:24", after := #[{ on := 30, ground := Ground.data }, { on := 33, ground := Ground.data }, { on := 24, ground := Ground.guard }], guard := some (24, true) }) (v := ?_) rfl (by kernel_rfl) (by kernel_rfl) (by kernel_rfl) (fun _ _ _ h => h) (Or.inl ⟨by rfl, ?_⟩) (by assumption) ?_
        rotate_left
        · (intro w hSw; (try dsimp only at hSw); go_simp; (first | done | with_reducible rfl))
        (try simp only [Act.put, List.setIfInBounds_toArray, List.set_cons_zero, List.set_cons_succ])
        refine wpAnyH_take (i := 35) (oi := { dst := some 66, op := Op.binOp BinOp.eql 4 (Operand.tmp 57) (Operand.tmp 65) 4, type := 4, pos := "law.go:24", after := #[{ on := 26, ground := Ground.data }, { on := 34, ground := Ground.data }, { on := 24, ground := Ground.guard }], guard := some (24, true) }) (v := ?_) rfl (by kernel_rfl) (by kernel_rfl) (by kernel_rfl) (fun _ _ _ h => h) (Or.inl ⟨by rfl, ?_⟩) (by assumption) ?_
        rotate_left
        · (intro w hSw; (try dsimp only at hSw); go_simp; (first | done | with_reducible rfl))
        (try simp only [Act.put, List.setIfInBounds_toArray, List.set_cons_zero, List.set_cons_succ])
        refine wpAnyH_take (i := 36) (oi := { dst := some 67, op := Op.pick (Operand.tmp 55) (Operand.tmp 66) (Operand.const (Value.bool false)), type := 4, pos := "law.go:24", after := #[{ on := 24, ground := Ground.data }, { on := 35, ground := Ground.data }], guard := none }) (v := ?_) rfl (by kernel_rfl) (by kernel_rfl) (by kernel_rfl) (fun _ _ _ h => h) (Or.inl ⟨by rfl, ?_⟩) (by assumption) ?_
        rotate_left
        · (intro w hSw; (try dsimp only at hSw); go_simp; (first | done | with_reducible rfl))
        (try simp only [Act.put, List.setIfInBounds_toArray, List.set_cons_zero, List.set_cons_succ])
        refine wpAnyH_take (i := 37) (oi := { dst := some 4, op := Op.assign (Operand.tmp 67), type := 4, pos := "law.go:24", after := #[{ on := 36, ground := Ground.data }, { on := 33, ground := Ground.chain }, { on := 0, ground := Ground.phase }, { on := 1, ground := Ground.phase }, { on := 2, ground := Ground.phase }, { on := 3, ground := Ground.phase }, { on := 4, ground := Ground.phase }, { on := 5, ground := Ground.phase }, { on := 6, ground := Ground.phase }, { on := 7, ground := Ground.phase }, { on := 8, ground := Ground.phase }, { on := 9, ground := Ground.phase }, { on := 10, ground := Ground.phase }, { on := 11, ground := Ground.phase }, { on := 12, ground := Ground.phase }, { on := 13, ground := Ground.phase }, { on := 14, ground := Ground.phase }, { on := 15, ground := Ground.phase }, { on := 16, ground := Ground.phase }, { on := 17, ground := Ground.phase }, { on := 18, ground := Ground.phase }, { on := 19, ground := Ground.phase }, { on := 20, ground := Ground.phase }, { on := 21, ground := Ground.phase }, { on := 22, ground := Ground.phase }, { on := 23, ground := Ground.phase }, { on := 24, ground := Ground.phase }, { on := 25, ground := Ground.phase }, { on := 26, ground := Ground.phase }, { on := 27, ground := Ground.phase }, { on := 28, ground := Ground.phase }, { on := 29, ground := Ground.phase }, { on := 30, ground := Ground.phase }, { on := 31, ground := Ground.phase }, { on := 32, ground := Ground.phase }, { on := 33, ground := Ground.phase }, { on := 34, ground := Ground.phase }, { on := 35, ground := Ground.phase }, { on := 36, ground := Ground.phase }], guard := none }) (v := ?_) rfl (by kernel_rfl) (by kernel_rfl) (by kernel_rfl) (fun _ _ _ h => h) (Or.inl ⟨by rfl, ?_⟩) (by assumption) ?_
        rotate_left
        · (intro w hSw; (try dsimp only at hSw); go_simp; (first | done | with_reducible rfl))
        (try simp only [Act.put, List.setIfInBounds_toArray, List.set_cons_zero, List.set_cons_succ])
        refine wpAnyH_done (by kernel_rfl) ?_ _
        go_wp2_with fail
        go_ret
        exact ⟨rfl, by first | exact HBg.out | exact HBg.out.drew⟩
set_option maxRecDepth 100000 in
theorem lifted (os : Os) (started : os.Started) (H : Type) (enc : TypeId × Value → H) :
    ReturnsInHanded {} Try.checked os 3 .any (Rows.affineAppliesSpec.pre6 enc Try.prog Try.f3 Rows.affineAppliesRow.domain false) (Rows.affineAppliesSpec.post enc Try.prog Try.f3 false true false false) := by
  refine returnsInHanded_of_change (C := Try.checked) own started (by kernel_rfl) Try.func3
    (ChangeSpec.witness6 (enc := enc) (C := Try.checked) false ⟨#[], #[.agg #[.int .i64 0, .int .i64 0, .int .i64 0, .int .i64 0, .int .i64 0, .int .i64 0], .agg #[.int .i64 0, .int .i64 0]], []⟩ 8 (by kernel_rfl) (by kernel_rfl) (by kernel_rfl) (by kernel_rfl)) ?_
  intro W base args ds gs before hval0 hW hcnd _
  have hval : ∀ (j : Nat) t v, Try.f3.params[j]? = some t → args[j]? = some v → Value.okWide Try.prog W .any base t v := hval0
  have hW' := hW
  obtain ⟨p, q, hA0, hV, rfl, hfz, hnd⟩ := hW
  have hA : DataW.TrodAll enc Try.prog W 0 (fun _ => true) true Try.f3.params.toList args.toList ds p := hA0
  rw [Try.params3] at hA hval
  obtain ⟨v0, v1, d0, d1, p0, p1, rfl, rfl, rfl, h0, h1⟩ := trodAll_two hA
  obtain ⟨rfl, rfl⟩ := trodVars_none hV
  obtain ⟨m0, rfl, w0⟩ := mtx_of_trod Try.underlying23 (by kernel_rfl) (by kernel_rfl) Try.underlying2 Try.underlying2 Try.underlying2 Try.underlying2 Try.underlying2 Try.underlying2 (hval 0 23 v0 rfl rfl) h0
  obtain ⟨x1, y1, rfl, wx1, wy1⟩ := pt_of_trod Try.underlying25 (by kernel_rfl) (by kernel_rfl) Try.underlying2 Try.underlying2 (hval 1 25 v1 rfl rfl) h1
  clear hA0 hval0
  simp only [List.append_nil] at hW'
  have lt0 : ∀ x ∈ p0, x.block < W.heap.size := fun x hx => hW'.lt x (by simp [hx])
  have lt1 : ∀ x ∈ p1, x.block < W.heap.size := fun x hx => hW'.lt x (by simp [hx])
  refine (walk m0 w0 x1 y1 wx1 wy1 W).mono fun e W' ⟨he, hg⟩ => ?_
  subst he
  have b0' := Below.trod laidOut (by kernel_rfl) (of_decide_eq_true (by kernel_rfl)) h0 hg lt0
  have b1' := Below.trod laidOut (by kernel_rfl) (of_decide_eq_true (by kernel_rfl)) h1 hg lt1
  exact ⟨_, rfl, ⟨_, _, _, [], _, [], hW', trodAll_mk1 (shut_bool Try.underlying4 _), trodAll_mk2 b0' b1', rfl, hg.frame _, fun h => by cases h⟩⟩

/-- The given statement. -/
theorem proved : Rows.AffineAppliesSaid :=
  OpenClaim.holds_of_wide 3 Try.f3 rfl rfl rfl rfl rfl rfl rfl ⟨rfl, rfl, rfl, rfl, rfl⟩ rfl rfl rfl rfl rfl (by kernel_rfl) Try.func3 (by kernel_rfl)
    (of_decide_eq_true (by kernel_rfl)) (by unfold Func.isWrapper; first | (rw [if_pos (by decide +kernel)]; kernel_rfl) | (rw [if_neg (by decide +kernel)]; exact ⟨rfl, rfl⟩))
    (fun os started H enc _ => lifted os started H enc)
end Go.Proofs.Ythnjdncnmdmjaaa.affineApplies
