/-
  The document's answer of layer 8: Apply. (Typed by a program.)
-/
import Derived.Test.YthnjdncnmdmjaaaAffRef
import Derived.Test.YthnjdncnmdmjaaaAffCell
import Derived.Deep.DeepCutAuto
namespace Go.Proofs.Ythnjdncnmdmjaaa
open Go.RowKit Go.Shelf

theorem below_pt9 {w w' : World} {n B : Nat} (h : Below B w w') (hn : B ≤ n) (x y : Value) : Below B w ((w'.setCell ⟨n, 0, none⟩ x).setCell ⟨n, 1, none⟩ y) :=
  Below.setCell (Below.setCell h (by exact hn) _) (by exact hn) _
set_option maxHeartbeats 8000000 in
set_option maxRecDepth 100000 in
/-- The drawn region: both numbers, and a new box for them. -/
theorem rapply8 (m : Mtx) (x y : Int) (w : World) : Calls Try.prog 12 #[m.val, .agg #[.int .i64 x, .int .i64 y]] w fun e w' => e = .returned (PE (applyS m x y)) ∧ Below w.heap.size w w' := by
  have RR := Lib.hid (fun w => rright8 m w)
  have IX := Lib.hid (fun w => rin8 x w)
  have IY := Lib.hid (fun w => rin8 y w)
  obtain ⟨hm, hp, hz, hb⟩ := boxes3 w m x y
  obtain ⟨R, hR⟩ : ∃ R, applyS m x y = R := ⟨_, rfl⟩
  rw [hR]
  have HE := Lib.hid hR
  clear hR
  obtain ⟨a, b, c, d, e0, f⟩ := m
  unfold Mtx.val at RR
  simp only [Mtx.cells] at RR hm hp hz hb
  have HM1 := Lib.hid hm
  have HP1 := Lib.hid hp
  have HZ1 := Lib.hid hz
  have HB1 := Lib.hid hb
  clear hm hp hz hb
  show Calls _ _ #[.agg #[.int .i64 a, .int .i64 b, .int .i64 c, .int .i64 d, .int .i64 e0, .int .i64 f], _] w _
  go_enter Try.func12, Try.ntmps12
  go_wp2_with fail
  generalize ((w.alloc (.cells #[.int .i64 a, .int .i64 b, .int .i64 c, .int .i64 d, .int .i64 e0, .int .i64 f] 23)).alloc (.cells #[.int .i64 x, .int .i64 y] 25)).alloc (.cells #[.int .i64 0, .int .i64 0] 25) = w1 at *
  by_cases hr : Mtx.right ⟨a, b, c, d, e0, f⟩
  case neg =>
    obtain rfl : ((0, 0), 1) = R := by rw [← HE.out]; unfold applyS; rw [if_neg (fun h => hr h.1)]
    rw [decide_eq_false hr] at RR
    refine (RR.out _).mono ?_
    rintro e w2 ⟨rfl, b2⟩
    have HB2 := Lib.hid (HB1.out.trans (b2.mono HB1.out.size))
    have HM2 := Lib.hid (HM1.out.next b2)
    have HP2 := Lib.hid (HP1.out.next b2)
    have HZ2 := Lib.hid (HZ1.out.next b2)
    clear b2
    have z_20 : w2.cell? ⟨w.heap.size + 1 + 1, 0, none⟩ = some (.int .i64 0) := HZ2.out.c0
    have z_21 : w2.cell? ⟨w.heap.size + 1 + 1, 1, none⟩ = some (.int .i64 0) := HZ2.out.c1
    have zz_20 := HZ2.out.z 0
    have zz_21 := HZ2.out.z 1
    go_wp2_with fail
    exact pe_close8 Try.results12 (HZ2.out.set 0 0) (below_pt8 HB2.out (by omega) (.int .i64 0) (.int .i64 0)) rfl rfl
  rw [decide_eq_true hr] at RR
  refine (RR.out _).mono ?_
  rintro e w2 ⟨rfl, b2⟩
  have HB2 := Lib.hid (HB1.out.trans (b2.mono HB1.out.size))
  have HM2 := Lib.hid (HM1.out.next b2)
  have HP2 := Lib.hid (HP1.out.next b2)
  have HZ2 := Lib.hid (HZ1.out.next b2)
  clear b2
  have p_20 : w2.cell? ⟨w.heap.size + 1, 0, none⟩ = some (.int .i64 x) := HP2.out.c0
  have p_21 : w2.cell? ⟨w.heap.size + 1, 1, none⟩ = some (.int .i64 y) := HP2.out.c1
  by_cases hx : In32 x
  case neg =>
    obtain rfl : ((0, 0), 1) = R := by rw [← HE.out]; unfold applyS; rw [if_neg (fun h => hx h.2.1)]
    rw [decide_eq_false hx] at IX
    have z_20 : w2.cell? ⟨w.heap.size + 1 + 1, 0, none⟩ = some (.int .i64 0) := HZ2.out.c0
    have z_21 : w2.cell? ⟨w.heap.size + 1 + 1, 1, none⟩ = some (.int .i64 0) := HZ2.out.c1
    have zz_20 := HZ2.out.z 0
    have zz_21 := HZ2.out.z 1
    go_wp2_with fail
    refine (IX.out _).mono ?_
    rintro e wm ⟨rfl, rfl⟩
    go_wp2_with fail
    exact pe_close8 Try.results12 (HZ2.out.set 0 0) (below_pt8 HB2.out (by omega) (.int .i64 0) (.int .i64 0)) rfl rfl
  rw [decide_eq_true hx] at IX
  go_wp2_with fail
  refine (IX.out _).mono ?_
  rintro e wm ⟨rfl, rfl⟩
  by_cases hy : In32 y
  case neg =>
    obtain rfl : ((0, 0), 1) = R := by rw [← HE.out]; unfold applyS; rw [if_neg (fun h => hy h.2.2)]
    rw [decide_eq_false hy] at IY
    have z_20 : w2.cell? ⟨w.heap.size + 1 + 1, 0, none⟩ = some (.int .i64 0) := HZ2.out.c0
    have z_21 : w2.cell? ⟨w.heap.size + 1 + 1, 1, none⟩ = some (.int .i64 0) := HZ2.out.c1
    have zz_20 := HZ2.out.z 0
    have zz_21 := HZ2.out.z 1
    go_wp2_with fail
    refine (IY.out _).mono ?_
    rintro e wm ⟨rfl, rfl⟩
    go_wp2_with fail
    exact pe_close8 Try.results12 (HZ2.out.set 0 0) (below_pt8 HB2.out (by omega) (.int .i64 0) (.int .i64 0)) rfl rfl
  rw [decide_eq_true hy] at IY
  go_wp2_with fail
  refine (IY.out _).mono ?_
  rintro e wm ⟨rfl, rfl⟩
  have S0 := Lib.hid (fun w => rsum8 a x c y e0 w hr.1 hx hr.2.2.1 hy hr.2.2.2.2.1)
  have S1 := Lib.hid (fun w => rsum8 b x d y f w hr.2.1 hx hr.2.2.2.1 hy hr.2.2.2.2.2)
  have hE := HE.out
  unfold applyS at hE
  rw [if_pos ⟨hr, hx, hy⟩] at hE
  unfold appM at hE
  dsimp only at hE
  generalize numA a x c y e0 = X at *
  generalize numA b x d y f = Y at *
  have HE' := Lib.hid hE
  clear hE HE hr hx hy RR IX IY HM1 HP1 HZ1 HB1 p_20 p_21
  go_upto_region 3 with fail
  go_cut [6] (fun s6 wc => ∃ q : Nat, s6 = .pointer (some ⟨q, 0, none⟩) ∧ PBox q X Y wc ∧ Below w2.heap.size w2 wc)
  case first =>
    have HBz := Lib.hid (Below.refl w2.heap.size w2)
    have HBd := Lib.hid HBz.out.drew
    have m_20 : w2.cell? ⟨w.heap.size, 0, none⟩ = some (.int .i64 a) := HM2.out.c0
    have m_21 : w2.cell? ⟨w.heap.size, 1, none⟩ = some (.int .i64 b) := HM2.out.c1
    have m_22 : w2.cell? ⟨w.heap.size, 2, none⟩ = some (.int .i64 c) := HM2.out.c2
    have m_23 : w2.cell? ⟨w.heap.size, 3, none⟩ = some (.int .i64 d) := HM2.out.c3
    have m_24 : w2.cell? ⟨w.heap.size, 4, none⟩ = some (.int .i64 e0) := HM2.out.c4
    have m_25 : w2.cell? ⟨w.heap.size, 5, none⟩ = some (.int .i64 f) := HM2.out.c5
    have p_20 : w2.cell? ⟨w.heap.size + 1, 0, none⟩ = some (.int .i64 x) := HP2.out.c0
    have p_21 : w2.cell? ⟨w.heap.size + 1, 1, none⟩ = some (.int .i64 y) := HP2.out.c1
    have lm := HM2.out.lt
    have lp := HP2.out.lt
    clear HE' HZ2 HB2
    go_region_held3 (fun w' => w'.cell? ⟨w.heap.size, 0, none⟩ = some (.int .i64 a) ∧ w'.cell? ⟨w.heap.size, 1, none⟩ = some (.int .i64 b) ∧ w'.cell? ⟨w.heap.size, 2, none⟩ = some (.int .i64 c) ∧ w'.cell? ⟨w.heap.size, 3, none⟩ = some (.int .i64 d) ∧ w'.cell? ⟨w.heap.size, 4, none⟩ = some (.int .i64 e0) ∧ w'.cell? ⟨w.heap.size, 5, none⟩ = some (.int .i64 f) ∧ w'.cell? ⟨w.heap.size + 1, 0, none⟩ = some (.int .i64 x) ∧ w'.cell? ⟨w.heap.size + 1, 1, none⟩ = some (.int .i64 y)) (first | (refine ⟨?_, ?_, ?_, ?_, ?_, ?_, ?_, ?_⟩ <;> first | with_reducible assumption | (with_reducible refine cell_alloc ?_; with_reducible assumption) | (with_reducible refine cell_far (cell_far ?_ ?_) ?_ <;> with_reducible assumption)) | (simp [go_sem, *]; done))
      (first
      | (go_at_call 38; (with_reducible refine (S0.out _).mono ?_); rintro e v1 ⟨rfl, b1⟩; have HB1 := Lib.hid (HBd.out.trans (b1.mono HBd.out.size)); (try (have HQ' := Lib.hid (HQ.out.next b1); clear HQ; have HQ := HQ')); (try (clear y0 y1 y2 y3 y4 y5 y6 y7)); (try (clear u0 u1 r0 r1 lq)); (try (have u0 := HQ.out.c0; have u1 := HQ.out.c1; have r0 := HQ.out.z 0; have r1 := HQ.out.z 1; have lq := HQ.out.lt)); have hmm := HM2.out.next HB1.out; have hpp := HP2.out.next HB1.out; have y0 : v1.cell? ⟨w.heap.size, 0, none⟩ = some (.int .i64 a) := hmm.c0; have y1 : v1.cell? ⟨w.heap.size, 1, none⟩ = some (.int .i64 b) := hmm.c1; have y2 : v1.cell? ⟨w.heap.size, 2, none⟩ = some (.int .i64 c) := hmm.c2; have y3 : v1.cell? ⟨w.heap.size, 3, none⟩ = some (.int .i64 d) := hmm.c3; have y4 : v1.cell? ⟨w.heap.size, 4, none⟩ = some (.int .i64 e0) := hmm.c4; have y5 : v1.cell? ⟨w.heap.size, 5, none⟩ = some (.int .i64 f) := hmm.c5; have y6 : v1.cell? ⟨w.heap.size + 1, 0, none⟩ = some (.int .i64 x) := hpp.c0; have y7 : v1.cell? ⟨w.heap.size + 1, 1, none⟩ = some (.int .i64 y) := hpp.c1; have lm := hmm.lt; have lp := hpp.lt; clear hmm hpp b1)
      | (go_at_call 38; (with_reducible refine (S0.out _).mono ?_); rintro e v1 ⟨rfl, b1⟩; have HBq := Lib.hid (HBz.out.alloc HBz.out.size (.cells #[.int .i64 0, .int .i64 0] 25)).drew; have hq' := PBox.new w2 0 0; have HQq : Hid (PBox w2.heap.size 0 0 ((w2.alloc (.cells #[.int .i64 0, .int .i64 0] 25)).drew)) := Lib.hid hq'; clear hq'; have HB1 := Lib.hid (HBq.out.trans (b1.mono HBq.out.size)); have HQ := Lib.hid (HQq.out.next b1); have HBl := HBz; (try (clear y0 y1 y2 y3 y4 y5 y6 y7)); (try (clear u0 u1 r0 r1 lq)); (try (have u0 := HQ.out.c0; have u1 := HQ.out.c1; have r0 := HQ.out.z 0; have r1 := HQ.out.z 1; have lq := HQ.out.lt)); have hmm := HM2.out.next HB1.out; have hpp := HP2.out.next HB1.out; have y0 : v1.cell? ⟨w.heap.size, 0, none⟩ = some (.int .i64 a) := hmm.c0; have y1 : v1.cell? ⟨w.heap.size, 1, none⟩ = some (.int .i64 b) := hmm.c1; have y2 : v1.cell? ⟨w.heap.size, 2, none⟩ = some (.int .i64 c) := hmm.c2; have y3 : v1.cell? ⟨w.heap.size, 3, none⟩ = some (.int .i64 d) := hmm.c3; have y4 : v1.cell? ⟨w.heap.size, 4, none⟩ = some (.int .i64 e0) := hmm.c4; have y5 : v1.cell? ⟨w.heap.size, 5, none⟩ = some (.int .i64 f) := hmm.c5; have y6 : v1.cell? ⟨w.heap.size + 1, 0, none⟩ = some (.int .i64 x) := hpp.c0; have y7 : v1.cell? ⟨w.heap.size + 1, 1, none⟩ = some (.int .i64 y) := hpp.c1; have lm := hmm.lt; have lp := hpp.lt; clear hmm hpp b1)
      | (go_at_call 38; (with_reducible refine (S1.out _).mono ?_); rintro e v2 ⟨rfl, b2⟩; have HB2 := Lib.hid (HB1.out.trans (b2.mono HB1.out.size)); (try (have HQ' := Lib.hid (HQ.out.next b2); clear HQ; have HQ := HQ')); (try (clear y0 y1 y2 y3 y4 y5 y6 y7)); (try (clear u0 u1 r0 r1 lq)); (try (have u0 := HQ.out.c0; have u1 := HQ.out.c1; have r0 := HQ.out.z 0; have r1 := HQ.out.z 1; have lq := HQ.out.lt)); have hmm := HM2.out.next HB2.out; have hpp := HP2.out.next HB2.out; have y0 : v2.cell? ⟨w.heap.size, 0, none⟩ = some (.int .i64 a) := hmm.c0; have y1 : v2.cell? ⟨w.heap.size, 1, none⟩ = some (.int .i64 b) := hmm.c1; have y2 : v2.cell? ⟨w.heap.size, 2, none⟩ = some (.int .i64 c) := hmm.c2; have y3 : v2.cell? ⟨w.heap.size, 3, none⟩ = some (.int .i64 d) := hmm.c3; have y4 : v2.cell? ⟨w.heap.size, 4, none⟩ = some (.int .i64 e0) := hmm.c4; have y5 : v2.cell? ⟨w.heap.size, 5, none⟩ = some (.int .i64 f) := hmm.c5; have y6 : v2.cell? ⟨w.heap.size + 1, 0, none⟩ = some (.int .i64 x) := hpp.c0; have y7 : v2.cell? ⟨w.heap.size + 1, 1, none⟩ = some (.int .i64 y) := hpp.c1; have lm := hmm.lt; have lp := hpp.lt; clear hmm hpp b2)
      | (go_at_call 38; (with_reducible refine (S1.out _).mono ?_); rintro e v2 ⟨rfl, b2⟩; have HBq := Lib.hid (HB1.out.alloc HB1.out.size (.cells #[.int .i64 0, .int .i64 0] 25)); have hq' := PBox.new v1 0 0; have HQq : Hid (PBox v1.heap.size 0 0 ((v1.alloc (.cells #[.int .i64 0, .int .i64 0] 25)))) := Lib.hid hq'; clear hq'; have HB2 := Lib.hid (HBq.out.trans (b2.mono HBq.out.size)); have HQ := Lib.hid (HQq.out.next b2); have HBl := HB1; (try (clear y0 y1 y2 y3 y4 y5 y6 y7)); (try (clear u0 u1 r0 r1 lq)); (try (have u0 := HQ.out.c0; have u1 := HQ.out.c1; have r0 := HQ.out.z 0; have r1 := HQ.out.z 1; have lq := HQ.out.lt)); have hmm := HM2.out.next HB2.out; have hpp := HP2.out.next HB2.out; have y0 : v2.cell? ⟨w.heap.size, 0, none⟩ = some (.int .i64 a) := hmm.c0; have y1 : v2.cell? ⟨w.heap.size, 1, none⟩ = some (.int .i64 b) := hmm.c1; have y2 : v2.cell? ⟨w.heap.size, 2, none⟩ = some (.int .i64 c) := hmm.c2; have y3 : v2.cell? ⟨w.heap.size, 3, none⟩ = some (.int .i64 d) := hmm.c3; have y4 : v2.cell? ⟨w.heap.size, 4, none⟩ = some (.int .i64 e0) := hmm.c4; have y5 : v2.cell? ⟨w.heap.size, 5, none⟩ = some (.int .i64 f) := hmm.c5; have y6 : v2.cell? ⟨w.heap.size + 1, 0, none⟩ = some (.int .i64 x) := hpp.c0; have y7 : v2.cell? ⟨w.heap.size + 1, 1, none⟩ = some (.int .i64 y) := hpp.c1; have lm := hmm.lt; have lp := hpp.lt; clear hmm hpp b2)
      )
    all_goals
      go_wp2_with fail
      go_meet
      first
      | exact ⟨_, rfl, PBox.new v2 X Y, HB2.out.alloc HB2.out.size _⟩
      | exact ⟨_, rfl, HQ.out.set X Y, below_pt9 HB2.out HBl.out.size _ _⟩
  case rest =>
    obtain ⟨q, rfl, hq, hbc⟩ := hcut
    have HB3 := Lib.hid (HB2.out.trans (hbc.mono HB2.out.size))
    have HZ3 := Lib.hid (HZ2.out.next hbc)
    have HQ3 := Lib.hid hq
    clear hbc hq HM2 HP2 HZ2 HB2 S0 S1
    generalize wc = w3 at *
    have IX := Lib.hid (fun w => rin8 X w)
    have IY := Lib.hid (fun w => rin8 Y w)
    have q_30 : w3.cell? ⟨q, 0, none⟩ = some (.int .i64 X) := HQ3.out.c0
    have q_31 : w3.cell? ⟨q, 1, none⟩ = some (.int .i64 Y) := HQ3.out.c1
    have z_30 : w3.cell? ⟨w.heap.size + 1 + 1, 0, none⟩ = some (.int .i64 0) := HZ3.out.c0
    have z_31 : w3.cell? ⟨w.heap.size + 1 + 1, 1, none⟩ = some (.int .i64 0) := HZ3.out.c1
    have zz_30 := HZ3.out.z 0
    have zz_31 := HZ3.out.z 1
    by_cases hX : In32 X
    case neg =>
      obtain rfl : ((0, 0), 2) = R := by rw [← HE'.out, if_neg (fun h => hX h.1)]
      rw [decide_eq_false hX] at IX
      go_wp2_with fail
      refine (IX.out _).mono ?_
      rintro e wm ⟨rfl, rfl⟩
      go_wp2_with fail
      exact pe_close8 Try.results12 (HZ3.out.set 0 0) (below_pt8 HB3.out (by omega) (.int .i64 0) (.int .i64 0)) rfl rfl
    rw [decide_eq_true hX] at IX
    go_wp2_with fail
    refine (IX.out _).mono ?_
    rintro e wm ⟨rfl, rfl⟩
    by_cases hY : In32 Y
    case neg =>
      obtain rfl : ((0, 0), 2) = R := by rw [← HE'.out, if_neg (fun h => hY h.2)]
      rw [decide_eq_false hY] at IY
      go_wp2_with fail
      refine (IY.out _).mono ?_
      rintro e wm ⟨rfl, rfl⟩
      go_wp2_with fail
      exact pe_close8 Try.results12 (HZ3.out.set 0 0) (below_pt8 HB3.out (by omega) (.int .i64 0) (.int .i64 0)) rfl rfl
    rw [decide_eq_true hY] at IY
    go_wp2_with fail
    refine (IY.out _).mono ?_
    rintro e wm ⟨rfl, rfl⟩
    obtain rfl : ((X, Y), 0) = R := by rw [← HE'.out, if_pos ⟨hX, hY⟩]
    go_wp2_with fail
    exact pe_close8 Try.results12 (HZ3.out.set X Y) (below_pt8 HB3.out (by omega) (.int .i64 X) (.int .i64 Y)) rfl rfl
end Go.Proofs.Ythnjdncnmdmjaaa
