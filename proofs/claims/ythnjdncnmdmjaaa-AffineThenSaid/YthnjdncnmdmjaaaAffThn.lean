/-
  Package affine: Then. (Typed by a program.)
-/
import Derived.Test.YthnjdncnmdmjaaaAffRight
import Derived.Test.YthnjdncnmdmjaaaAffTake
import Derived.Test.YthnjdncnmdmjaaaAffBeginM
namespace Go.Proofs.Ythnjdncnmdmjaaa
open Go.RowKit Go.Shelf

/-- How the work of Then ends. -/
def thenE (r : Mtx × Int) : Ending := if r.2 = 0 then .returned r.1.val else Gives r.2
theorem thenE_no {z : Int} (h : z ≠ 0) (p : Mtx) : thenE (p, z) = .panicked [{ v := .iface 27 (.int .i64 z), recovered := false }] := by
  unfold thenE; rw [if_neg h]; rfl
theorem then_zero (m n : Mtx) (h : (thenS m n).2 ≠ 0) : (thenS m n).1 = zeroM := by
  unfold thenS at *
  split at h
  · split at h
    · exact absurd rfl h
    · rename_i h1 h2; rw [if_pos h1, if_neg h2]
  · rename_i h1; rw [if_neg h1]
theorem then_lin (m n : Mtx) : thenM m n = ⟨linA n.a m.a n.c m.b, linA n.b m.a n.d m.b, linA n.a m.c n.c m.d, linA n.b m.c n.d m.d, linA n.a m.e n.c m.f + n.e, linA n.b m.e n.d m.f + n.f⟩ := by
  unfold thenM; simp only [num_lin, Int.add_zero]
set_option maxHeartbeats 8000000 in
set_option maxRecDepth 100000 in
theorem clos_M (p q : Nat) (m n : Mtx) (w : World) (hm : MBox p m w) (hn : MBox q n w) (i : MI64 m) (j : MI64 n) :
    Calls Try.prog 41 #[.pointer (some ⟨p, 0, none⟩), .pointer (some ⟨q, 0, none⟩)] w fun e w' => e = thenE (thenS m n) ∧ Below w.heap.size w w' := by
  have RM := Lib.hid (fun w => aright8 m w i)
  have RN := Lib.hid (fun w => aright8 n w j)
  have MN1 := Lib.hid (fun w => must_no 1 w)
  have MK1 := Lib.hid (fun w => must_ok 1 w)
  have MN2 := Lib.hid (fun w => must_no 2 w)
  have MK2 := Lib.hid (fun w => must_ok 2 w)
  unfold Gives at MN1 MN2
  have al := (Below.refl w.heap.size w).alloc (Nat.le_refl _) (.cells zeroM.cells 23)
  have hz := MBox.new w zeroM
  have hm1 := hm.next al
  have hn1 := hn.next al
  have lp := hm.lt
  have lq := hn.lt
  clear hm hn
  obtain ⟨RR, hRR⟩ : ∃ RR, thenE (thenS m n) = RR := ⟨_, rfl⟩
  rw [hRR]
  have HE := Lib.hid hRR
  clear hRR
  have ST1 := Lib.hid (fun w hr hx hy => stretch_any n m.a m.b w hr hx hy)
  have ST2 := Lib.hid (fun w hr hx hy => stretch_any n m.c m.d w hr hx hy)
  have TK := Lib.hid (fun w hr => take_any n m.e m.f w hr i.2.2.2.2.1 i.2.2.2.2.2)
  have TL := Lib.hid (then_lin m n)
  obtain ⟨a, b, c, d, e0, f⟩ := m
  obtain ⟨a', b', c', d', e', f'⟩ := n
  unfold Mtx.val at RM RN
  simp only [Mtx.cells, zeroM] at RM RN hm1 hn1 hz al
  have HB1 := Lib.hid al
  have HM1 := Lib.hid hm1
  have HN1 := Lib.hid hn1
  have HZ1 := Lib.hid hz
  clear al hm1 hn1 hz
  go_enter Try.func41, Try.ntmps41
  go_upto_region 1 with fail
  generalize w.alloc (.cells #[.int .i64 0, .int .i64 0, .int .i64 0, .int .i64 0, .int .i64 0, .int .i64 0] 23) = w1 at *
  have m1_0 : w1.cell? ⟨p, 0, none⟩ = some (.int .i64 a) := HM1.out.c0
  have m1_1 : w1.cell? ⟨p, 1, none⟩ = some (.int .i64 b) := HM1.out.c1
  have m1_2 : w1.cell? ⟨p, 2, none⟩ = some (.int .i64 c) := HM1.out.c2
  have m1_3 : w1.cell? ⟨p, 3, none⟩ = some (.int .i64 d) := HM1.out.c3
  have m1_4 : w1.cell? ⟨p, 4, none⟩ = some (.int .i64 e0) := HM1.out.c4
  have m1_5 : w1.cell? ⟨p, 5, none⟩ = some (.int .i64 f) := HM1.out.c5
  have n1_0 : w1.cell? ⟨q, 0, none⟩ = some (.int .i64 a') := HN1.out.c0
  have n1_1 : w1.cell? ⟨q, 1, none⟩ = some (.int .i64 b') := HN1.out.c1
  have n1_2 : w1.cell? ⟨q, 2, none⟩ = some (.int .i64 c') := HN1.out.c2
  have n1_3 : w1.cell? ⟨q, 3, none⟩ = some (.int .i64 d') := HN1.out.c3
  have n1_4 : w1.cell? ⟨q, 4, none⟩ = some (.int .i64 e') := HN1.out.c4
  have n1_5 : w1.cell? ⟨q, 5, none⟩ = some (.int .i64 f') := HN1.out.c5
  by_cases hr : Mtx.right ⟨a, b, c, d, e0, f⟩
  case neg =>
    obtain rfl : .panicked [{ v := .iface 27 (.int .i64 1), recovered := false }] = RR := by rw [← HE.out]; unfold thenS; rw [if_neg (fun h => hr h.1)]; rfl
    rw [decide_eq_false hr] at RM
    clear TK ST1 ST2 TL hr
    go_wp2_with fail
    refine (RM.out _).mono ?_
    rintro e w2 ⟨rfl, b2⟩
    have HB2 := Lib.hid (HB1.out.trans (b2.mono HB1.out.size))
    clear b2
    go_wp2_with fail
    refine (MN1.out _).mono ?_
    rintro e wm ⟨rfl, rfl⟩
    go_wp2_with fail
    exact ⟨rfl, rfl, HB2.out⟩
  rw [decide_eq_true hr] at RM
  by_cases hs : Mtx.right ⟨a', b', c', d', e', f'⟩
  case neg =>
    obtain rfl : .panicked [{ v := .iface 27 (.int .i64 1), recovered := false }] = RR := by rw [← HE.out]; unfold thenS; rw [if_neg (fun h => hs h.2)]; rfl
    rw [decide_eq_false hs] at RN
    clear TK ST1 ST2 TL hr hs
    go_wp2_with fail
    refine (RM.out _).mono ?_
    rintro e w2 ⟨rfl, b2⟩
    have HB2 := Lib.hid (HB1.out.trans (b2.mono HB1.out.size))
    have HN2 := Lib.hid (HN1.out.next b2)
    clear b2
    clear m1_0 m1_1 m1_2 m1_3 m1_4 m1_5 n1_0 n1_1 n1_2 n1_3 n1_4 n1_5
    have n2_0 : w2.cell? ⟨q, 0, none⟩ = some (.int .i64 a') := HN2.out.c0
    have n2_1 : w2.cell? ⟨q, 1, none⟩ = some (.int .i64 b') := HN2.out.c1
    have n2_2 : w2.cell? ⟨q, 2, none⟩ = some (.int .i64 c') := HN2.out.c2
    have n2_3 : w2.cell? ⟨q, 3, none⟩ = some (.int .i64 d') := HN2.out.c3
    have n2_4 : w2.cell? ⟨q, 4, none⟩ = some (.int .i64 e') := HN2.out.c4
    have n2_5 : w2.cell? ⟨q, 5, none⟩ = some (.int .i64 f') := HN2.out.c5
    go_wp2_with fail
    refine (RN.out _).mono ?_
    rintro e w3 ⟨rfl, b3⟩
    have HB3 := Lib.hid (HB2.out.trans (b3.mono HB2.out.size))
    clear b3
    go_wp2_with fail
    refine (MN1.out _).mono ?_
    rintro e wm ⟨rfl, rfl⟩
    go_wp2_with fail
    exact ⟨rfl, rfl, HB3.out⟩
  rw [decide_eq_true hs] at RN
  have S1 := Lib.hid (fun w => ST1.out w hs hr.1 hr.2.1)
  have S2 := Lib.hid (fun w => ST2.out w hs hr.2.2.1 hr.2.2.2.1)
  have T := Lib.hid (fun w => TK.out w hs)
  have hap : applyS ⟨a', b', c', d', e', f'⟩ e0 f = if In32 (linA a' e0 c' f + e') ∧ In32 (linA b' e0 d' f + f') then ((linA a' e0 c' f + e', linA b' e0 d' f + f'), 0) else ((0, 0), 2) := by
    unfold applyS
    rw [if_pos ⟨hs, hr.2.2.2.2.1, hr.2.2.2.2.2⟩]
    rfl
  have hE := HE.out
  unfold thenS at hE
  rw [if_pos ⟨hr, hs⟩, TL.out] at hE
  have l1 := lin_near hs.1 hr.1 hs.2.2.1 hr.2.1
  have l2 := lin_near hs.2.1 hr.1 hs.2.2.2.1 hr.2.1
  have l3 := lin_near hs.1 hr.2.2.1 hs.2.2.1 hr.2.2.2.1
  have l4 := lin_near hs.2.1 hr.2.2.1 hs.2.2.2.1 hr.2.2.2.1
  clear TK ST1 ST2 TL HE MN1 hr hs
  dsimp only at S1 S2 T hap hE l1 l2 l3 l4
  rw [hap] at T
  clear hap
  generalize linA a' a c' b = A1 at *
  generalize linA b' a d' b = B1 at *
  generalize linA a' c c' d = C1 at *
  generalize linA b' c d' d = D1 at *
  generalize linA a' e0 c' f + e' = E1 at *
  generalize linA b' e0 d' f + f' = F1 at *
  have HE := Lib.hid hE
  clear hE
  have j1 : I64 A1 := ⟨by omega, by omega⟩
  have j2 : I64 B1 := ⟨by omega, by omega⟩
  have j3 : I64 C1 := ⟨by omega, by omega⟩
  have j4 : I64 D1 := ⟨by omega, by omega⟩
  have Q : Hid (In32 E1 ∧ In32 F1 → MI64 ⟨A1, B1, C1, D1, E1, F1⟩) := Lib.hid (fun h => ⟨j1, j2, j3, j4, h.1.i, h.2.i⟩)
  clear j1 j2 j3 j4
  clear l1 l2 l3 l4
  go_wp2_with fail
  refine (RM.out _).mono ?_
  rintro e w2 ⟨rfl, b2⟩
  have HB2 := Lib.hid (HB1.out.trans (b2.mono HB1.out.size))
  have HM2 := Lib.hid (HM1.out.next b2)
  have HN2 := Lib.hid (HN1.out.next b2)
  have HZ2 := Lib.hid (HZ1.out.next b2)
  clear b2
  clear m1_0 m1_1 m1_2 m1_3 m1_4 m1_5 n1_0 n1_1 n1_2 n1_3 n1_4 n1_5
  have n2_0 : w2.cell? ⟨q, 0, none⟩ = some (.int .i64 a') := HN2.out.c0
  have n2_1 : w2.cell? ⟨q, 1, none⟩ = some (.int .i64 b') := HN2.out.c1
  have n2_2 : w2.cell? ⟨q, 2, none⟩ = some (.int .i64 c') := HN2.out.c2
  have n2_3 : w2.cell? ⟨q, 3, none⟩ = some (.int .i64 d') := HN2.out.c3
  have n2_4 : w2.cell? ⟨q, 4, none⟩ = some (.int .i64 e') := HN2.out.c4
  have n2_5 : w2.cell? ⟨q, 5, none⟩ = some (.int .i64 f') := HN2.out.c5
  go_wp2_with fail
  refine (RN.out _).mono ?_
  rintro e w3 ⟨rfl, b3⟩
  have HB3 := Lib.hid (HB2.out.trans (b3.mono HB2.out.size))
  have HM3 := Lib.hid (HM2.out.next b3)
  have HN3 := Lib.hid (HN2.out.next b3)
  have HZ3 := Lib.hid (HZ2.out.next b3)
  clear b3
  clear n2_0 n2_1 n2_2 n2_3 n2_4 n2_5
  go_wp2_with fail
  refine (MK1.out _).mono ?_
  rintro e wm ⟨rfl, rfl⟩
  clear RM RN MK1 HB1 HB2 HM1 HM2 HN1 HN2 HZ1 HZ2
  have m3_0 : w3.cell? ⟨p, 0, none⟩ = some (.int .i64 a) := HM3.out.c0
  have m3_1 : w3.cell? ⟨p, 1, none⟩ = some (.int .i64 b) := HM3.out.c1
  have m3_2 : w3.cell? ⟨p, 2, none⟩ = some (.int .i64 c) := HM3.out.c2
  have m3_3 : w3.cell? ⟨p, 3, none⟩ = some (.int .i64 d) := HM3.out.c3
  have m3_4 : w3.cell? ⟨p, 4, none⟩ = some (.int .i64 e0) := HM3.out.c4
  have m3_5 : w3.cell? ⟨p, 5, none⟩ = some (.int .i64 f) := HM3.out.c5
  have n3_0 : w3.cell? ⟨q, 0, none⟩ = some (.int .i64 a') := HN3.out.c0
  have n3_1 : w3.cell? ⟨q, 1, none⟩ = some (.int .i64 b') := HN3.out.c1
  have n3_2 : w3.cell? ⟨q, 2, none⟩ = some (.int .i64 c') := HN3.out.c2
  have n3_3 : w3.cell? ⟨q, 3, none⟩ = some (.int .i64 d') := HN3.out.c3
  have n3_4 : w3.cell? ⟨q, 4, none⟩ = some (.int .i64 e') := HN3.out.c4
  have n3_5 : w3.cell? ⟨q, 5, none⟩ = some (.int .i64 f') := HN3.out.c5
  go_wp2_with fail
  refine (S1.out _).mono ?_
  rintro e w4 ⟨rfl, b4⟩
  have HB4 := Lib.hid (HB3.out.trans (b4.mono HB3.out.size))
  have HM4 := Lib.hid (HM3.out.next b4)
  have HN4 := Lib.hid (HN3.out.next b4)
  have HZ4 := Lib.hid (HZ3.out.next b4)
  clear b4
  clear m3_0 m3_1 m3_2 m3_3 m3_4 m3_5 n3_0 n3_1 n3_2 n3_3 n3_4 n3_5
  go_upto_region 3 with fail
  have al := (Below.refl w4.heap.size w4).alloc (Nat.le_refl _) (.cells #[.int .i64 A1, .int .i64 B1] 25)
  have hnew := PBox.new w4 A1 B1
  have HU5 := Lib.hid hnew
  have HB5 := Lib.hid (HB4.out.alloc HB4.out.size (.cells #[.int .i64 A1, .int .i64 B1] 25))
  have HM5 := Lib.hid (HM4.out.next al)
  have HN5 := Lib.hid (HN4.out.next al)
  have HZ5 := Lib.hid (HZ4.out.next al)
  clear al hnew
  generalize w4.alloc (.cells #[.int .i64 A1, .int .i64 B1] 25) = w5 at *
  generalize w4.heap.size = u at *
  have m5_0 : w5.cell? ⟨p, 0, none⟩ = some (.int .i64 a) := HM5.out.c0
  have m5_1 : w5.cell? ⟨p, 1, none⟩ = some (.int .i64 b) := HM5.out.c1
  have m5_2 : w5.cell? ⟨p, 2, none⟩ = some (.int .i64 c) := HM5.out.c2
  have m5_3 : w5.cell? ⟨p, 3, none⟩ = some (.int .i64 d) := HM5.out.c3
  have m5_4 : w5.cell? ⟨p, 4, none⟩ = some (.int .i64 e0) := HM5.out.c4
  have m5_5 : w5.cell? ⟨p, 5, none⟩ = some (.int .i64 f) := HM5.out.c5
  have n5_0 : w5.cell? ⟨q, 0, none⟩ = some (.int .i64 a') := HN5.out.c0
  have n5_1 : w5.cell? ⟨q, 1, none⟩ = some (.int .i64 b') := HN5.out.c1
  have n5_2 : w5.cell? ⟨q, 2, none⟩ = some (.int .i64 c') := HN5.out.c2
  have n5_3 : w5.cell? ⟨q, 3, none⟩ = some (.int .i64 d') := HN5.out.c3
  have n5_4 : w5.cell? ⟨q, 4, none⟩ = some (.int .i64 e') := HN5.out.c4
  have n5_5 : w5.cell? ⟨q, 5, none⟩ = some (.int .i64 f') := HN5.out.c5
  go_wp2_with fail
  refine (S2.out _).mono ?_
  rintro e w6 ⟨rfl, b6⟩
  have HB6 := Lib.hid (HB5.out.trans (b6.mono HB5.out.size))
  have HM6 := Lib.hid (HM5.out.next b6)
  have HN6 := Lib.hid (HN5.out.next b6)
  have HZ6 := Lib.hid (HZ5.out.next b6)
  have HU6 := Lib.hid (HU5.out.next b6)
  clear b6
  clear m5_0 m5_1 m5_2 m5_3 m5_4 m5_5 n5_0 n5_1 n5_2 n5_3 n5_4 n5_5
  go_upto_region 4 with fail
  have al := (Below.refl w6.heap.size w6).alloc (Nat.le_refl _) (.cells #[.int .i64 C1, .int .i64 D1] 25)
  have hnew := PBox.new w6 C1 D1
  have HV7 := Lib.hid hnew
  have HB7 := Lib.hid (HB6.out.alloc HB6.out.size (.cells #[.int .i64 C1, .int .i64 D1] 25))
  have HM7 := Lib.hid (HM6.out.next al)
  have HN7 := Lib.hid (HN6.out.next al)
  have HZ7 := Lib.hid (HZ6.out.next al)
  have HU7 := Lib.hid (HU6.out.next al)
  clear al hnew
  generalize w6.alloc (.cells #[.int .i64 C1, .int .i64 D1] 25) = w7 at *
  generalize w6.heap.size = v at *
  clear S1 S2 HB3 HB4 HB5 HB6 HM3 HM4 HM5 HM6 HN3 HN4 HN5 HN6 HZ3 HZ4 HZ5 HZ6 HU5 HU6
  have m7_0 : w7.cell? ⟨p, 0, none⟩ = some (.int .i64 a) := HM7.out.c0
  have m7_1 : w7.cell? ⟨p, 1, none⟩ = some (.int .i64 b) := HM7.out.c1
  have m7_2 : w7.cell? ⟨p, 2, none⟩ = some (.int .i64 c) := HM7.out.c2
  have m7_3 : w7.cell? ⟨p, 3, none⟩ = some (.int .i64 d) := HM7.out.c3
  have m7_4 : w7.cell? ⟨p, 4, none⟩ = some (.int .i64 e0) := HM7.out.c4
  have m7_5 : w7.cell? ⟨p, 5, none⟩ = some (.int .i64 f) := HM7.out.c5
  have n7_0 : w7.cell? ⟨q, 0, none⟩ = some (.int .i64 a') := HN7.out.c0
  have n7_1 : w7.cell? ⟨q, 1, none⟩ = some (.int .i64 b') := HN7.out.c1
  have n7_2 : w7.cell? ⟨q, 2, none⟩ = some (.int .i64 c') := HN7.out.c2
  have n7_3 : w7.cell? ⟨q, 3, none⟩ = some (.int .i64 d') := HN7.out.c3
  have n7_4 : w7.cell? ⟨q, 4, none⟩ = some (.int .i64 e') := HN7.out.c4
  have n7_5 : w7.cell? ⟨q, 5, none⟩ = some (.int .i64 f') := HN7.out.c5
  by_cases ho : In32 E1 ∧ In32 F1
  case neg =>
    obtain rfl : .panicked [{ v := .iface 27 (.int .i64 2), recovered := false }] = RR := by rw [← HE.out, if_neg (fun h => ho h.2.2.2.2)]; rfl
    rw [if_neg ho, takeE_two] at T
    unfold Gives at T
    clear Q ho
    go_wp2_with fail
    refine (T.out _).mono ?_
    rintro e w8 ⟨rfl, b8⟩
    have HB8 := Lib.hid (HB7.out.trans (b8.mono HB7.out.size))
    clear b8
    go_wp2_with fail
    exact ⟨rfl, rfl, HB8.out⟩
  rw [if_pos ho, takeE_ok] at T
  have RQ := Lib.hid (fun w => aright8 ⟨A1, B1, C1, D1, E1, F1⟩ w (Q.out ho))
  unfold Mtx.val at RQ
  simp only [Mtx.cells] at RQ
  clear Q ho
  go_wp2_with fail
  refine (T.out _).mono ?_
  rintro e w8 ⟨rfl, b8⟩
  have HB8 := Lib.hid (HB7.out.trans (b8.mono HB7.out.size))
  have HZ8 := Lib.hid (HZ7.out.next b8)
  have HU8 := Lib.hid (HU7.out.next b8)
  have HV8 := Lib.hid (HV7.out.next b8)
  clear b8
  clear m7_0 m7_1 m7_2 m7_3 m7_4 m7_5 n7_0 n7_1 n7_2 n7_3 n7_4 n7_5
  clear HM7 HN7
  go_upto_region 5 with fail
  have al := (Below.refl w8.heap.size w8).alloc (Nat.le_refl _) (.cells #[.int .i64 E1, .int .i64 F1] 25)
  have hnew := PBox.new w8 E1 F1
  have HW9 := Lib.hid hnew
  have HB9 := Lib.hid (HB8.out.alloc HB8.out.size (.cells #[.int .i64 E1, .int .i64 F1] 25))
  have HZ9 := Lib.hid (HZ8.out.next al)
  have HU9 := Lib.hid (HU8.out.next al)
  have HV9 := Lib.hid (HV8.out.next al)
  clear al hnew
  generalize w8.alloc (.cells #[.int .i64 E1, .int .i64 F1] 25) = w9 at *
  generalize w8.heap.size = t at *
  have u0 : w9.cell? ⟨u, 0, none⟩ = some (.int .i64 A1) := HU9.out.c0
  have u1 : w9.cell? ⟨u, 1, none⟩ = some (.int .i64 B1) := HU9.out.c1
  have v0 : w9.cell? ⟨v, 0, none⟩ = some (.int .i64 C1) := HV9.out.c0
  have v1 : w9.cell? ⟨v, 1, none⟩ = some (.int .i64 D1) := HV9.out.c1
  have t0 : w9.cell? ⟨t, 0, none⟩ = some (.int .i64 E1) := HW9.out.c0
  have t1 : w9.cell? ⟨t, 1, none⟩ = some (.int .i64 F1) := HW9.out.c1
  go_upto_region 6 with fail
  clear u0 u1 v0 v1 t0 t1 HB7 HB8 HU7 HU8 HV7 HV8 HZ7 HZ8
  have al := (Below.refl w9.heap.size w9).alloc (Nat.le_refl _) (.cells #[.int .i64 A1, .int .i64 B1, .int .i64 C1, .int .i64 D1, .int .i64 E1, .int .i64 F1] 23)
  have hnew := MBox.new w9 ⟨A1, B1, C1, D1, E1, F1⟩
  simp only [Mtx.cells] at hnew
  have HXA := Lib.hid hnew
  have HBA := Lib.hid (HB9.out.alloc HB9.out.size (.cells #[.int .i64 A1, .int .i64 B1, .int .i64 C1, .int .i64 D1, .int .i64 E1, .int .i64 F1] 23))
  have HZA := Lib.hid (HZ9.out.next al)
  clear al hnew
  generalize w9.alloc (.cells #[.int .i64 A1, .int .i64 B1, .int .i64 C1, .int .i64 D1, .int .i64 E1, .int .i64 F1] 23) = wA at *
  generalize w9.heap.size = x at *
  have x0 : wA.cell? ⟨x, 0, none⟩ = some (.int .i64 A1) := HXA.out.c0
  have x1 : wA.cell? ⟨x, 1, none⟩ = some (.int .i64 B1) := HXA.out.c1
  have x2 : wA.cell? ⟨x, 2, none⟩ = some (.int .i64 C1) := HXA.out.c2
  have x3 : wA.cell? ⟨x, 3, none⟩ = some (.int .i64 D1) := HXA.out.c3
  have x4 : wA.cell? ⟨x, 4, none⟩ = some (.int .i64 E1) := HXA.out.c4
  have x5 : wA.cell? ⟨x, 5, none⟩ = some (.int .i64 F1) := HXA.out.c5
  by_cases hx : Mtx.right ⟨A1, B1, C1, D1, E1, F1⟩
  case neg =>
    obtain rfl : .panicked [{ v := .iface 27 (.int .i64 2), recovered := false }] = RR := by rw [← HE.out, if_neg hx]; rfl
    rw [decide_eq_false hx] at RQ
    go_wp2_with fail
    refine (RQ.out _).mono ?_
    rintro e wB ⟨rfl, bB⟩
    have HBB := Lib.hid (HBA.out.trans (bB.mono HBA.out.size))
    clear bB
    go_wp2_with fail
    refine (MN2.out _).mono ?_
    rintro e wm ⟨rfl, rfl⟩
    go_wp2_with fail
    exact ⟨rfl, rfl, HBB.out⟩
  obtain rfl : .returned (Mtx.val ⟨A1, B1, C1, D1, E1, F1⟩) = RR := by rw [← HE.out, if_pos hx]; rfl
  rw [decide_eq_true hx] at RQ
  go_wp2_with fail
  refine (RQ.out _).mono ?_
  rintro e wB ⟨rfl, bB⟩
  have HBB := Lib.hid (HBA.out.trans (bB.mono HBA.out.size))
  have HXB := Lib.hid (HXA.out.next bB)
  have HZB := Lib.hid (HZA.out.next bB)
  clear bB
  clear x0 x1 x2 x3 x4 x5
  go_wp2_with fail
  refine (MK2.out _).mono ?_
  rintro e wm ⟨rfl, rfl⟩
  have x0 : wB.cell? ⟨x, 0, none⟩ = some (.int .i64 A1) := HXB.out.c0
  have z0 := HZB.out.c0
  have f0 := HZB.out.z 0
  have x1 : wB.cell? ⟨x, 1, none⟩ = some (.int .i64 B1) := HXB.out.c1
  have z1 := HZB.out.c1
  have f1 := HZB.out.z 1
  have x2 : wB.cell? ⟨x, 2, none⟩ = some (.int .i64 C1) := HXB.out.c2
  have z2 := HZB.out.c2
  have f2 := HZB.out.z 2
  have x3 : wB.cell? ⟨x, 3, none⟩ = some (.int .i64 D1) := HXB.out.c3
  have z3 := HZB.out.c3
  have f3 := HZB.out.z 3
  have x4 : wB.cell? ⟨x, 4, none⟩ = some (.int .i64 E1) := HXB.out.c4
  have z4 := HZB.out.c4
  have f4 := HZB.out.z 4
  have x5 : wB.cell? ⟨x, 5, none⟩ = some (.int .i64 F1) := HXB.out.c5
  have z5 := HZB.out.c5
  have f5 := HZB.out.z 5
  go_wp2_with fail
  exact me_ret (m := ⟨A1, B1, C1, D1, E1, F1⟩) Try.results41 (HZB.out.set A1 B1 C1 D1 E1 F1) (below_six8 HBB.out (Nat.le_refl _) (.int .i64 A1) (.int .i64 B1) (.int .i64 C1) (.int .i64 D1) (.int .i64 E1) (.int .i64 F1)) rfl
set_option maxHeartbeats 4000000 in
set_option maxRecDepth 100000 in
theorem athen8 (m n : Mtx) (w : World) (i : MI64 m) (j : MI64 n) :
    Calls Try.prog 17 #[m.val, n.val] w fun e w' => e = .returned (ME (thenS m n)) ∧ Below w.heap.size w w' := by
  have hmf : ∀ (fn : Fn) (first cap : Array Value) (w : World), (Instr.makeFunc fn first cap).run Try.prog w = .ok (.func fn first cap) w := fun _ _ _ _ => rfl
  obtain ⟨hbm, hbn, hbz, hbb⟩ := boxes3m w m n
  have BG : Hid (∀ w1 : World, MBox w.heap.size m w1 → MBox (w.heap.size + 1) n w1 → Calls Try.prog 40 #[.func (Fn.func 41) #[] #[.pointer (some ⟨w.heap.size, 0, none⟩), .pointer (some ⟨w.heap.size + 1, 0, none⟩)]] w1 fun e w' => e = .returned (ME (thenS m n)) ∧ Below w1.heap.size w1 w') := Lib.hid (by
    intro w1 h1 h2
    have hz := then_zero m n
    have K := fun (w2 : World) (b : Below w1.heap.size w1 w2) => clos_M w.heap.size (w.heap.size + 1) m n w2 (h1.next b) (h2.next b) i j
    generalize thenS m n = R at *
    obtain ⟨⟨x0, x1, x2, x3, x4, x5⟩, z⟩ := R
    by_cases h0 : z = 0
    · subst h0
      exact begin_M_ok _ _ x0 x1 x2 x3 x4 x5 w1 K
    · have hz' := hz h0
      dsimp only at hz'
      rw [hz']
      rw [hz', thenE_no h0] at K
      exact begin_M_no _ _ z w1 K)
  generalize thenS m n = R at *
  obtain ⟨⟨x0, x1, x2, x3, x4, x5⟩, z⟩ := R
  obtain ⟨a, b, c, d, e0, f⟩ := m
  obtain ⟨a', b', c', d', e', f'⟩ := n
  clear i j
  unfold ME at BG
  unfold Mtx.val at BG
  simp only [Mtx.cells, zeroM] at BG hbm hbn hbz hbb
  have HM1 := Lib.hid hbm
  have HN1 := Lib.hid hbn
  have HZ1 := Lib.hid hbz
  have HB1 := Lib.hid hbb
  clear hbm hbn hbz hbb
  show Calls _ _ #[.agg #[.int .i64 a, .int .i64 b, .int .i64 c, .int .i64 d, .int .i64 e0, .int .i64 f], .agg #[.int .i64 a', .int .i64 b', .int .i64 c', .int .i64 d', .int .i64 e', .int .i64 f']] w _
  go_enter Try.func17, Try.ntmps17
  go_wp2_with fail
  generalize ((w.alloc (.cells #[.int .i64 a, .int .i64 b, .int .i64 c, .int .i64 d, .int .i64 e0, .int .i64 f] 23)).alloc (.cells #[.int .i64 a', .int .i64 b', .int .i64 c', .int .i64 d', .int .i64 e', .int .i64 f'] 23)).alloc (.cells #[.int .i64 0, .int .i64 0, .int .i64 0, .int .i64 0, .int .i64 0, .int .i64 0] 23) = w1 at *
  refine (BG.out _ HM1.out HN1.out).mono ?_
  rintro e w2 ⟨rfl, b2⟩
  have HB2 := Lib.hid (HB1.out.trans (b2.mono HB1.out.size))
  have HZ2 := Lib.hid (HZ1.out.next b2)
  clear b2
  have z0 := HZ2.out.c0
  have f0 := HZ2.out.z 0
  have z1 := HZ2.out.c1
  have f1 := HZ2.out.z 1
  have z2 := HZ2.out.c2
  have f2 := HZ2.out.z 2
  have z3 := HZ2.out.c3
  have f3 := HZ2.out.z 3
  have z4 := HZ2.out.c4
  have f4 := HZ2.out.z 4
  have z5 := HZ2.out.c5
  have f5 := HZ2.out.z 5
  go_wp2_with fail
  exact me_close8 Try.results17 (HZ2.out.set x0 x1 x2 x3 x4 x5) (below_six HB2.out (by omega) (.int .i64 x0) (.int .i64 x1) (.int .i64 x2) (.int .i64 x3) (.int .i64 x4) (.int .i64 x5)) rfl rfl
end Go.Proofs.Ythnjdncnmdmjaaa
