/-
  PROVED: the statement of VecAngles, for every input.
-/
import Derived.Test.YthnjdncnmdmjaaaRows
import Derived.Test.YthnjdncnmdmjaaaVecFn
import Derived.Test.YthnjdncnmdmjaaaVecPair
import Derived.Test.YthnjdncnmdmjaaaVecRef
import Derived.Test.YthnjdncnmdmjaaaAffCell
import Derived.Test.YthnjdncnmdmjaaaAffTrod
import Derived.Deep.DeepCutAuto
namespace Go.Proofs.Ythnjdncnmdmjaaa.vecAngles
open Go.ChangeShapes Go.WideShapes Go.ChangeAt Go.RowKit Go.Shelf

theorem in1_62a {x : Int} (h : In1 x) : In62 x := by unfold In1 at h; unfold In62; omega
theorem pbox_apart {n m : Nat} {x y : Int} {w : World} (h : PBox m x y w) (hne : n ≠ m) (o : Nat) (v : Value) : PBox m x y (w.setCell ⟨n, o, none⟩ v) := by
  unfold PBox at *
  simp only [World.setCell, Array.getElem?_modify, if_neg hne]
  exact h
/-- One box filled, and a new one behind it. -/
theorem one_new {v w : World} {p B : Nat} {X Y U V : Int} (hp : PBox p 0 0 v) (hb : Below B w v) (hB : B ≤ p) : PBox p X Y (((v.setCell ⟨p, 0, none⟩ (.int .i64 X)).setCell ⟨p, 1, none⟩ (.int .i64 Y)).alloc (.cells #[.int .i64 U, .int .i64 V] 25)) ∧ PBox v.heap.size U V (((v.setCell ⟨p, 0, none⟩ (.int .i64 X)).setCell ⟨p, 1, none⟩ (.int .i64 Y)).alloc (.cells #[.int .i64 U, .int .i64 V] 25)) ∧
    Below B w (((v.setCell ⟨p, 0, none⟩ (.int .i64 X)).setCell ⟨p, 1, none⟩ (.int .i64 Y)).alloc (.cells #[.int .i64 U, .int .i64 V] 25)) := by
  have h1 := hp.set X Y
  have hlt := hp.lt
  have b1 : Below B w ((v.setCell ⟨p, 0, none⟩ (.int .i64 X)).setCell ⟨p, 1, none⟩ (.int .i64 Y)) := Below.setCell (Below.setCell hb (by exact hB) _) (by exact hB) _
  have e : ((v.setCell ⟨p, 0, none⟩ (.int .i64 X)).setCell ⟨p, 1, none⟩ (.int .i64 Y)).heap.size = v.heap.size := by simp [World.setCell]
  generalize (v.setCell ⟨p, 0, none⟩ (.int .i64 X)).setCell ⟨p, 1, none⟩ (.int .i64 Y) = v' at *
  have al := (Below.refl v'.heap.size v').alloc (Nat.le_refl _) (.cells #[.int .i64 U, .int .i64 V] 25)
  have n := PBox.new v' U V
  have hsz : B ≤ v'.heap.size := by omega
  rw [e] at n
  exact ⟨h1.next al, n, b1.trans (al.mono hsz)⟩
/-- Two boxes filled. -/
theorem two_set {v w : World} {p q B : Nat} {X Y U V : Int} (hp : PBox p 0 0 v) (hq : PBox q 0 0 v) (hne : p ≠ q) (hb : Below B w v) (hB : B ≤ p) (hC : B ≤ q) : PBox p X Y ((((v.setCell ⟨p, 0, none⟩ (.int .i64 X)).setCell ⟨p, 1, none⟩ (.int .i64 Y)).setCell ⟨q, 0, none⟩ (.int .i64 U)).setCell ⟨q, 1, none⟩ (.int .i64 V)) ∧ PBox q U V ((((v.setCell ⟨p, 0, none⟩ (.int .i64 X)).setCell ⟨p, 1, none⟩ (.int .i64 Y)).setCell ⟨q, 0, none⟩ (.int .i64 U)).setCell ⟨q, 1, none⟩ (.int .i64 V)) ∧
    Below B w ((((v.setCell ⟨p, 0, none⟩ (.int .i64 X)).setCell ⟨p, 1, none⟩ (.int .i64 Y)).setCell ⟨q, 0, none⟩ (.int .i64 U)).setCell ⟨q, 1, none⟩ (.int .i64 V)) :=
  ⟨pbox_apart (pbox_apart (hp.set X Y) hne.symm 0 (.int .i64 U)) hne.symm 1 (.int .i64 V), (pbox_apart (pbox_apart hq hne 0 (.int .i64 X)) hne 1 (.int .i64 Y)).set U V,
    Below.setCell (Below.setCell (Below.setCell (Below.setCell hb (by exact hB) _) (by exact hB) _) (by exact hC) _) (by exact hC) _⟩
set_option maxHeartbeats 4000000 in
set_option maxRecDepth 100000 in
theorem walk (x y : Int) (_wx : I64 x) (_wy : I64 y) (u v : Int) (_wu : I64 u) (_wv : I64 v) (n : Int) (wn : (Lit.int .u8 n).wf = true) (w : World) :
    Calls Try.prog 9 #[.agg #[.int .i64 x, .int .i64 y], .agg #[.int .i64 u, .int .i64 v], .int .u8 n] w fun e w' => e = .returned (.bool true) ∧ Below w.heap.size w w' := by
  have WK := Lib.hid (fun w => wakes9 w)
  have RA := Lib.hid (fun w => rright9 x y w)
  have RB := Lib.hid (fun w => rright9 u v w)
  obtain ⟨hp, hq, hb⟩ := boxes_ab w x y u v
  have HP1 := Lib.hid hp
  have HQ1 := Lib.hid hq
  have HB1 := Lib.hid hb
  clear hp hq hb
  by_cases hr : rightD x y
  case neg =>
    rw [decide_eq_false hr] at RA
    clear hr RB
    go_enter Try.func9, Try.ntmps9
    go_upto_region 1 with fail
    generalize (w.alloc (.cells #[.int .i64 x, .int .i64 y] 25)).alloc (.cells #[.int .i64 u, .int .i64 v] 25) = w1 at *
    have z00 := HP1.out.c0; have z01 := HP1.out.c1; have z10 := HQ1.out.c0; have z11 := HQ1.out.c1
    go_wp2_with fail
    refine (WK.out _).mono ?_
    rintro e w2 ⟨rfl, b2⟩
    have HB2 := Lib.hid (HB1.out.trans (b2.mono HB1.out.size)); have HP2 := Lib.hid (HP1.out.next b2); have HQ2 := Lib.hid (HQ1.out.next b2)
    clear b2 z00 z01 z10 z11
    have z00 := HP2.out.c0; have z01 := HP2.out.c1; have z10 := HQ2.out.c0; have z11 := HQ2.out.c1
    go_wp2_with fail
    refine (RA.out _).mono ?_
    rintro e w3 ⟨rfl, b3⟩
    have HB3 := Lib.hid (HB2.out.trans (b3.mono HB2.out.size)); have HP3 := Lib.hid (HP2.out.next b3); have HQ3 := Lib.hid (HQ2.out.next b3)
    clear b3 z00 z01 z10 z11
    have z00 := HP3.out.c0; have z01 := HP3.out.c1; have z10 := HQ3.out.c0; have z11 := HQ3.out.c1
    go_wp2_with fail
    go_ret
    exact ⟨rfl, HB3.out⟩
  rw [decide_eq_true hr] at RA
  by_cases hs : rightD u v
  case neg =>
    rw [decide_eq_false hs] at RB
    clear hr hs
    go_enter Try.func9, Try.ntmps9
    go_upto_region 1 with fail
    generalize (w.alloc (.cells #[.int .i64 x, .int .i64 y] 25)).alloc (.cells #[.int .i64 u, .int .i64 v] 25) = w1 at *
    have z00 := HP1.out.c0; have z01 := HP1.out.c1; have z10 := HQ1.out.c0; have z11 := HQ1.out.c1
    go_wp2_with fail
    refine (WK.out _).mono ?_
    rintro e w2 ⟨rfl, b2⟩
    have HB2 := Lib.hid (HB1.out.trans (b2.mono HB1.out.size)); have HP2 := Lib.hid (HP1.out.next b2); have HQ2 := Lib.hid (HQ1.out.next b2)
    clear b2 z00 z01 z10 z11
    have z00 := HP2.out.c0; have z01 := HP2.out.c1; have z10 := HQ2.out.c0; have z11 := HQ2.out.c1
    go_wp2_with fail
    refine (RA.out _).mono ?_
    rintro e w3 ⟨rfl, b3⟩
    have HB3 := Lib.hid (HB2.out.trans (b3.mono HB2.out.size)); have HP3 := Lib.hid (HP2.out.next b3); have HQ3 := Lib.hid (HQ2.out.next b3)
    clear b3 z00 z01 z10 z11
    have z00 := HP3.out.c0; have z01 := HP3.out.c1; have z10 := HQ3.out.c0; have z11 := HQ3.out.c1
    go_wp2_with fail
    refine (RB.out _).mono ?_
    rintro e w4 ⟨rfl, b4⟩
    have HB4 := Lib.hid (HB3.out.trans (b4.mono HB3.out.size)); have HP4 := Lib.hid (HP3.out.next b4); have HQ4 := Lib.hid (HQ3.out.next b4)
    clear b4 z00 z01 z10 z11
    have z00 := HP4.out.c0; have z01 := HP4.out.c1; have z10 := HQ4.out.c0; have z11 := HQ4.out.c1
    go_wp2_with fail
    go_ret
    exact ⟨rfl, HB4.out⟩
  rw [decide_eq_true hs] at RB
  obtain ⟨hx, hy⟩ := right_in hr
  obtain ⟨hu, hv⟩ := right_in hs
  obtain ⟨m, rfl, hm⟩ := u8_of_wf wn
  have hm0 : 0 ≤ (m : Int) := by omega
  have hm1 : (m : Int) ≤ 255 := by omega
  generalize (m : Int) = n at *
  have ew : IntKind.i64.wrap n = n := IntWalk.i64_in _ (by omega)
  have TA : Hid (∀ w : World, Calls Try.prog 24 #[.agg #[.int .i64 x, .int .i64 y], .int .i64 (IntKind.i64.wrap n)] w fun e w' => e = .returned (PtV (turnP (n % 4).toNat x y)) ∧ Below w.heap.size w w') := Lib.hid (fun w => by rw [ew]; exact vturn_any x y n w (in1_62a hx) (in1_62a hy))
  have TB : Hid (∀ w : World, Calls Try.prog 24 #[.agg #[.int .i64 u, .int .i64 v], .int .i64 (IntKind.i64.wrap n)] w fun e w' => e = .returned (PtV (turnP (n % 4).toNat u v)) ∧ Below w.heap.size w w') := Lib.hid (fun w => by rw [ew]; exact vturn_any u v n w (in1_62a hu) (in1_62a hv))
  clear ew
  have DA := Lib.hid (fun w => vdot_any x y u v w hx hy hu hv)
  have CA := Lib.hid (fun w => vcross_any x y u v w hx hy hu hv)
  obtain ⟨ix, iy⟩ := turn_in1 (n % 4).toNat hx hy
  obtain ⟨iu, iv⟩ := turn_in1 (n % 4).toNat hu hv
  have DT := Lib.hid (fun w => vdot_any _ _ _ _ w ix iy iu iv)
  have CT := Lib.hid (fun w => vcross_any _ _ _ _ w ix iy iu iv)
  rw [turn_dot] at DT
  rw [turn_cross] at CT
  obtain ⟨o1, o2⟩ := angle_one hr hs
  have i1 := vdot_in hx hy hu hv
  have i2 : -4294967296 ≤ vcross x y u v ∧ vcross x y u v ≤ 4294967296 := by rw [vcross_dot]; exact vdot_in hx (in1_neg hy) hv hu
  generalize vdot x y u v = d at *
  generalize vcross x y u v = c at *
  have s1 := sq_pos d
  have s2 := sq_pos c
  have hX : ∃ X Y, turnP (n % 4).toNat x y = (X, Y) := ⟨_, _, rfl⟩
  have hU : ∃ U V, turnP (n % 4).toNat u v = (U, V) := ⟨_, _, rfl⟩
  obtain ⟨X, Y, eX⟩ := hX
  obtain ⟨U, V, eU⟩ := hU
  rw [eX] at TA DT CT
  rw [eU] at TB DT CT
  unfold PtV at TA TB
  dsimp only at TA TB DT CT
  clear eX eU ix iy iu iv hr hs hx hy hu hv wn hm i1 i2
  go_enter Try.func9, Try.ntmps9
  go_upto_region 1 with fail
  generalize (w.alloc (.cells #[.int .i64 x, .int .i64 y] 25)).alloc (.cells #[.int .i64 u, .int .i64 v] 25) = w1 at *
  have z00 := HP1.out.c0; have z01 := HP1.out.c1; have z10 := HQ1.out.c0; have z11 := HQ1.out.c1
  go_wp2_with fail
  refine (WK.out _).mono ?_
  rintro e w2 ⟨rfl, b2⟩
  have HB2 := Lib.hid (HB1.out.trans (b2.mono HB1.out.size)); have HP2 := Lib.hid (HP1.out.next b2); have HQ2 := Lib.hid (HQ1.out.next b2)
  clear b2 z00 z01 z10 z11
  have z00 := HP2.out.c0; have z01 := HP2.out.c1; have z10 := HQ2.out.c0; have z11 := HQ2.out.c1
  go_wp2_with fail
  refine (RA.out _).mono ?_
  rintro e w3 ⟨rfl, b3⟩
  have HB3 := Lib.hid (HB2.out.trans (b3.mono HB2.out.size)); have HP3 := Lib.hid (HP2.out.next b3); have HQ3 := Lib.hid (HQ2.out.next b3)
  clear b3 z00 z01 z10 z11
  have z00 := HP3.out.c0; have z01 := HP3.out.c1; have z10 := HQ3.out.c0; have z11 := HQ3.out.c1
  go_wp2_with fail
  refine (RB.out _).mono ?_
  rintro e w4 ⟨rfl, b4⟩
  have HB4 := Lib.hid (HB3.out.trans (b4.mono HB3.out.size)); have HP4 := Lib.hid (HP3.out.next b4); have HQ4 := Lib.hid (HQ3.out.next b4)
  clear b4 z00 z01 z10 z11
  have z00 := HP4.out.c0; have z01 := HP4.out.c1; have z10 := HQ4.out.c0; have z11 := HQ4.out.c1
  go_upto_region 5 with fail
  go_region_held3 (fun w' => w'.cell? ⟨w.heap.size, 0, none⟩ = some (.int .i64 (x)) ∧ w'.cell? ⟨w.heap.size, 1, none⟩ = some (.int .i64 (y)) ∧ w'.cell? ⟨w.heap.size + 1, 0, none⟩ = some (.int .i64 (u)) ∧ w'.cell? ⟨w.heap.size + 1, 1, none⟩ = some (.int .i64 (v))) (first | (refine ⟨?_, ?_, ?_, ?_⟩ <;> with_reducible assumption) | (simp [go_sem, *]; done))
    (first
      | (go_at_call 27; (with_reducible refine (DA.out _).mono ?_); rintro e w5 ⟨rfl, b5⟩; have HB4d := Lib.hid HB4.out.drew; have HP4d : Hid (PBox (w.heap.size) (x) (y) w4.drew) := Lib.hid HP4.out; have HQ4d : Hid (PBox (w.heap.size + 1) (u) (v) w4.drew) := Lib.hid HQ4.out; have HB5 := Lib.hid (HB4d.out.trans (b5.mono HB4d.out.size)); have HP5 := Lib.hid (HP4d.out.next b5); have HQ5 := Lib.hid (HQ4d.out.next b5); have y5_00 : w5.cell? ⟨w.heap.size, 0, none⟩ = some (.int .i64 (x)) := HP5.out.c0; have y5_01 : w5.cell? ⟨w.heap.size, 1, none⟩ = some (.int .i64 (y)) := HP5.out.c1; have y5_10 : w5.cell? ⟨w.heap.size + 1, 0, none⟩ = some (.int .i64 (u)) := HQ5.out.c0; have y5_11 : w5.cell? ⟨w.heap.size + 1, 1, none⟩ = some (.int .i64 (v)) := HQ5.out.c1; clear b5)
      | (go_at_call 25; (with_reducible refine (CA.out _).mono ?_); rintro e w6 ⟨rfl, b6⟩; have HB6 := Lib.hid (HB5.out.trans (b6.mono HB5.out.size)); have HP6 := Lib.hid (HP5.out.next b6); have HQ6 := Lib.hid (HQ5.out.next b6); have y6_00 : w6.cell? ⟨w.heap.size, 0, none⟩ = some (.int .i64 (x)) := HP6.out.c0; have y6_01 : w6.cell? ⟨w.heap.size, 1, none⟩ = some (.int .i64 (y)) := HP6.out.c1; have y6_10 : w6.cell? ⟨w.heap.size + 1, 0, none⟩ = some (.int .i64 (u)) := HQ6.out.c0; have y6_11 : w6.cell? ⟨w.heap.size + 1, 1, none⟩ = some (.int .i64 (v)) := HQ6.out.c1; clear b6))
  go_upto_region 7 with fail
  clear y6_00 y6_01 y6_10 y6_11
  go_cut [10, 11] (fun s0_ s1_ wc => ∃ p q : Nat, s0_ = .pointer (some ⟨p, 0, none⟩) ∧ s1_ = .pointer (some ⟨q, 0, none⟩) ∧ PBox p X Y wc ∧ PBox q U V wc ∧ Below w6.heap.size w6 wc)
  case first =>
    have HBz := Lib.hid (Below.refl w6.heap.size w6)
    have x00 : w6.cell? ⟨w.heap.size, 0, none⟩ = some (.int .i64 x) := HP6.out.c0; have x01 : w6.cell? ⟨w.heap.size, 1, none⟩ = some (.int .i64 y) := HP6.out.c1; have l0 := HP6.out.lt
    have x10 : w6.cell? ⟨w.heap.size + 1, 0, none⟩ = some (.int .i64 u) := HQ6.out.c0; have x11 : w6.cell? ⟨w.heap.size + 1, 1, none⟩ = some (.int .i64 v) := HQ6.out.c1; have l1 := HQ6.out.lt
    go_region_held3 (fun w' => w'.cell? ⟨w.heap.size, 0, none⟩ = some (.int .i64 (x)) ∧ w'.cell? ⟨w.heap.size, 1, none⟩ = some (.int .i64 (y)) ∧ w'.cell? ⟨w.heap.size + 1, 0, none⟩ = some (.int .i64 (u)) ∧ w'.cell? ⟨w.heap.size + 1, 1, none⟩ = some (.int .i64 (v))) (first | ((refine ⟨?_, ?_, ?_, ?_⟩ <;> repeat' (first | with_reducible assumption | (with_reducible refine cell_alloc ?_) | (with_reducible refine cell_far ?_ (by omega)))); done) | (simp [go_sem, *]; done))
      (first
        | (go_at_call 24; (with_reducible refine (TA.out _).mono ?_); rintro e v1 ⟨rfl, bc1⟩; have HBc1 := Lib.hid (HBz.out.drew.trans (bc1.mono HBz.out.drew.size)); have sz0 := HBc1.out.size; have h0_ := HP6.out.next HBc1.out; have y00 : v1.cell? ⟨w.heap.size, 0, none⟩ = some (.int .i64 x) := h0_.c0; have y01 : v1.cell? ⟨w.heap.size, 1, none⟩ = some (.int .i64 y) := h0_.c1; clear h0_; have h1_ := HQ6.out.next HBc1.out; have y10 : v1.cell? ⟨w.heap.size + 1, 0, none⟩ = some (.int .i64 u) := h1_.c0; have y11 : v1.cell? ⟨w.heap.size + 1, 1, none⟩ = some (.int .i64 v) := h1_.c1; clear h1_; clear bc1)
        | (go_at_call 24; (with_reducible refine (TA.out _).mono ?_); rintro e v1 ⟨rfl, bc1⟩; have HBq : Hid (Below w6.heap.size w6 (w6.alloc (.cells #[.int .i64 0, .int .i64 0] 25)).drew) := Lib.hid ((HBz.out.alloc HBz.out.size (.cells #[.int .i64 0, .int .i64 0] 25)).drew); have H1q : Hid (PBox w6.heap.size 0 0 (w6.alloc (.cells #[.int .i64 0, .int .i64 0] 25)).drew) := Lib.hid (PBox.new w6 0 0); have HBc1 := Lib.hid (HBq.out.trans (bc1.mono HBq.out.size)); have HNA1 := Lib.hid (H1q.out.next bc1); have gNA1 := HBz.out.size; have sz0 := HBc1.out.size; have h0_ := HP6.out.next HBc1.out; have y00 : v1.cell? ⟨w.heap.size, 0, none⟩ = some (.int .i64 x) := h0_.c0; have y01 : v1.cell? ⟨w.heap.size, 1, none⟩ = some (.int .i64 y) := h0_.c1; clear h0_; have h1_ := HQ6.out.next HBc1.out; have y10 : v1.cell? ⟨w.heap.size + 1, 0, none⟩ = some (.int .i64 u) := h1_.c0; have y11 : v1.cell? ⟨w.heap.size + 1, 1, none⟩ = some (.int .i64 v) := h1_.c1; clear h1_; clear bc1)
        | (go_at_call 24; (with_reducible refine (TA.out _).mono ?_); rintro e v1 ⟨rfl, bc1⟩; obtain ⟨hp_, hq_, hb_⟩ := boxes_ab w6 0 0 0 0; have HBq : Hid (Below w6.heap.size w6 ((w6.alloc (.cells #[.int .i64 0, .int .i64 0] 25)).alloc (.cells #[.int .i64 0, .int .i64 0] 25)).drew) := Lib.hid ((HBz.out.trans (hb_.mono HBz.out.size)).drew); have H1q : Hid (PBox w6.heap.size 0 0 ((w6.alloc (.cells #[.int .i64 0, .int .i64 0] 25)).alloc (.cells #[.int .i64 0, .int .i64 0] 25)).drew) := Lib.hid hp_; have H2q : Hid (PBox (w6.heap.size + 1) 0 0 ((w6.alloc (.cells #[.int .i64 0, .int .i64 0] 25)).alloc (.cells #[.int .i64 0, .int .i64 0] 25)).drew) := Lib.hid hq_; clear hp_ hq_ hb_; have HBc1 := Lib.hid (HBq.out.trans (bc1.mono HBq.out.size)); have HNA1 := Lib.hid (H1q.out.next bc1); have HNA2 := Lib.hid (H2q.out.next bc1); have gNA1 := HBz.out.size; have sz0 := HBc1.out.size; have h0_ := HP6.out.next HBc1.out; have y00 : v1.cell? ⟨w.heap.size, 0, none⟩ = some (.int .i64 x) := h0_.c0; have y01 : v1.cell? ⟨w.heap.size, 1, none⟩ = some (.int .i64 y) := h0_.c1; clear h0_; have h1_ := HQ6.out.next HBc1.out; have y10 : v1.cell? ⟨w.heap.size + 1, 0, none⟩ = some (.int .i64 u) := h1_.c0; have y11 : v1.cell? ⟨w.heap.size + 1, 1, none⟩ = some (.int .i64 v) := h1_.c1; clear h1_; clear bc1)
        | (go_at_call 24; (with_reducible refine (TB.out _).mono ?_); rintro e v2 ⟨rfl, bc2⟩; have HBc2 := Lib.hid (HBc1.out.trans (bc2.mono HBc1.out.size)); (try (have tA1 := HNA1.out.lt)); (try (have tA2 := HNA2.out.lt)); (try (have HNx := Lib.hid (HNA1.out.next bc2); clear HNA1; have HNA1 := HNx)); (try (have HNx := Lib.hid (HNA2.out.next bc2); clear HNA2; have HNA2 := HNx)); have sz1 := HBc2.out.size; have h0_ := HP6.out.next HBc2.out; have y00 : v2.cell? ⟨w.heap.size, 0, none⟩ = some (.int .i64 x) := h0_.c0; have y01 : v2.cell? ⟨w.heap.size, 1, none⟩ = some (.int .i64 y) := h0_.c1; clear h0_; have h1_ := HQ6.out.next HBc2.out; have y10 : v2.cell? ⟨w.heap.size + 1, 0, none⟩ = some (.int .i64 u) := h1_.c0; have y11 : v2.cell? ⟨w.heap.size + 1, 1, none⟩ = some (.int .i64 v) := h1_.c1; clear h1_; (try (have uNA10 := HNA1.out.c0; have uNA11 := HNA1.out.c1; have rNA10 := HNA1.out.z 0; have rNA11 := HNA1.out.z 1; have tNA1 := HNA1.out.lt)); (try (have uNA20 := HNA2.out.c0; have uNA21 := HNA2.out.c1; have rNA20 := HNA2.out.z 0; have rNA21 := HNA2.out.z 1; have tNA2 := HNA2.out.lt)); (try (have uNB10 := HNB1.out.c0; have uNB11 := HNB1.out.c1; have rNB10 := HNB1.out.z 0; have rNB11 := HNB1.out.z 1; have tNB1 := HNB1.out.lt)); (try (have uNB20 := HNB2.out.c0; have uNB21 := HNB2.out.c1; have rNB20 := HNB2.out.z 0; have rNB21 := HNB2.out.z 1; have tNB2 := HNB2.out.lt)); (try (have f_NA1_NB1 : ¬ w6.heap.size = v1.heap.size := by omega; have f'_NA1_NB1 : ¬ v1.heap.size = w6.heap.size := by omega)); (try (have f_NA1_NB2 : ¬ w6.heap.size = v1.heap.size + 1 := by omega; have f'_NA1_NB2 : ¬ v1.heap.size + 1 = w6.heap.size := by omega)); (try (have f_NA2_NB1 : ¬ w6.heap.size + 1 = v1.heap.size := by omega; have f'_NA2_NB1 : ¬ v1.heap.size = w6.heap.size + 1 := by omega)); (try (have f_NA2_NB2 : ¬ w6.heap.size + 1 = v1.heap.size + 1 := by omega; have f'_NA2_NB2 : ¬ v1.heap.size + 1 = w6.heap.size + 1 := by omega)); (try (have t_ := tNA1; have k_NA1_0 : ¬ w6.heap.size = v2.heap.size := by omega; have k'_NA1_0 : ¬ v2.heap.size = w6.heap.size := by omega; clear t_)); (try (have t_ := tNA1; have k_NA1_1 : ¬ w6.heap.size = v2.heap.size + 1 := by omega; have k'_NA1_1 : ¬ v2.heap.size + 1 = w6.heap.size := by omega; clear t_)); (try (have t_ := tNA2; have k_NA2_0 : ¬ w6.heap.size + 1 = v2.heap.size := by omega; have k'_NA2_0 : ¬ v2.heap.size = w6.heap.size + 1 := by omega; clear t_)); (try (have t_ := tNA2; have k_NA2_1 : ¬ w6.heap.size + 1 = v2.heap.size + 1 := by omega; have k'_NA2_1 : ¬ v2.heap.size + 1 = w6.heap.size + 1 := by omega; clear t_)); (try (have t_ := tNB1; have k_NB1_0 : ¬ v1.heap.size = v2.heap.size := by omega; have k'_NB1_0 : ¬ v2.heap.size = v1.heap.size := by omega; clear t_)); (try (have t_ := tNB1; have k_NB1_1 : ¬ v1.heap.size = v2.heap.size + 1 := by omega; have k'_NB1_1 : ¬ v2.heap.size + 1 = v1.heap.size := by omega; clear t_)); (try (have t_ := tNB2; have k_NB2_0 : ¬ v1.heap.size + 1 = v2.heap.size := by omega; have k'_NB2_0 : ¬ v2.heap.size = v1.heap.size + 1 := by omega; clear t_)); (try (have t_ := tNB2; have k_NB2_1 : ¬ v1.heap.size + 1 = v2.heap.size + 1 := by omega; have k'_NB2_1 : ¬ v2.heap.size + 1 = v1.heap.size + 1 := by omega; clear t_)); clear bc2)
        | (go_at_call 24; (with_reducible refine (TB.out _).mono ?_); rintro e v2 ⟨rfl, bc2⟩; have HBq : Hid (Below w6.heap.size w6 (v1.alloc (.cells #[.int .i64 0, .int .i64 0] 25))) := Lib.hid ((HBc1.out.alloc HBc1.out.size (.cells #[.int .i64 0, .int .i64 0] 25))); have H1q : Hid (PBox v1.heap.size 0 0 (v1.alloc (.cells #[.int .i64 0, .int .i64 0] 25))) := Lib.hid (PBox.new v1 0 0); have HBc2 := Lib.hid (HBq.out.trans (bc2.mono HBq.out.size)); have HNB1 := Lib.hid (H1q.out.next bc2); have gNB1 := HBc1.out.size; (try (have tA1 := HNA1.out.lt)); (try (have tA2 := HNA2.out.lt)); (try (have HNx := Lib.hid (HNA1.out.next ((Below.refl v1.heap.size v1).alloc (Nat.le_refl _) (.cells #[.int .i64 0, .int .i64 0] 25) |>.trans (bc2.mono (by simp)))); clear HNA1; have HNA1 := HNx)); (try (have HNx := Lib.hid (HNA2.out.next ((Below.refl v1.heap.size v1).alloc (Nat.le_refl _) (.cells #[.int .i64 0, .int .i64 0] 25) |>.trans (bc2.mono (by simp)))); clear HNA2; have HNA2 := HNx)); have sz1 := HBc2.out.size; have h0_ := HP6.out.next HBc2.out; have y00 : v2.cell? ⟨w.heap.size, 0, none⟩ = some (.int .i64 x) := h0_.c0; have y01 : v2.cell? ⟨w.heap.size, 1, none⟩ = some (.int .i64 y) := h0_.c1; clear h0_; have h1_ := HQ6.out.next HBc2.out; have y10 : v2.cell? ⟨w.heap.size + 1, 0, none⟩ = some (.int .i64 u) := h1_.c0; have y11 : v2.cell? ⟨w.heap.size + 1, 1, none⟩ = some (.int .i64 v) := h1_.c1; clear h1_; (try (have uNA10 := HNA1.out.c0; have uNA11 := HNA1.out.c1; have rNA10 := HNA1.out.z 0; have rNA11 := HNA1.out.z 1; have tNA1 := HNA1.out.lt)); (try (have uNA20 := HNA2.out.c0; have uNA21 := HNA2.out.c1; have rNA20 := HNA2.out.z 0; have rNA21 := HNA2.out.z 1; have tNA2 := HNA2.out.lt)); (try (have uNB10 := HNB1.out.c0; have uNB11 := HNB1.out.c1; have rNB10 := HNB1.out.z 0; have rNB11 := HNB1.out.z 1; have tNB1 := HNB1.out.lt)); (try (have uNB20 := HNB2.out.c0; have uNB21 := HNB2.out.c1; have rNB20 := HNB2.out.z 0; have rNB21 := HNB2.out.z 1; have tNB2 := HNB2.out.lt)); (try (have f_NA1_NB1 : ¬ w6.heap.size = v1.heap.size := by omega; have f'_NA1_NB1 : ¬ v1.heap.size = w6.heap.size := by omega)); (try (have f_NA1_NB2 : ¬ w6.heap.size = v1.heap.size + 1 := by omega; have f'_NA1_NB2 : ¬ v1.heap.size + 1 = w6.heap.size := by omega)); (try (have f_NA2_NB1 : ¬ w6.heap.size + 1 = v1.heap.size := by omega; have f'_NA2_NB1 : ¬ v1.heap.size = w6.heap.size + 1 := by omega)); (try (have f_NA2_NB2 : ¬ w6.heap.size + 1 = v1.heap.size + 1 := by omega; have f'_NA2_NB2 : ¬ v1.heap.size + 1 = w6.heap.size + 1 := by omega)); (try (have t_ := tNA1; have k_NA1_0 : ¬ w6.heap.size = v2.heap.size := by omega; have k'_NA1_0 : ¬ v2.heap.size = w6.heap.size := by omega; clear t_)); (try (have t_ := tNA1; have k_NA1_1 : ¬ w6.heap.size = v2.heap.size + 1 := by omega; have k'_NA1_1 : ¬ v2.heap.size + 1 = w6.heap.size := by omega; clear t_)); (try (have t_ := tNA2; have k_NA2_0 : ¬ w6.heap.size + 1 = v2.heap.size := by omega; have k'_NA2_0 : ¬ v2.heap.size = w6.heap.size + 1 := by omega; clear t_)); (try (have t_ := tNA2; have k_NA2_1 : ¬ w6.heap.size + 1 = v2.heap.size + 1 := by omega; have k'_NA2_1 : ¬ v2.heap.size + 1 = w6.heap.size + 1 := by omega; clear t_)); (try (have t_ := tNB1; have k_NB1_0 : ¬ v1.heap.size = v2.heap.size := by omega; have k'_NB1_0 : ¬ v2.heap.size = v1.heap.size := by omega; clear t_)); (try (have t_ := tNB1; have k_NB1_1 : ¬ v1.heap.size = v2.heap.size + 1 := by omega; have k'_NB1_1 : ¬ v2.heap.size + 1 = v1.heap.size := by omega; clear t_)); (try (have t_ := tNB2; have k_NB2_0 : ¬ v1.heap.size + 1 = v2.heap.size := by omega; have k'_NB2_0 : ¬ v2.heap.size = v1.heap.size + 1 := by omega; clear t_)); (try (have t_ := tNB2; have k_NB2_1 : ¬ v1.heap.size + 1 = v2.heap.size + 1 := by omega; have k'_NB2_1 : ¬ v2.heap.size + 1 = v1.heap.size + 1 := by omega; clear t_)); clear bc2)
        | (go_at_call 24; (with_reducible refine (TB.out _).mono ?_); rintro e v2 ⟨rfl, bc2⟩; obtain ⟨hp_, hq_, hb_⟩ := boxes_ab v1 0 0 0 0; have HBq : Hid (Below w6.heap.size w6 ((v1.alloc (.cells #[.int .i64 0, .int .i64 0] 25)).alloc (.cells #[.int .i64 0, .int .i64 0] 25))) := Lib.hid ((HBc1.out.trans (hb_.mono HBc1.out.size))); have H1q : Hid (PBox v1.heap.size 0 0 ((v1.alloc (.cells #[.int .i64 0, .int .i64 0] 25)).alloc (.cells #[.int .i64 0, .int .i64 0] 25))) := Lib.hid hp_; have H2q : Hid (PBox (v1.heap.size + 1) 0 0 ((v1.alloc (.cells #[.int .i64 0, .int .i64 0] 25)).alloc (.cells #[.int .i64 0, .int .i64 0] 25))) := Lib.hid hq_; clear hp_ hq_ hb_; have HBc2 := Lib.hid (HBq.out.trans (bc2.mono HBq.out.size)); have HNB1 := Lib.hid (H1q.out.next bc2); have HNB2 := Lib.hid (H2q.out.next bc2); have gNB1 := HBc1.out.size; (try (have tA1 := HNA1.out.lt)); (try (have tA2 := HNA2.out.lt)); (try (have HNx := Lib.hid (HNA1.out.next ((Below.refl v1.heap.size v1).alloc (Nat.le_refl _) (.cells #[.int .i64 0, .int .i64 0] 25) |>.trans (bc2.mono (by simp)))); clear HNA1; have HNA1 := HNx)); (try (have HNx := Lib.hid (HNA2.out.next ((Below.refl v1.heap.size v1).alloc (Nat.le_refl _) (.cells #[.int .i64 0, .int .i64 0] 25) |>.trans (bc2.mono (by simp)))); clear HNA2; have HNA2 := HNx)); have sz1 := HBc2.out.size; have h0_ := HP6.out.next HBc2.out; have y00 : v2.cell? ⟨w.heap.size, 0, none⟩ = some (.int .i64 x) := h0_.c0; have y01 : v2.cell? ⟨w.heap.size, 1, none⟩ = some (.int .i64 y) := h0_.c1; clear h0_; have h1_ := HQ6.out.next HBc2.out; have y10 : v2.cell? ⟨w.heap.size + 1, 0, none⟩ = some (.int .i64 u) := h1_.c0; have y11 : v2.cell? ⟨w.heap.size + 1, 1, none⟩ = some (.int .i64 v) := h1_.c1; clear h1_; (try (have uNA10 := HNA1.out.c0; have uNA11 := HNA1.out.c1; have rNA10 := HNA1.out.z 0; have rNA11 := HNA1.out.z 1; have tNA1 := HNA1.out.lt)); (try (have uNA20 := HNA2.out.c0; have uNA21 := HNA2.out.c1; have rNA20 := HNA2.out.z 0; have rNA21 := HNA2.out.z 1; have tNA2 := HNA2.out.lt)); (try (have uNB10 := HNB1.out.c0; have uNB11 := HNB1.out.c1; have rNB10 := HNB1.out.z 0; have rNB11 := HNB1.out.z 1; have tNB1 := HNB1.out.lt)); (try (have uNB20 := HNB2.out.c0; have uNB21 := HNB2.out.c1; have rNB20 := HNB2.out.z 0; have rNB21 := HNB2.out.z 1; have tNB2 := HNB2.out.lt)); (try (have f_NA1_NB1 : ¬ w6.heap.size = v1.heap.size := by omega; have f'_NA1_NB1 : ¬ v1.heap.size = w6.heap.size := by omega)); (try (have f_NA1_NB2 : ¬ w6.heap.size = v1.heap.size + 1 := by omega; have f'_NA1_NB2 : ¬ v1.heap.size + 1 = w6.heap.size := by omega)); (try (have f_NA2_NB1 : ¬ w6.heap.size + 1 = v1.heap.size := by omega; have f'_NA2_NB1 : ¬ v1.heap.size = w6.heap.size + 1 := by omega)); (try (have f_NA2_NB2 : ¬ w6.heap.size + 1 = v1.heap.size + 1 := by omega; have f'_NA2_NB2 : ¬ v1.heap.size + 1 = w6.heap.size + 1 := by omega)); (try (have t_ := tNA1; have k_NA1_0 : ¬ w6.heap.size = v2.heap.size := by omega; have k'_NA1_0 : ¬ v2.heap.size = w6.heap.size := by omega; clear t_)); (try (have t_ := tNA1; have k_NA1_1 : ¬ w6.heap.size = v2.heap.size + 1 := by omega; have k'_NA1_1 : ¬ v2.heap.size + 1 = w6.heap.size := by omega; clear t_)); (try (have t_ := tNA2; have k_NA2_0 : ¬ w6.heap.size + 1 = v2.heap.size := by omega; have k'_NA2_0 : ¬ v2.heap.size = w6.heap.size + 1 := by omega; clear t_)); (try (have t_ := tNA2; have k_NA2_1 : ¬ w6.heap.size + 1 = v2.heap.size + 1 := by omega; have k'_NA2_1 : ¬ v2.heap.size + 1 = w6.heap.size + 1 := by omega; clear t_)); (try (have t_ := tNB1; have k_NB1_0 : ¬ v1.heap.size = v2.heap.size := by omega; have k'_NB1_0 : ¬ v2.heap.size = v1.heap.size := by omega; clear t_)); (try (have t_ := tNB1; have k_NB1_1 : ¬ v1.heap.size = v2.heap.size + 1 := by omega; have k'_NB1_1 : ¬ v2.heap.size + 1 = v1.heap.size := by omega; clear t_)); (try (have t_ := tNB2; have k_NB2_0 : ¬ v1.heap.size + 1 = v2.heap.size := by omega; have k'_NB2_0 : ¬ v2.heap.size = v1.heap.size + 1 := by omega; clear t_)); (try (have t_ := tNB2; have k_NB2_1 : ¬ v1.heap.size + 1 = v2.heap.size + 1 := by omega; have k'_NB2_1 : ¬ v2.heap.size + 1 = v1.heap.size + 1 := by omega; clear t_)); clear bc2))
    all_goals
      go_wp2_with fail
      go_meet
      first
      | (have k_ := boxes_ab v2 X Y U V; with_reducible exact ⟨_, _, rfl, rfl, k_.1, k_.2.1, HBc2.out.trans (k_.2.2.mono HBc2.out.size)⟩)
      | (have k_ := boxes_ab v2 U V X Y; with_reducible exact ⟨_, _, rfl, rfl, k_.2.1, k_.1, HBc2.out.trans (k_.2.2.mono HBc2.out.size)⟩)
      | (have k_ := one_new (X := X) (Y := Y) (U := U) (V := V) HNA1.out HBc2.out (by omega); with_reducible exact ⟨_, _, rfl, rfl, k_.1, k_.2.1, k_.2.2⟩)
      | (have k_ := one_new (X := U) (Y := V) (U := X) (V := Y) HNA1.out HBc2.out (by omega); with_reducible exact ⟨_, _, rfl, rfl, k_.2.1, k_.1, k_.2.2⟩)
      | (have k_ := one_new (X := X) (Y := Y) (U := U) (V := V) HNB1.out HBc2.out (by omega); with_reducible exact ⟨_, _, rfl, rfl, k_.1, k_.2.1, k_.2.2⟩)
      | (have k_ := one_new (X := U) (Y := V) (U := X) (V := Y) HNB1.out HBc2.out (by omega); with_reducible exact ⟨_, _, rfl, rfl, k_.2.1, k_.1, k_.2.2⟩)
      | (have k_ := two_set (X := X) (Y := Y) (U := U) (V := V) HNA1.out HNA2.out (by omega) HBc2.out (by omega) (by omega); with_reducible exact ⟨_, _, rfl, rfl, k_.1, k_.2.1, k_.2.2⟩)
      | (have k_ := two_set (X := X) (Y := Y) (U := U) (V := V) HNA2.out HNA1.out (by omega) HBc2.out (by omega) (by omega); with_reducible exact ⟨_, _, rfl, rfl, k_.1, k_.2.1, k_.2.2⟩)
      | (have k_ := two_set (X := X) (Y := Y) (U := U) (V := V) HNA1.out HNB1.out (by omega) HBc2.out (by omega) (by omega); with_reducible exact ⟨_, _, rfl, rfl, k_.1, k_.2.1, k_.2.2⟩)
      | (have k_ := two_set (X := X) (Y := Y) (U := U) (V := V) HNB1.out HNA1.out (by omega) HBc2.out (by omega) (by omega); with_reducible exact ⟨_, _, rfl, rfl, k_.1, k_.2.1, k_.2.2⟩)
      | (have k_ := two_set (X := X) (Y := Y) (U := U) (V := V) HNB1.out HNB2.out (by omega) HBc2.out (by omega) (by omega); with_reducible exact ⟨_, _, rfl, rfl, k_.1, k_.2.1, k_.2.2⟩)
      | (have k_ := two_set (X := X) (Y := Y) (U := U) (V := V) HNB2.out HNB1.out (by omega) HBc2.out (by omega) (by omega); with_reducible exact ⟨_, _, rfl, rfl, k_.1, k_.2.1, k_.2.2⟩)
  case rest =>
    obtain ⟨p, q, rfl, rfl, hp_, hq_, hb_⟩ := hcut
    have HB7 := Lib.hid (HB6.out.trans (hb_.mono HB6.out.size))
    have HX7 := Lib.hid hp_
    have HY7 := Lib.hid hq_
    clear hp_ hq_ hb_ TA TB DA CA
    generalize wc = w7 at *
    have z00 := HX7.out.c0; have z01 := HX7.out.c1; have z10 := HY7.out.c0; have z11 := HY7.out.c1
    go_wp2_with fail
    refine (DT.out _).mono ?_
    rintro e w8 ⟨rfl, b8⟩
    have HB8 := Lib.hid (HB7.out.trans (b8.mono HB7.out.size)); have HX8 := Lib.hid (HX7.out.next b8); have HY8 := Lib.hid (HY7.out.next b8)
    clear b8 z00 z01 z10 z11
    have z00 := HX8.out.c0; have z01 := HX8.out.c1; have z10 := HY8.out.c0; have z11 := HY8.out.c1
    go_wp2_with fail
    refine (CT.out _).mono ?_
    rintro e w9 ⟨rfl, b9⟩
    have HB9 := Lib.hid (HB8.out.trans (b9.mono HB8.out.size)); have HX9 := Lib.hid (HX8.out.next b9); have HY9 := Lib.hid (HY8.out.next b9)
    clear b9 z00 z01 z10 z11
    have z00 := HX9.out.c0; have z01 := HX9.out.c1; have z10 := HY9.out.c0; have z11 := HY9.out.c1
    go_wp2_with fail
    go_ret
    exact ⟨rfl, HB9.out⟩
set_option maxRecDepth 100000 in
theorem lifted (os : Os) (started : os.Started) (H : Type) (enc : TypeId × Value → H) :
    ReturnsInHanded {} Try.checked os 9 .any (Rows.vecAnglesSpec.pre6 enc Try.prog Try.f9 Rows.vecAnglesRow.domain false) (Rows.vecAnglesSpec.post enc Try.prog Try.f9 false true false false) := by
  refine returnsInHanded_of_change (C := Try.checked) own started (by kernel_rfl) Try.func9
    (ChangeSpec.witness6 (enc := enc) (C := Try.checked) false ⟨#[], #[.agg #[.int .i64 0, .int .i64 0], .agg #[.int .i64 0, .int .i64 0], .int .u8 0], []⟩ 8 (by kernel_rfl) (by kernel_rfl) (by kernel_rfl) (by kernel_rfl)) ?_
  intro W base args ds gs before hval0 hW hcnd _
  have hval : ∀ (j : Nat) t v, Try.f9.params[j]? = some t → args[j]? = some v → Value.okWide Try.prog W .any base t v := hval0
  have hW' := hW
  obtain ⟨p, q, hA0, hV, rfl, hfz, hnd⟩ := hW
  have hA : DataW.TrodAll enc Try.prog W 0 (fun _ => true) true Try.f9.params.toList args.toList ds p := hA0
  rw [Try.params9] at hA hval
  obtain ⟨v0, v1, v2, d0, d1, d2, p0, p1, p2, rfl, rfl, rfl, h0, h1, h2⟩ := trodAll_three hA
  obtain ⟨rfl, rfl⟩ := trodVars_none hV
  obtain ⟨x0, y0, rfl, wx0, wy0⟩ := pt_of_trod Try.underlying25 (by kernel_rfl) (by kernel_rfl) Try.underlying2 Try.underlying2 (hval 0 25 v0 rfl rfl) h0
  obtain ⟨x1, y1, rfl, wx1, wy1⟩ := pt_of_trod Try.underlying25 (by kernel_rfl) (by kernel_rfl) Try.underlying2 Try.underlying2 (hval 1 25 v1 rfl rfl) h1
  obtain ⟨a2, rfl, rfl, rfl, w2⟩ := open_int Try.underlying5 (hval 2 5 v2 rfl rfl) h2
  clear hA0 hval0
  simp only [List.append_nil] at hW'
  have lt0 : ∀ x ∈ p0, x.block < W.heap.size := fun x hx => hW'.lt x (by simp [hx])
  have lt1 : ∀ x ∈ p1, x.block < W.heap.size := fun x hx => hW'.lt x (by simp [hx])
  refine (walk x0 y0 wx0 wy0 x1 y1 wx1 wy1 a2 w2 W).mono fun e W' ⟨he, hg⟩ => ?_
  subst he
  have b0' := Below.trod laidOut (by kernel_rfl) (of_decide_eq_true (by kernel_rfl)) h0 hg lt0
  have b1' := Below.trod laidOut (by kernel_rfl) (of_decide_eq_true (by kernel_rfl)) h1 hg lt1
  exact ⟨_, rfl, ⟨_, _, _, [], _, [], hW', trodAll_mk1 (shut_bool Try.underlying4 _), trodAll_mk3 b0' b1' (shut_int Try.underlying5 w2), rfl, hg.frame _, fun h => by cases h⟩⟩

/-- The given statement. -/
theorem proved : Rows.VecAnglesSaid :=
  OpenClaim.holds_of_wide 9 Try.f9 rfl rfl rfl rfl rfl rfl rfl ⟨rfl, rfl, rfl, rfl, rfl⟩ rfl rfl rfl rfl rfl (by kernel_rfl) Try.func9 (by kernel_rfl)
    (of_decide_eq_true (by kernel_rfl)) (by unfold Func.isWrapper; first | (rw [if_pos (by decide +kernel)]; kernel_rfl) | (rw [if_neg (by decide +kernel)]; exact ⟨rfl, rfl⟩))
    (fun os started H enc _ => lifted os started H enc)
end Go.Proofs.Ythnjdncnmdmjaaa.vecAngles
