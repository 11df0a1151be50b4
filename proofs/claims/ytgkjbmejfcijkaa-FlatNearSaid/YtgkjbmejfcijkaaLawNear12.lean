/-
  Layer 12's laws: is a point near a line? (Typed by a program: wip/gen_near12.py.)
-/
import Derived.Test.YtgkjbmejfcijkaaFlatNearM
import Derived.Test.YtgkjbmejfcijkaaJRt
import Derived.Test.YtgkjbmejfcijkaaJCv
import Derived.Deep.DeepCutAuto
namespace Go.Proofs.Ytgkjbmejfcijkaa
open Go.RowKit Go.Shelf

/-- The walk of near, over what it works out. -/
structure NearF (ax ay bx by1 px py dx dy qx qy h : Int) (N : Nat) (U V CR X Y AL h1 K KN h2 L : Int) : Prop where
  e1 : IntKind.i64.wrap (bx - ax) = dx
  e2 : IntKind.i64.wrap (by1 - ay) = dy
  e3 : IntKind.i64.wrap (px - ax) = qx
  e4 : IntKind.i64.wrap (py - ay) = qy
  e5 : ((rt N : Nat) : Int) = h
  e6 : wrap64 h = h
  e7 : wrap64 (dx * qy) = U
  e8 : wrap64 (dy * qx) = V
  e9 : wrap64 (U - V) = CR
  e10 : wrap64 (dx * qx) = X
  e11 : wrap64 (dy * qy) = Y
  e12 : wrap64 (X + Y) = AL
  e13 : wrap64 (h + 1) = h1
  e14 : wrap64 (1024 * h1) = K
  e15 : wrap64 (-1024 * h1) = KN
  e15b : wrap64 (-(1024 * h1)) = KN
  e16 : wrap64 (h + 1025) = h2
  e17 : wrap64 (h2 * h1) = L
  c1 : CR ≤ K
  c2 : KN ≤ CR
  c3 : KN ≤ AL
  c4 : AL ≤ L
  z : h = 0 → (qx ≤ 1024 ∧ -1024 ≤ qx) ∧ (qy ≤ 1024 ∧ -1024 ≤ qy)
  n : N = dx.natAbs * dx.natAbs + dy.natAbs * dy.natAbs
  i1 : I64 dx
  i2 : I64 dy
set_option maxHeartbeats 8000000 in
set_option maxRecDepth 100000 in
theorem near_walk {ax ay bx by1 px py dx dy qx qy h : Int} {N : Nat} {U V CR X Y AL h1 K KN h2 L : Int} (F : NearF ax ay bx by1 px py dx dy qx qy h N U V CR X Y AL h1 K KN h2 L) (w : World) :
    Calls Try.prog 19 #[.agg #[.int .i64 ax, .int .i64 ay], .agg #[.int .i64 bx, .int .i64 by1], .agg #[.int .i64 px, .int .i64 py]] w fun e w' => e = .returned (.bool true) ∧ Below w.heap.size w w' := by
  have SQ := Lib.hid (fun w => squares_z dx dy w F.i1 F.i2)
  have hN : N < 340282366920938463463374607431768211456 := by
    rw [F.n]
    have a := Nat.mul_le_mul (sq_abs dx F.i1) (sq_abs dx F.i1)
    have b := Nat.mul_le_mul (sq_abs dy F.i2) (sq_abs dy F.i2)
    omega
  have RO := Lib.hid (fun v w h => root2_any v N w hN h)
  rw [← F.n] at SQ
  rw [F.e5] at RO
  have hz := Lib.hid F.z
  have e1 := F.e1; have e2 := F.e2; have e3 := F.e3; have e4 := F.e4; have e6 := F.e6; have e7 := F.e7; have e8 := F.e8; have e9 := F.e9; have e10 := F.e10; have e11 := F.e11; have e12 := F.e12; have e13 := F.e13; have e14 := F.e14; have e15 := F.e15; have e15b := F.e15b; have e16 := F.e16; have e17 := F.e17
  have c1 := F.c1; have c2 := F.c2; have c3 := F.c3; have c4 := F.c4
  clear F hN
  obtain ⟨k1, k2, k3, k4⟩ := boxes_three w #[.int .i64 ax, .int .i64 ay] #[.int .i64 bx, .int .i64 by1] #[.int .i64 px, .int .i64 py] 23 23 23
  have HA0 := Lib.hid k1; have HD0 := Lib.hid k2; have HP0 := Lib.hid k3; have HB0 := Lib.hid k4
  clear k1 k2 k3 k4
  go_enter Try.func19, Try.ntmps19
  go_upto_region 1 with fail
  generalize (((w.alloc (.cells #[.int .i64 ax, .int .i64 ay] 23)).alloc (.cells #[.int .i64 bx, .int .i64 by1] 23)).alloc (.cells #[.int .i64 px, .int .i64 py] 23)) = w1 at *
  go_cut [7, 8] (fun s1 s2 wc => s1 = .int .i64 dx ∧ s2 = .int .i64 dy ∧ Below w1.heap.size w1 wc)
  case first =>
    have xA0 : w1.cell? ⟨w.heap.size, 0, none⟩ = some (.int .i64 ax) := HA0.out.c 0 rfl
    have xA1 : w1.cell? ⟨w.heap.size, 1, none⟩ = some (.int .i64 ay) := HA0.out.c 1 rfl
    have xD0 : w1.cell? ⟨w.heap.size + 1, 0, none⟩ = some (.int .i64 bx) := HD0.out.c 0 rfl
    have xD1 : w1.cell? ⟨w.heap.size + 1, 1, none⟩ = some (.int .i64 by1) := HD0.out.c 1 rfl
    have HBz := Lib.hid (Below.refl w1.heap.size w1)
    go_region_held3 (fun w' => w'.cell? ⟨w.heap.size, 0, none⟩ = some (.int .i64 ax) ∧ w'.cell? ⟨w.heap.size, 1, none⟩ = some (.int .i64 ay) ∧ w'.cell? ⟨w.heap.size + 1, 0, none⟩ = some (.int .i64 bx) ∧ w'.cell? ⟨w.heap.size + 1, 1, none⟩ = some (.int .i64 by1)) (first | (refine ⟨?_, ?_, ?_, ?_⟩ <;> first | with_reducible assumption) | (simp [go_sem, *]; done)) (fail)
    all_goals
      go_wp2_with fail
      go_meet
      exact ⟨rfl, rfl, HBz.out.drew⟩
  case rest =>
    obtain ⟨rfl, rfl, b1⟩ := hcut
    have HB1 := Lib.hid (HB0.out.trans (b1.mono HB0.out.size))
    have HA1 := Lib.hid (HA0.out.next b1)
    have HD1 := Lib.hid (HD0.out.next b1)
    have HP1 := Lib.hid (HP0.out.next b1)
    clear b1
    generalize wc = w2 at *
    go_upto_region 2 with fail
    go_cut [9, 10] (fun s1 s2 wc => s1 = .int .i64 qx ∧ s2 = .int .i64 qy ∧ Below w2.heap.size w2 wc)
    case first =>
      have xA0 : w2.cell? ⟨w.heap.size, 0, none⟩ = some (.int .i64 ax) := HA1.out.c 0 rfl
      have xA1 : w2.cell? ⟨w.heap.size, 1, none⟩ = some (.int .i64 ay) := HA1.out.c 1 rfl
      have xP0 : w2.cell? ⟨w.heap.size + 1 + 1, 0, none⟩ = some (.int .i64 px) := HP1.out.c 0 rfl
      have xP1 : w2.cell? ⟨w.heap.size + 1 + 1, 1, none⟩ = some (.int .i64 py) := HP1.out.c 1 rfl
      have HBz := Lib.hid (Below.refl w2.heap.size w2)
      go_region_held3 (fun w' => w'.cell? ⟨w.heap.size, 0, none⟩ = some (.int .i64 ax) ∧ w'.cell? ⟨w.heap.size, 1, none⟩ = some (.int .i64 ay) ∧ w'.cell? ⟨w.heap.size + 1 + 1, 0, none⟩ = some (.int .i64 px) ∧ w'.cell? ⟨w.heap.size + 1 + 1, 1, none⟩ = some (.int .i64 py)) (first | (refine ⟨?_, ?_, ?_, ?_⟩ <;> first | with_reducible assumption) | (simp [go_sem, *]; done)) (fail)
      all_goals
        go_wp2_with fail
        go_meet
        exact ⟨rfl, rfl, HBz.out.drew⟩
    case rest =>
      obtain ⟨rfl, rfl, b2⟩ := hcut
      have HB2 := Lib.hid (HB1.out.trans (b2.mono HB1.out.size))
      have HA2 := Lib.hid (HA1.out.next b2)
      have HD2 := Lib.hid (HD1.out.next b2)
      have HP2 := Lib.hid (HP1.out.next b2)
      clear b2
      generalize wc = w3 at *
      clear e1 e2 e3 e4
      clear HA0 HA1 HA2 HD0 HD1 HD2 HP0 HP1 HP2
      go_wp2_with fail
      refine (SQ.out _).mono ?_
      rintro e w4 ⟨v, rfl, n3, b3⟩
      have N3 := Lib.hid n3
      clear n3
      have HB3 := Lib.hid (HB2.out.trans (b3.mono HB2.out.size))
      clear b3
      go_wp2_with fail
      refine (RO.out _ _ N3.out).mono ?_
      rintro e w5 ⟨rfl, b4⟩
      have HB4 := Lib.hid (HB3.out.trans (b4.mono HB3.out.size))
      clear b4
      clear SQ RO N3
      by_cases h0 : h = 0
      · obtain ⟨⟨d1, d2⟩, d3, d4⟩ := hz.out h0
        clear e7 e8 e9 e10 e11 e12 e13 e14 e15 e15b e16 e17 c1 c2 c3 c4
        subst h0
        go_wp2_with fail
        go_ret
        exact ⟨rfl, HB4.out⟩
      · have h0b : (h == 0) = false := beq_eq_false_iff_ne.2 h0
        go_wp2_with fail
        go_ret
        exact ⟨rfl, HB4.out⟩
end Go.Proofs.Ytgkjbmejfcijkaa
