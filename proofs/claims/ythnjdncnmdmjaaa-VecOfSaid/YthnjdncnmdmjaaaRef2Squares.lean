/-
  The contract of the document's answer for layer 2: Squares, x x + y y.
-/
import Derived.Test.YthnjdncnmdmjaaaRef2Above
namespace Go.Proofs.Ythnjdncnmdmjaaa
open Go.RowKit Go.Shelf

theorem sq_abs (x : Int) (h : I64 x) : x.natAbs ≤ 9223372036854775808 := by unfold I64 at h; omega
theorem sq_big (x : Int) (h : I64 x) : (x * x).natAbs ≤ 85070591730234615865843651857942052864 := by
  rw [Int.natAbs_mul]
  exact Nat.mul_le_mul (sq_abs x h) (sq_abs x h)
theorem sq_nat (x : Int) : x * x = ((x.natAbs * x.natAbs : Nat) : Int) := by rw [Int.natCast_mul, Int.natAbs_mul_self']

set_option maxHeartbeats 4000000 in
set_option maxRecDepth 100000 in
theorem squares_z (x y : Int) (w : World) (hx : I64 x) (hy : I64 y) :
    Calls Try.prog 47 #[.int .i64 x, .int .i64 y] w (GivesZ ((x.natAbs * x.natAbs + y.natAbs * y.natAbs : Nat) : Int) w) := by
  have A := Lib.hid (fun w => of_any x w hx)
  have B := Lib.hid (fun w => of_any y w hy)
  have qx := sq_big x hx
  have qy := sq_big y hy
  have hx' := sq_abs x hx
  have hy' := sq_abs y hy
  have MX := Lib.hid (fun v v' w h h' => mulz v v' x x w (big_two _ (by omega)) (big_two _ (by omega)) (big_two _ (by omega)) h h')
  have MY := Lib.hid (fun v v' w h h' => mulz v v' y y w (big_two _ (by omega)) (big_two _ (by omega)) (big_two _ (by omega)) h h')
  have AD := Lib.hid (fun v1 v2 w h1 h2 => add_z v1 v2 (x * x) (y * y) w (fair_big _ (Nat.le_trans (big_two _ (by omega)) (by omega))) (fair_big _ (Nat.le_trans (big_two _ (by omega)) (by omega))) h1 h2)
  have EQ := Lib.hid (show x * x + y * y = ((x.natAbs * x.natAbs + y.natAbs * y.natAbs : Nat) : Int) by rw [sq_nat x, sq_nat y, Int.natCast_add])
  have NR0 := Lib.hid (NumAt.new w false (.slice none 0 0))
  have BW := Lib.hid ((Below.refl w.heap.size w).alloc (Nat.le_refl _) (.cells #[.bool false, .slice none 0 0] 66))
  have SX := Lib.hid (sgn_of x)
  have SY := Lib.hid (sgn_of y)
  clear qx qy hx hy hx' hy'
  generalize ((x.natAbs * x.natAbs + y.natAbs * y.natAbs : Nat) : Int) = Z at *
  generalize decide (x < 0) = nx at *
  generalize decide (y < 0) = ny at *
  go_enter Try.func47, Try.ntmps47
  go_wp2_with fail
  generalize w.alloc (.cells #[.bool false, .slice none 0 0] 66) = w0 at *
  refine (A.out _).mono ?_
  rintro e w1 ⟨ax, cx, rfl, rx, lx, mx, b1⟩
  have RX := Lib.hid (And.intro rx (And.intro lx mx))
  have HB1 := Lib.hid b1
  clear rx lx mx b1
  go_wp2_with fail
  refine (B.out _).mono ?_
  rintro e w2 ⟨ay, cy, rfl, ry, ly, my, b2⟩
  have RY := Lib.hid (And.intro ry (And.intro ly my))
  have HB2 := Lib.hid b2
  clear ry ly my b2
  have NX := Lib.hid ((NumAt.new w2 nx (.slice ax (dg x.natAbs).length cx)).alloc (.cells #[.bool ny, .slice ay (dg y.natAbs).length cy] 66))
  have NY := Lib.hid (NumAt.new (w2.alloc (.cells #[.bool nx, .slice ax (dg x.natAbs).length cx] 66)) ny (.slice ay (dg y.natAbs).length cy))
  rw [World.size_alloc] at NY
  have B3 := Lib.hid (((HB1.out.trans (HB2.out.mono HB1.out.size)).alloc (Nat.le_trans HB1.out.size HB2.out.size) (.cells #[.bool nx, .slice ax (dg x.natAbs).length cx] 66)).alloc (by simp; have := HB1.out.size; have := HB2.out.size; omega) (.cells #[.bool ny, .slice ay (dg y.natAbs).length cy] 66))
  have NR := Lib.hid (NR0.out.below B3.out NR0.out.lt)
  have KX := Lib.hid (show NumV (.agg #[.bool nx, .slice ax (dg x.natAbs).length cx]) x ((w2.alloc (.cells #[.bool nx, .slice ax (dg x.natAbs).length cx] 66)).alloc (.cells #[.bool ny, .slice ay (dg y.natAbs).length cy] 66)) from ⟨nx, x.natAbs, ax, cx, rfl, ((RX.out.1.below HB2.out (Nat.le_refl _)).alloc _).alloc _, RX.out.2.1, RX.out.2.2, SX.out.symm⟩)
  have KY := Lib.hid (show NumV (.agg #[.bool ny, .slice ay (dg y.natAbs).length cy]) y ((w2.alloc (.cells #[.bool nx, .slice ax (dg x.natAbs).length cx] 66)).alloc (.cells #[.bool ny, .slice ay (dg y.natAbs).length cy] 66)) from ⟨ny, y.natAbs, ay, cy, rfl, (RY.out.1.alloc _).alloc _, RY.out.2.1, RY.out.2.2, SY.out.symm⟩)
  have hlt : w.heap.size < w2.heap.size := Nat.lt_of_lt_of_le NR0.out.lt (Nat.le_trans HB1.out.size HB2.out.size)
  have e1 : ¬ w2.heap.size = w.heap.size := by omega
  have e2 : ¬ w2.heap.size + 1 = w.heap.size := by omega
  have e3 : ¬ w.heap.size = w2.heap.size := by omega
  have e4 : ¬ w.heap.size = w2.heap.size + 1 := by omega
  clear RX RY SX SY HB1 HB2 A B
  go_wp2_with fail
  generalize (dg x.natAbs).length = lx at *
  generalize (dg y.natAbs).length = ly at *
  generalize (w2.alloc (.cells #[.bool nx, .slice ax lx cx] 66)).alloc (.cells #[.bool ny, .slice ay ly cy] 66) = W3 at *
  have p0 := NX.out.c0; have p1 := NX.out.c1; have p2 := NY.out.c0; have p3 := NY.out.c1
  go_region_held3 (fun w' => w'.cell? ⟨w2.heap.size, 0, none⟩ = some (.bool nx) ∧ w'.cell? ⟨w2.heap.size, 1, none⟩ = some (.slice ax lx cx) ∧ w'.cell? ⟨w2.heap.size + 1, 0, none⟩ = some (.bool ny) ∧ w'.cell? ⟨w2.heap.size + 1, 1, none⟩ = some (.slice ay ly cy)) (first | (simp [go_sem, *]; done) | (exact ⟨by assumption, by assumption, by assumption, by assumption⟩))
    (first
      | (go_at_call 65; refine (MX.out _ _ _ ?_ ?_).mono ?_; (exact (show NumV _ _ (World.drew _) from KX.out)); (exact (show NumV _ _ (World.drew _) from KX.out)); rintro e w4 ⟨v4, rfl, hv4, b4⟩; have NX4 := Lib.hid ((show NumAt _ _ _ (World.drew _) from NX.out).below b4 NX.out.lt); have NY4 := Lib.hid ((show NumAt _ _ _ (World.drew _) from NY.out).below b4 NY.out.lt); have NR4 := Lib.hid ((show NumAt _ _ _ (World.drew _) from NR.out).below b4 NR.out.lt); have KY4 := Lib.hid ((show NumV _ _ (World.drew _) from KY.out).below b4 (Nat.le_refl _)); have q0 := NX4.out.c0; have q1 := NX4.out.c1; have q2 := NY4.out.c0; have q3 := NY4.out.c1)
      | (go_at_call 65; refine (MY.out _ _ _ ?_ ?_).mono ?_; (exact KY4.out); (exact KY4.out); rintro e w5 ⟨v5, rfl, hv5, b5⟩; have NX5 := Lib.hid ((show NumAt _ _ _ _ from NX4.out).below b5 NX4.out.lt); have NY5 := Lib.hid ((show NumAt _ _ _ _ from NY4.out).below b5 NY4.out.lt); have NR5 := Lib.hid ((show NumAt _ _ _ _ from NR4.out).below b5 NR4.out.lt); have r0 := NX5.out.c0; have r1 := NX5.out.c1; have r2 := NY5.out.c0; have r3 := NY5.out.c1)
      | (go_at_call 66; refine (AD.out _ _ _ ?_ ?_).mono ?_; (exact hv4.below b5 (Nat.le_refl _)); (exact hv5); rintro e w6 ⟨v6, rfl, hv6, b6⟩; obtain ⟨neg6, x6, a6, cap6, rfl, hr6, hl6, hm6, he6⟩ := hv6; have NX6 := Lib.hid ((show NumAt _ _ _ _ from NX5.out).below b6 NX5.out.lt); have NY6 := Lib.hid ((show NumAt _ _ _ _ from NY5.out).below b6 NY5.out.lt); have NR6 := Lib.hid ((show NumAt _ _ _ _ from NR5.out).below b6 NR5.out.lt); have t0 := NX6.out.c0; have t1 := NX6.out.c1; have t2 := NY6.out.c0; have t3 := NY6.out.c1; have t4 := NR6.out.c0; have t5 := NR6.out.c1; have t6 := NR6.out.z0; have t7 := NR6.out.z1))
  go_wp2_with fail
  have Bf := (((BW.out.trans (B3.out.mono BW.out.size)).trans ((show Below W3.heap.size W3 w4 from ⟨b4.os, b4.tape, b4.output, b4.size, b4.block⟩).mono (Nat.le_trans BW.out.size B3.out.size))).trans (b5.mono (Nat.le_trans BW.out.size (Nat.le_trans B3.out.size b4.size)))).trans (b6.mono (Nat.le_trans BW.out.size (Nat.le_trans B3.out.size (Nat.le_trans b4.size b5.size))))
  exact num_closeZ Try.results47 NR6.out Bf (Nat.le_refl _) ⟨hr6, hl6, hm6⟩ (EQ.out.symm.trans he6) rfl
end Go.Proofs.Ythnjdncnmdmjaaa
