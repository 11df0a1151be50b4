/-
  Package vec: Dot, Cross, Half, Handle.
-/
import Derived.Test.YthnjdncnmdmjaaaVecMath
import Derived.Test.YthnjdncnmdmjaaaAffMust
import Derived.Test.YthnjdncnmdmjaaaOps
import Derived.Test.YthnjdncnmdmjaaaRootLast
import Derived.Lib.MinMax
import Derived.Deep.DeepCutAuto
namespace Go.Proofs.Ythnjdncnmdmjaaa
open Go.RowKit Go.Shelf

theorem dot_is (a b c d : Int) : dot a b c d 30 = near (a * b + c * d) 1073741824 := by
  unfold dot
  rw [show (2 : Nat) ^ 30 = 1073741824 from by decide]
theorem in1_i {x : Int} (h : In1 x) : I64 x := by unfold In1 at h; unfold I64; omega
theorem vdot_i {x y u v : Int} (hx : In1 x) (hy : In1 y) (hu : In1 u) (hv : In1 v) : I64 (near (x * u + y * v) 1073741824) := by
  have k := vdot_in hx hy hu hv
  unfold vdot at k
  unfold I64; omega
theorem vcross_i {x y u v : Int} (hx : In1 x) (hy : In1 y) (hu : In1 u) (hv : In1 v) : I64 (near (x * v + (-y) * u) 1073741824) := vdot_i hx (in1_neg hy) hv hu
theorem boxes_ab (w : World) (x y u v : Int) : PBox w.heap.size x y ((w.alloc (.cells #[.int .i64 x, .int .i64 y] 25)).alloc (.cells #[.int .i64 u, .int .i64 v] 25)) ∧ PBox (w.heap.size + 1) u v ((w.alloc (.cells #[.int .i64 x, .int .i64 y] 25)).alloc (.cells #[.int .i64 u, .int .i64 v] 25)) ∧
    Below w.heap.size w ((w.alloc (.cells #[.int .i64 x, .int .i64 y] 25)).alloc (.cells #[.int .i64 u, .int .i64 v] 25)) := by
  have b1 := (Below.refl w.heap.size w).alloc (Nat.le_refl _) (.cells #[.int .i64 x, .int .i64 y] 25)
  have p1 := PBox.new w x y
  generalize hA : w.alloc (.cells #[.int .i64 x, .int .i64 y] 25) = A at *
  have sA : A.heap.size = w.heap.size + 1 := by rw [← hA]; simp
  have b2 := (Below.refl A.heap.size A).alloc (Nat.le_refl _) (.cells #[.int .i64 u, .int .i64 v] 25)
  have p2 := PBox.new A u v
  rw [sA] at p2
  exact ⟨p1.next b2, p2, b1.trans (b2.mono b1.size)⟩
set_option maxHeartbeats 1000000 in
set_option maxRecDepth 100000 in
theorem vdot_any (x y u v : Int) (w : World) (hx : In1 x) (hy : In1 y) (hu : In1 u) (hv : In1 v) :
    Calls Try.prog 27 #[.agg #[.int .i64 x, .int .i64 y], .agg #[.int .i64 u, .int .i64 v]] w fun e w' => e = .returned (.int .i64 (vdot x y u v)) ∧ Below w.heap.size w w' := by
  have D : Hid (∀ w : World, Calls Try.prog 51 #[.int .i64 x, .int .i64 u, .int .i64 y, .int .i64 v, .int .i64 30] w fun e w' => e = .returned (.tuple #[.int .i64 (vdot x y u v), .bool true]) ∧ Below w.heap.size w w') := Lib.hid (fun w => by
    have k := dot_any x u y v 30 w (in1_i hx) (in1_i hu) (in1_i hy) (in1_i hv) (by decide)
    rw [dot_is, pair_i64 (vdot_i hx hy hu hv)] at k
    exact k)
  generalize vdot x y u v = n at *
  unfold In1 at hx hy hu hv
  obtain ⟨hp, hq, hb⟩ := boxes_ab w x y u v
  have HP0 := Lib.hid hp
  have HQ0 := Lib.hid hq
  have HB0 := Lib.hid hb
  clear hp hq hb
  go_enter Try.func27, Try.ntmps27
  go_upto_region 1 with fail
  generalize (w.alloc (.cells #[.int .i64 x, .int .i64 y] 25)).alloc (.cells #[.int .i64 u, .int .i64 v] 25) = w1 at *
  have z0 := HP0.out.c0; have z1 := HP0.out.c1; have y0 := HQ0.out.c0; have y1 := HQ0.out.c1
  go_wp2_with fail
  refine (D.out _).mono ?_
  rintro e w2 ⟨rfl, b2⟩
  have HB2 := Lib.hid (HB0.out.trans (b2.mono HB0.out.size))
  clear b2 z0 z1 y0 y1
  go_wp2_with fail
  go_ret
  exact ⟨rfl, HB2.out⟩
set_option maxHeartbeats 1000000 in
set_option maxRecDepth 100000 in
theorem vcross_any (x y u v : Int) (w : World) (hx : In1 x) (hy : In1 y) (hu : In1 u) (hv : In1 v) :
    Calls Try.prog 25 #[.agg #[.int .i64 x, .int .i64 y], .agg #[.int .i64 u, .int .i64 v]] w fun e w' => e = .returned (.int .i64 (vcross x y u v)) ∧ Below w.heap.size w w' := by
  have D : Hid (∀ w : World, Calls Try.prog 51 #[.int .i64 x, .int .i64 v, .int .i64 (-y), .int .i64 u, .int .i64 30] w fun e w' => e = .returned (.tuple #[.int .i64 (vcross x y u v), .bool true]) ∧ Below w.heap.size w w') := Lib.hid (fun w => by
    have k := dot_any x v (-y) u 30 w (in1_i hx) (in1_i hv) (in1_i (in1_neg hy)) (in1_i hu) (by decide)
    rw [dot_is, pair_i64 (vcross_i hx hy hu hv)] at k
    exact k)
  generalize vcross x y u v = n at *
  unfold In1 at hx hy hu hv
  obtain ⟨hp, hq, hb⟩ := boxes_ab w x y u v
  have HP0 := Lib.hid hp
  have HQ0 := Lib.hid hq
  have HB0 := Lib.hid hb
  clear hp hq hb
  go_enter Try.func25, Try.ntmps25
  go_upto_region 1 with fail
  generalize (w.alloc (.cells #[.int .i64 x, .int .i64 y] 25)).alloc (.cells #[.int .i64 u, .int .i64 v] 25) = w1 at *
  have z0 := HP0.out.c0; have z1 := HP0.out.c1; have y0 := HQ0.out.c0; have y1 := HQ0.out.c1
  go_wp2_with fail
  refine (D.out _).mono ?_
  rintro e w2 ⟨rfl, b2⟩
  have HB2 := Lib.hid (HB0.out.trans (b2.mono HB0.out.size))
  clear b2 z0 z1 y0 y1
  go_wp2_with fail
  go_ret
  exact ⟨rfl, HB2.out⟩
set_option maxHeartbeats 1000000 in
set_option maxRecDepth 100000 in
theorem half_any9 (k : Int) (w : World) (h0 : 0 ≤ k) (h1 : k ≤ 2147483648) :
    Calls Try.prog 52 #[.int .i64 k] w fun e w' => e = .returned (.int .i64 (halfR k : Int)) ∧ Below w.heap.size w w' := by
  have hl := half_le k h1
  have F : Hid (∀ w : World, Calls Try.prog 72 #[.int .u64 (k * 536870912)] w fun e w' => e = .returned (.int .u64 (halfR k : Int)) ∧ Below w.heap.size w w') := Lib.hid (fun w => by
    have q := Floor_any (k.toNat * 536870912) w (by omega)
    rw [show ((k.toNat * 536870912 : Nat) : Int) = k * 536870912 from by omega] at q
    exact q)
  have h3 : (halfR k : Int) ≤ 1073741824 := by omega
  have h4 : 0 ≤ (halfR k : Int) := by omega
  clear hl
  generalize (halfR k : Int) = r at *
  go_enter Try.func52, Try.ntmps52
  go_wp2_with fail
  refine (F.out _).mono ?_
  rintro e w2 ⟨rfl, b2⟩
  have HB2 := Lib.hid b2
  clear b2 F h0 h1
  go_wp2_with fail
  go_ret
  exact ⟨rfl, HB2.out⟩
/-- Sine and cosine of half an angle. -/
def HalfV (n : Int) : Value := .tuple #[.int .i64 (halfR (1073741824 - capU n) : Int), .int .i64 (halfR (1073741824 + capU n) : Int)]
set_option maxHeartbeats 1000000 in
set_option maxRecDepth 100000 in
theorem vhalf_any (x y u v : Int) (w : World) (hx : In1 x) (hy : In1 y) (hu : In1 u) (hv : In1 v) :
    Calls Try.prog 28 #[.agg #[.int .i64 x, .int .i64 y], .agg #[.int .i64 u, .int .i64 v]] w fun e w' => e = .returned (HalfV (vdot x y u v)) ∧ Below w.heap.size w w' := by
  have D := Lib.hid (fun w => vdot_any x y u v w hx hy hu hv)
  unfold HalfV
  generalize vdot x y u v = n at *
  have cin := capU_in n
  have hm : min (max n (-1073741824)) 1073741824 = capU n := by unfold capU; (repeat' split) <;> omega
  have H1 := Lib.hid (fun w => half_any9 (1073741824 - capU n) w (by omega) (by omega))
  have H2 := Lib.hid (fun w => half_any9 (1073741824 + capU n) w (by omega) (by omega))
  generalize capU n = m at *
  generalize (halfR (1073741824 - m) : Int) = s at *
  generalize (halfR (1073741824 + m) : Int) = c at *
  clear hx hy hu hv
  obtain ⟨hp, hq, hb⟩ := boxes_ab w x y u v
  have HP0 := Lib.hid hp
  have HQ0 := Lib.hid hq
  have HB0 := Lib.hid hb
  clear hp hq hb
  go_enter Try.func28, Try.ntmps28
  go_upto_region 1 with fail
  generalize (w.alloc (.cells #[.int .i64 x, .int .i64 y] 25)).alloc (.cells #[.int .i64 u, .int .i64 v] 25) = w1 at *
  have z0 := HP0.out.c0; have z1 := HP0.out.c1; have y0 := HQ0.out.c0; have y1 := HQ0.out.c1
  go_wp2_with fail
  refine (D.out _).mono ?_
  rintro e w2 ⟨rfl, b2⟩
  have HB2 := Lib.hid (HB0.out.trans (b2.mono HB0.out.size))
  clear b2 z0 z1 y0 y1 D
  go_wp2_with fail
  refine (H1.out _).mono ?_
  rintro e w3 ⟨rfl, b3⟩
  have HB3 := Lib.hid (HB2.out.trans (b3.mono HB2.out.size))
  clear b3
  go_wp2_with fail
  refine (H2.out _).mono ?_
  rintro e w4 ⟨rfl, b4⟩
  have HB4 := Lib.hid (HB3.out.trans (b4.mono HB3.out.size))
  clear b4
  go_wp2_with fail
  go_ret2
  exact ⟨rfl, HB4.out⟩
theorem muldiv_hand (s c : Nat) : muldiv (4 * (s : Int)) 1073741824 (3 * (1073741824 + (c : Int))) = handN s c := by
  unfold muldiv handN
  rw [if_pos (by omega), show (3 * (1073741824 + (c : Int))).natAbs = 3 * (1073741824 + c) from by omega]
theorem hand_i {s c : Nat} (hs : s ≤ 1073741824) : I64 (handN s c) := by
  have := hand_in (c := c) hs
  unfold I64; omega
set_option maxHeartbeats 1000000 in
set_option maxRecDepth 100000 in
theorem vhandle_any (x y u v : Int) (w : World) (hx : In1 x) (hy : In1 y) (hu : In1 u) (hv : In1 v) :
    Calls Try.prog 32 #[.agg #[.int .i64 x, .int .i64 y], .agg #[.int .i64 u, .int .i64 v]] w fun e w' => e = .returned (.int .i64 (handL (vdot x y u v))) ∧ Below w.heap.size w w' := by
  have D := Lib.hid (fun w => vhalf_any x y u v w hx hy hu hv)
  unfold HalfV at D
  unfold handL
  generalize vdot x y u v = n at *
  have cin := capU_in n
  have l1 := half_le (1073741824 - capU n) (by omega)
  have l2 := half_le (1073741824 + capU n) (by omega)
  generalize capU n = m at *
  generalize halfR (1073741824 - m) = s at *
  generalize halfR (1073741824 + m) = c at *
  have M := Lib.hid (fun w => muldiv_any (4 * (s : Int)) 1073741824 (3 * (1073741824 + (c : Int))) w (by unfold I64; omega) (by unfold I64; omega) (by unfold I64; omega) (by omega))
  rw [muldiv_hand, pair_i64 (hand_i l1)] at M
  generalize handN s c = r at *
  have l3 : (s : Int) ≤ 1073741824 := by omega
  have l4 : (c : Int) ≤ 1073741824 := by omega
  have l5 : 0 ≤ (s : Int) := by omega
  have l6 : 0 ≤ (c : Int) := by omega
  clear l1 l2
  generalize (s : Int) = S at *
  generalize (c : Int) = C at *
  clear hx hy hu hv cin
  obtain ⟨hp, hq, hb⟩ := boxes_ab w x y u v
  have HP0 := Lib.hid hp
  have HQ0 := Lib.hid hq
  have HB0 := Lib.hid hb
  clear hp hq hb
  go_enter Try.func32, Try.ntmps32
  go_upto_region 1 with fail
  generalize (w.alloc (.cells #[.int .i64 x, .int .i64 y] 25)).alloc (.cells #[.int .i64 u, .int .i64 v] 25) = w1 at *
  have z0 := HP0.out.c0; have z1 := HP0.out.c1; have y0 := HQ0.out.c0; have y1 := HQ0.out.c1
  go_wp2_with fail
  refine (D.out _).mono ?_
  rintro e w2 ⟨rfl, b2⟩
  have HB2 := Lib.hid (HB0.out.trans (b2.mono HB0.out.size))
  clear b2 z0 z1 y0 y1 D
  go_wp2_with fail
  refine (M.out _).mono ?_
  rintro e w3 ⟨rfl, b3⟩
  have HB3 := Lib.hid (HB2.out.trans (b3.mono HB2.out.size))
  clear b3
  go_wp2_with fail
  go_ret
  exact ⟨rfl, HB3.out⟩
end Go.Proofs.Ythnjdncnmdmjaaa
