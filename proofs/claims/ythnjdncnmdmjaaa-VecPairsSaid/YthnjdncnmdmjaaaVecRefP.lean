/-
  The document's answers of layer 9: Dot, Cross, Half, Handle.
-/
import Derived.Test.YthnjdncnmdmjaaaVecPair
import Derived.Test.YthnjdncnmdmjaaaVecRef
import Derived.Test.YthnjdncnmdmjaaaRefDot
import Derived.Test.YthnjdncnmdmjaaaRef2Root
namespace Go.Proofs.Ythnjdncnmdmjaaa
open Go.RowKit Go.Shelf

set_option maxHeartbeats 1000000 in
set_option maxRecDepth 100000 in
theorem rdot9 (x y u v : Int) (w : World) (hx : In1 x) (hy : In1 y) (hu : In1 u) (hv : In1 v) :
    Calls Try.prog 30 #[.agg #[.int .i64 x, .int .i64 y], .agg #[.int .i64 u, .int .i64 v]] w fun e w' => e = .returned (.int .i64 (vdot x y u v)) ∧ Below w.heap.size w w' := by
  have D : Hid (∀ w : World, Calls Try.prog 54 #[.int .i64 x, .int .i64 u, .int .i64 y, .int .i64 v, .int .i64 30] w fun e w' => e = .returned (.tuple #[.int .i64 (vdot x y u v), .bool true]) ∧ Below w.heap.size w w') := Lib.hid (fun w => by
    have k := refdot_any x u y v 30 w (in1_i hx) (in1_i hu) (in1_i hy) (in1_i hv) (by decide)
    rw [dot_is, pair_i64 (vdot_i hx hy hu hv)] at k
    exact k)
  generalize vdot x y u v = n at *
  unfold In1 at hx hy hu hv
  obtain ⟨hp, hq, hb⟩ := boxes_ab w x y u v
  have HP0 := Lib.hid hp
  have HQ0 := Lib.hid hq
  have HB0 := Lib.hid hb
  clear hp hq hb
  go_enter Try.func30, Try.ntmps30
  go_upto_region 1 with fail
  generalize (w.alloc (.cells #[.int .i64 x, .int .i64 y] 25)).alloc (.cells #[.int .i64 u, .int .i64 v] 25) = w1 at *
  have z0 := HP0.out.c0; have z1 := HP0.out.c1; have y0 := HQ0.out.c0; have y1 := HQ0.out.c1
  go_wp2_with fail
  refine (D.out _).mono ?_
  rintro e w2 ⟨rfl, b2⟩
  have HB2 := Lib.hid (HB0.out.trans (b2.mono HB0.out.size))
  clear b2 z0 z1 y0 y1
  go_wp2_with fail
  go_ret
  exact ⟨rfl, HB2.out⟩
set_option maxHeartbeats 1000000 in
set_option maxRecDepth 100000 in
theorem rcross9 (x y u v : Int) (w : World) (hx : In1 x) (hy : In1 y) (hu : In1 u) (hv : In1 v) :
    Calls Try.prog 31 #[.agg #[.int .i64 x, .int .i64 y], .agg #[.int .i64 u, .int .i64 v]] w fun e w' => e = .returned (.int .i64 (vcross x y u v)) ∧ Below w.heap.size w w' := by
  have D := Lib.hid (fun w => rdot9 x (-y) v u w hx (in1_neg hy) hv hu)
  rw [← vcross_dot] at D
  generalize vcross x y u v = n at *
  unfold In1 at hx hy hu hv
  obtain ⟨hp, hq, hb⟩ := boxes_ab w x y u v
  have HP0 := Lib.hid hp
  have HQ0 := Lib.hid hq
  have HB0 := Lib.hid hb
  clear hp hq hb
  go_enter Try.func31, Try.ntmps31
  go_upto_region 1 with fail
  generalize (w.alloc (.cells #[.int .i64 x, .int .i64 y] 25)).alloc (.cells #[.int .i64 u, .int .i64 v] 25) = w1 at *
  have z0 := HP0.out.c0; have z1 := HP0.out.c1; have y0 := HQ0.out.c0; have y1 := HQ0.out.c1
  go_wp2_with fail
  refine (D.out _).mono ?_
  rintro e w2 ⟨rfl, b2⟩
  have HB2 := Lib.hid (HB0.out.trans (b2.mono HB0.out.size))
  clear b2 z0 z1 y0 y1
  go_wp2_with fail
  go_ret
  exact ⟨rfl, HB2.out⟩
theorem capU_hi {n : Int} (h : 1073741824 < n) : capU n = 1073741824 := by unfold capU; rw [if_pos h]
theorem capU_lo {n : Int} (h : ¬ 1073741824 < n) (k : n < -1073741824) : capU n = -1073741824 := by unfold capU; rw [if_neg h, if_pos k]
theorem capU_mid {n : Int} (h : ¬ 1073741824 < n) (k : ¬ n < -1073741824) : capU n = n := by unfold capU; rw [if_neg h, if_neg k]
/-- What the roots are of. -/
theorem of_half9 (k : Int) (w : World) (h0 : 0 ≤ k) (h1 : k ≤ 2147483648) : Calls Try.prog 53 #[.int .i64 (k * 536870912)] w (GivesZ (k * 536870912) w) := of_z _ w (by unfold I64; omega)
theorem root_half9 (k : Int) (v : Value) (w : World) (h0 : 0 ≤ k) (h1 : k ≤ 2147483648) (h : NumV v (k * 536870912) w) :
    Calls Try.prog 46 #[v] w fun e w' => e = .returned (.int .u64 (halfR k : Int)) ∧ Below w.heap.size w w' := by
  rw [show k * 536870912 = ((k.toNat * 536870912 : Nat) : Int) from by omega] at h
  exact root2_any v (k.toNat * 536870912) w (by omega) h
set_option maxHeartbeats 4000000 in
set_option maxRecDepth 100000 in
theorem rhalf9 (x y u v : Int) (w : World) (hx : In1 x) (hy : In1 y) (hu : In1 u) (hv : In1 v) :
    Calls Try.prog 29 #[.agg #[.int .i64 x, .int .i64 y], .agg #[.int .i64 u, .int .i64 v]] w fun e w' => e = .returned (HalfV (vdot x y u v)) ∧ Below w.heap.size w w' := by
  have D := Lib.hid (fun w => rdot9 x y u v w hx hy hu hv)
  unfold HalfV
  generalize vdot x y u v = n at *
  have cin := capU_in n
  obtain ⟨m, hm⟩ : ∃ m, capU n = m := ⟨_, rfl⟩
  rw [hm] at cin ⊢
  have l1 := half_le (1073741824 - m) (by omega)
  have l2 := half_le (1073741824 + m) (by omega)
  have O1 := Lib.hid (fun w => of_half9 (1073741824 - m) w (by omega) (by omega))
  have O2 := Lib.hid (fun w => of_half9 (1073741824 + m) w (by omega) (by omega))
  have R1 := Lib.hid (fun v w h => root_half9 (1073741824 - m) v w (by omega) (by omega) h)
  have R2 := Lib.hid (fun v w h => root_half9 (1073741824 + m) v w (by omega) (by omega) h)
  have l3 : (halfR (1073741824 - m) : Int) ≤ 1073741824 := by omega
  have l4 : (halfR (1073741824 + m) : Int) ≤ 1073741824 := by omega
  have l5 : 0 ≤ (halfR (1073741824 - m) : Int) := by omega
  have l6 : 0 ≤ (halfR (1073741824 + m) : Int) := by omega
  clear l1 l2
  generalize (halfR (1073741824 - m) : Int) = s at *
  generalize (halfR (1073741824 + m) : Int) = c at *
  clear hx hy hu hv
  obtain ⟨hp, hq, hb⟩ := boxes_ab w x y u v
  have HP0 := Lib.hid hp
  have HQ0 := Lib.hid hq
  have HB0 := Lib.hid hb
  clear hp hq hb
  go_enter Try.func29, Try.ntmps29
  go_upto_region 1 with fail
  generalize (w.alloc (.cells #[.int .i64 x, .int .i64 y] 25)).alloc (.cells #[.int .i64 u, .int .i64 v] 25) = w1 at *
  have z0 := HP0.out.c0; have z1 := HP0.out.c1; have y0 := HQ0.out.c0; have y1 := HQ0.out.c1
  go_wp2_with fail
  refine (D.out _).mono ?_
  rintro e w2 ⟨rfl, b2⟩
  have HB2 := Lib.hid (HB0.out.trans (b2.mono HB0.out.size))
  clear b2 z0 z1 y0 y1 D
  by_cases h1 : 1073741824 < n
  · obtain rfl : 1073741824 = m := (capU_hi h1).symm.trans hm
    clear hm
    go_wp2_with fail
    refine (O1.out _).mono ?_
    rintro e w3 ⟨v3, rfl, n3, b3⟩
    have N3 := Lib.hid n3
    have HB3 := Lib.hid (HB2.out.trans (b3.mono HB2.out.size))
    clear n3 b3
    go_wp2_with fail
    refine (R1.out _ _ N3.out).mono ?_
    rintro e w4 ⟨rfl, b4⟩
    have HB4 := Lib.hid (HB3.out.trans (b4.mono HB3.out.size))
    clear b4 N3
    go_wp2_with fail
    refine (O2.out _).mono ?_
    rintro e w5 ⟨v5, rfl, n5, b5⟩
    have N5 := Lib.hid n5
    have HB5 := Lib.hid (HB4.out.trans (b5.mono HB4.out.size))
    clear n5 b5
    go_wp2_with fail
    refine (R2.out _ _ N5.out).mono ?_
    rintro e w6 ⟨rfl, b6⟩
    have HB6 := Lib.hid (HB5.out.trans (b6.mono HB5.out.size))
    clear b6 N5
    go_wp2_with fail
    go_ret2
    exact ⟨rfl, HB6.out⟩
  · by_cases h2 : n < -1073741824
    · obtain rfl : -1073741824 = m := (capU_lo h1 h2).symm.trans hm
      clear hm
      go_wp2_with fail
      refine (O1.out _).mono ?_
      rintro e w3 ⟨v3, rfl, n3, b3⟩
      have N3 := Lib.hid n3
      have HB3 := Lib.hid (HB2.out.trans (b3.mono HB2.out.size))
      clear n3 b3
      go_wp2_with fail
      refine (R1.out _ _ N3.out).mono ?_
      rintro e w4 ⟨rfl, b4⟩
      have HB4 := Lib.hid (HB3.out.trans (b4.mono HB3.out.size))
      clear b4 N3
      go_wp2_with fail
      refine (O2.out _).mono ?_
      rintro e w5 ⟨v5, rfl, n5, b5⟩
      have N5 := Lib.hid n5
      have HB5 := Lib.hid (HB4.out.trans (b5.mono HB4.out.size))
      clear n5 b5
      go_wp2_with fail
      refine (R2.out _ _ N5.out).mono ?_
      rintro e w6 ⟨rfl, b6⟩
      have HB6 := Lib.hid (HB5.out.trans (b6.mono HB5.out.size))
      clear b6 N5
      go_wp2_with fail
      go_ret2
      exact ⟨rfl, HB6.out⟩
    · obtain rfl : n = m := (capU_mid h1 h2).symm.trans hm
      go_wp2_with fail
      refine (O1.out _).mono ?_
      rintro e w3 ⟨v3, rfl, n3, b3⟩
      have N3 := Lib.hid n3
      have HB3 := Lib.hid (HB2.out.trans (b3.mono HB2.out.size))
      clear n3 b3
      go_wp2_with fail
      refine (R1.out _ _ N3.out).mono ?_
      rintro e w4 ⟨rfl, b4⟩
      have HB4 := Lib.hid (HB3.out.trans (b4.mono HB3.out.size))
      clear b4 N3
      go_wp2_with fail
      refine (O2.out _).mono ?_
      rintro e w5 ⟨v5, rfl, n5, b5⟩
      have N5 := Lib.hid n5
      have HB5 := Lib.hid (HB4.out.trans (b5.mono HB4.out.size))
      clear n5 b5
      go_wp2_with fail
      refine (R2.out _ _ N5.out).mono ?_
      rintro e w6 ⟨rfl, b6⟩
      have HB6 := Lib.hid (HB5.out.trans (b6.mono HB5.out.size))
      clear b6 N5
      go_wp2_with fail
      go_ret2
      exact ⟨rfl, HB6.out⟩
set_option maxHeartbeats 1000000 in
set_option maxRecDepth 100000 in
theorem rhandle9 (x y u v : Int) (w : World) (hx : In1 x) (hy : In1 y) (hu : In1 u) (hv : In1 v) :
    Calls Try.prog 33 #[.agg #[.int .i64 x, .int .i64 y], .agg #[.int .i64 u, .int .i64 v]] w fun e w' => e = .returned (.int .i64 (handL (vdot x y u v))) ∧ Below w.heap.size w w' := by
  have D := Lib.hid (fun w => rhalf9 x y u v w hx hy hu hv)
  unfold HalfV at D
  unfold handL
  generalize vdot x y u v = n at *
  have cin := capU_in n
  have l1 := half_le (1073741824 - capU n) (by omega)
  have l2 := half_le (1073741824 + capU n) (by omega)
  generalize capU n = m at *
  generalize halfR (1073741824 - m) = s at *
  generalize halfR (1073741824 + m) = c at *
  have l3 : (s : Int) ≤ 1073741824 := by omega
  have l4 : (c : Int) ≤ 1073741824 := by omega
  have l5 : 0 ≤ (s : Int) := by omega
  have l6 : 0 ≤ (c : Int) := by omega
  have M : Hid (∀ w : World, Calls Try.prog 48 #[.int .i64 (4 * (s : Int)), .int .i64 1073741824, .int .i64 (3221225472 + 3 * (c : Int))] w fun e w' => e = .returned (.int .i64 (handN s c)) ∧ Below w.heap.size w w') := Lib.hid (fun w => by
    have k := rnear9 (4 * (s : Int)) 1073741824 (3 * (1073741824 + (c : Int))) w (by unfold I64; omega) (by unfold I64; omega) (by unfold I64; omega) (by omega) (by rw [muldiv_hand]; exact hand_i l1)
    rw [muldiv_hand, show 3 * (1073741824 + (c : Int)) = 3221225472 + 3 * (c : Int) from by omega] at k
    exact k)
  generalize handN s c = r at *
  clear l1 l2
  generalize (s : Int) = S at *
  generalize (c : Int) = C at *
  clear hx hy hu hv cin
  obtain ⟨hp, hq, hb⟩ := boxes_ab w x y u v
  have HP0 := Lib.hid hp
  have HQ0 := Lib.hid hq
  have HB0 := Lib.hid hb
  clear hp hq hb
  go_enter Try.func33, Try.ntmps33
  go_upto_region 1 with fail
  generalize (w.alloc (.cells #[.int .i64 x, .int .i64 y] 25)).alloc (.cells #[.int .i64 u, .int .i64 v] 25) = w1 at *
  have z0 := HP0.out.c0; have z1 := HP0.out.c1; have y0 := HQ0.out.c0; have y1 := HQ0.out.c1
  go_wp2_with fail
  refine (D.out _).mono ?_
  rintro e w2 ⟨rfl, b2⟩
  have HB2 := Lib.hid (HB0.out.trans (b2.mono HB0.out.size))
  clear b2 z0 z1 y0 y1 D
  go_wp2_with fail
  refine (M.out _).mono ?_
  rintro e w3 ⟨rfl, b3⟩
  have HB3 := Lib.hid (HB2.out.trans (b3.mono HB2.out.size))
  clear b3
  go_wp2_with fail
  go_ret
  exact ⟨rfl, HB3.out⟩
end Go.Proofs.Ythnjdncnmdmjaaa
