/-
  The contract of the document's answer for layer 2: Root, bit by bit.
-/
import Derived.Test.YthnjdncnmdmjaaaRef2Above
import Derived.Test.YthnjdncnmdmjaaaRootMath
namespace Go.Proofs.Ythnjdncnmdmjaaa
open Go.RowKit Go.Shelf

/-- The power of two that comes next, j of them being left. -/
def bit2 (j : Nat) : Nat := 2 ^ j / 2

/-- What Root's loop keeps. -/
def Root2Inv (N : Nat) (w : World) (rv bv : Value) (wr : World) : Prop :=
  ∃ j r : Nat, rv = .int .u64 (r : Int) ∧ bv = .int .u64 (bit2 j : Int) ∧ j ≤ 64 ∧ r + 2 ^ j ≤ 2 ^ 64 ∧ rootL N r j = rt N ∧ Below w.heap.size w wr

theorem root2_next (N j r B : Nat) (w wr : World) (rI : Int) (hI : rI = ((r : Nat) : Int)) (hB : 2 ^ j = B) (hj : j ≤ 64) (hr : r + B ≤ 2 ^ 64) (hx : rootL N r j = rt N) (hb : Below w.heap.size w wr) :
    Root2Inv N w (.int .u64 rI) (.int .u64 ((B : Int) / 2)) wr := by
  subst hI
  exact ⟨j, r, rfl, by rw [bit2, hB]; rfl, hj, by rw [hB]; exact hr, hx, hb⟩

theorem sq_two (x : Nat) (h : x < 18446744073709551616) : x * x < 340282366920938463463374607431768211456 := by
  have := Nat.mul_le_mul (show x ≤ 18446744073709551615 by omega) (show x ≤ 18446744073709551615 by omega)
  omega

set_option maxHeartbeats 4000000 in
set_option maxRecDepth 100000 in
theorem root2_any (v : Value) (N : Nat) (w : World) (hN : N < 340282366920938463463374607431768211456) (h : NumV v (N : Int) w) :
    Calls Try.prog 46 #[v] w fun e w' => e = .returned (.int .u64 ((rt N : Nat) : Int)) ∧ Below w.heap.size w w' := by
  obtain ⟨n, zn, an, cn, rfl, r1, l1, m1, en⟩ := h
  have NN0 := Lib.hid (NumAt.new w n (.slice an (dg zn).length cn))
  have BW := Lib.hid ((Below.refl w.heap.size w).alloc (Nat.le_refl _) (.cells #[.bool n, .slice an (dg zn).length cn] 66))
  have VN0 := Lib.hid (show NumV (.agg #[.bool n, .slice an (dg zn).length cn]) (N : Int) (w.alloc (.cells #[.bool n, .slice an (dg zn).length cn] 66)) from ⟨n, zn, an, cn, rfl, r1.alloc _, l1, m1, en⟩)
  have BN := Lib.hid (big_two N hN)
  clear r1 l1 m1 en hN
  generalize (dg zn).length = nn at *
  go_enter Try.func46, Try.ntmps46
  go_wp2_with fail
  generalize w.alloc (.cells #[.bool n, .slice an nn cn] 66) = w0 at *
  go_loopw [3, 4] (fun rv bv wr => Root2Inv N w0 rv bv wr) (fun _ bv _ => natU2 bv)
  case atStart => exact ⟨64, 0, rfl, rfl, Nat.le_refl _, by decide, rfl, Below.refl _ _⟩
  case round =>
    obtain ⟨j, r, rfl, rfl, hj, hr, hx, hb⟩ := hrel
    cases j with
    | zero =>
      have hz : bit2 0 = 0 := by decide
      rw [hz]
      have HX := Lib.hid hx
      clear hx hr
      go_wp2_with fail
      go_ret
      exact ⟨by rw [← HX.out]; rfl, BW.out.trans (hb.mono BW.out.size)⟩
    | succ j =>
      have hb1 : bit2 (j + 1) = 2 ^ j := by unfold bit2; rw [two_pow]; omega
      rw [hb1]
      clear hb1
      have hp : 0 < 2 ^ j := Nat.two_pow_pos j
      rw [two_pow] at hr
      rw [rootL] at hx
      have hs : (r : Int) + ((2 ^ j : Nat) : Int) ≤ 18446744073709551615 := by omega
      have hq : r + 2 ^ j < 18446744073709551616 := by omega
      have O := Lib.hid (fun w => of2_any (r + 2 ^ j) w hq)
      have SQ := Lib.hid (sq_two _ hq)
      have BX := Lib.hid (big_word _ hq)
      rw [show ((r + 2 ^ j : Nat) : Int) = (r : Int) + ((2 ^ j : Nat) : Int) from by omega] at O
      have hp' : 0 < ((2 ^ j : Nat) : Int) := by omega
      have HR := Lib.hid hr
      have HJ := Lib.hid hj
      have HX := Lib.hid hx
      have HB := Lib.hid hb
      clear hr hj hx hp hq hb
      generalize hB2 : 2 ^ j = B at *
      have HB2 := Lib.hid hB2
      clear hB2
      go_wp2_with fail
      refine (O.out _).mono ?_
      rintro e w1 ⟨ax, cx, rfl, rx, lx, mx, b1⟩
      have KX := Lib.hid (show NumV (.agg #[.bool false, .slice ax (dg (r + B)).length cx]) ((r + B : Nat) : Int) (w1.alloc (.cells #[.bool false, .slice ax (dg (r + B)).length cx] 66)) from ⟨false, r + B, ax, cx, rfl, rx.alloc _, lx, mx, rfl⟩)
      have NX := Lib.hid (NumAt.new w1 false (.slice ax (dg (r + B)).length cx))
      have B1 := Lib.hid ((HB.out.trans (b1.mono HB.out.size)).alloc (Nat.le_trans HB.out.size b1.size) (.cells #[.bool false, .slice ax (dg (r + B)).length cx] 66))
      have NN := Lib.hid (NN0.out.below B1.out NN0.out.lt)
      have KN := Lib.hid (VN0.out.below B1.out (Nat.le_refl _))
      clear rx lx mx b1
      generalize (dg (r + B)).length = nx at *
      go_wp2_with fail
      generalize w1.alloc (.cells #[.bool false, .slice ax nx cx] 66) = W2 at *
      have p0 := NX.out.c0; have p1 := NX.out.c1; have p2 := NN.out.c0; have p3 := NN.out.c1
      go_region_held3 (fun w' => w'.cell? ⟨w1.heap.size, 0, none⟩ = some (.bool false) ∧ w'.cell? ⟨w1.heap.size, 1, none⟩ = some (.slice ax nx cx) ∧ w'.cell? ⟨w.heap.size, 0, none⟩ = some (.bool n) ∧ w'.cell? ⟨w.heap.size, 1, none⟩ = some (.slice an nn cn)) (first | (simp [go_sem, *]; done) | (exact ⟨by assumption, by assumption, by assumption, by assumption⟩))
        (first
          | (go_at_call 65; refine (mulz _ _ ((r + B : Nat) : Int) ((r + B : Nat) : Int) _ (by rw [← Int.natCast_mul]; exact big_two _ SQ.out) BX.out BX.out ?_ ?_).mono ?_; (exact (show NumV _ _ (World.drew _) from KX.out)); (exact (show NumV _ _ (World.drew _) from KX.out)); rintro e w3 ⟨v3, rfl, hv3, b3⟩; have NX3 := Lib.hid ((show NumAt _ _ _ (World.drew _) from NX.out).below b3 NX.out.lt); have NN3 := Lib.hid ((show NumAt _ _ _ (World.drew _) from NN.out).below b3 NN.out.lt); have KN3 := Lib.hid ((show NumV _ _ (World.drew _) from KN.out).below b3 (Nat.le_refl _)); have q0 := NX3.out.c0; have q1 := NX3.out.c1; have q2 := NN3.out.c0; have q3 := NN3.out.c1)
          | (go_at_call 64; refine (above_z _ _ ((r + B) * (r + B)) N _ (Nat.le_trans (big_two _ SQ.out) (by omega)) (Nat.le_trans BN.out (by omega)) ?_ ?_).mono ?_; (rw [Int.natCast_mul]; exact hv3); (exact KN3.out); rintro e w4 ⟨rfl, b4⟩; have NX4 := Lib.hid ((show NumAt _ _ _ _ from NX3.out).below b4 NX3.out.lt); have NN4 := Lib.hid ((show NumAt _ _ _ _ from NN3.out).below b4 NN3.out.lt); have t0 := NX4.out.c0; have t1 := NX4.out.c1; have t2 := NN4.out.c0; have t3 := NN4.out.c1))
      have B4 := Lib.hid ((B1.out.trans ((show Below W2.heap.size W2 w3 from ⟨b3.os, b3.tape, b3.output, b3.size, b3.block⟩).mono B1.out.size)).trans (b4.mono (Nat.le_trans B1.out.size b3.size)))
      clear b3 b4 hv3 p0 p1 p2 p3 q0 q1 q2 q3 t0 t1 t2 t3
      by_cases ha : (r + B) * (r + B) ≤ N
      · have HX2 := Lib.hid (show rootL N (r + B) j = rt N by have := HX.out; rw [if_pos ha] at this; exact this)
        rw [show decide (N < (r + B) * (r + B)) = false from by simp; exact ha]
        clear ha
        go_wp2_with fail
        go_roundw
        case rel => exact root2_next N j (r + B) B w0 w4 _ (by omega) HB2.out (by have := HJ.out; omega) (by have := HR.out; omega) HX2.out B4.out
        case measure => simp only [natU2]; omega
      · have HX2 := Lib.hid (show rootL N r j = rt N by have := HX.out; rw [if_neg ha] at this; exact this)
        rw [show decide (N < (r + B) * (r + B)) = true from by simp; omega]
        clear ha
        go_wp2_with fail
        go_roundw
        case rel => exact root2_next N j r B w0 w4 _ rfl HB2.out (by have := HJ.out; omega) (by have := HR.out; omega) HX2.out B4.out
        case measure => simp only [natU2]; omega
end Go.Proofs.Ythnjdncnmdmjaaa
