/-
  Joined texts: RootMath, Ref2Root, Ref2Squares.
-/
import Derived.Test.YtgkjbmejfcijkaaJTwo
namespace Go.Proofs.Ytgkjbmejfcijkaa

/-- The steps from the number r on, with the powers of two below 2^k. -/
def stepsL (N r : Nat) : Nat → List Nat
  | 0 => []
  | k + 1 => if (r + 2 ^ k) * (r + 2 ^ k) ≤ N then (r + 2 ^ k) :: stepsL N (r + 2 ^ k) k else stepsL N r k
/-- The last of them. -/
def rootL (N r : Nat) : Nat → Nat
  | 0 => r
  | k + 1 => if (r + 2 ^ k) * (r + 2 ^ k) ≤ N then rootL N (r + 2 ^ k) k else rootL N r k

def IsRoot (N s : Nat) : Prop := s * s ≤ N ∧ N < (s + 1) * (s + 1)

theorem two_pow (k : Nat) : 2 ^ (k + 1) = 2 ^ k + 2 ^ k := by rw [Nat.pow_succ]; omega

theorem rootL_is (N k : Nat) : ∀ r, r * r ≤ N → N < (r + 2 ^ k) * (r + 2 ^ k) → IsRoot N (rootL N r k) := by
  induction k with
  | zero => intro r h1 h2; exact ⟨h1, by simpa [rootL] using h2⟩
  | succ k ih =>
    intro r h1 h2
    rw [rootL]
    rw [two_pow, ← Nat.add_assoc] at h2
    split
    · exact ih _ (by assumption) h2
    · exact ih _ h1 (by omega)

theorem rootL_bounds (N k : Nat) : ∀ r, r ≤ rootL N r k ∧ rootL N r k < r + 2 ^ k := by
  induction k with
  | zero => intro r; simp [rootL]
  | succ k ih =>
    intro r
    rw [rootL, two_pow]
    have h1 := ih r
    have h2 := ih (r + 2 ^ k)
    split <;> omega

theorem stepsL_length (N k : Nat) : ∀ r, (stepsL N r k).length ≤ k := by
  induction k with
  | zero => intro r; simp [stepsL]
  | succ k ih =>
    intro r
    rw [stepsL]
    have h1 := ih r
    have h2 := ih (r + 2 ^ k)
    split
    · rw [List.length_cons]; omega
    · omega

/-- The last step is the root; without steps it is what was there. -/
theorem stepsL_last (N k : Nat) : ∀ r, (stepsL N r k).getLastD r = rootL N r k := by
  induction k with
  | zero => intro r; rfl
  | succ k ih =>
    intro r
    rw [stepsL, rootL]
    split
    · rw [List.getLastD_cons]; exact ih _
    · exact ih r

theorem isRoot_unique (N a b : Nat) (ha : IsRoot N a) (hb : IsRoot N b) : a = b := by
  have aux : ∀ {x y : Nat}, IsRoot N x → IsRoot N y → ¬ x < y := by
    intro x y hx hy h
    have h2 : (x + 1) * (x + 1) ≤ y * y := Nat.mul_le_mul h h
    have := hx.2
    have := hy.1
    omega
  have h1 := aux ha hb
  have h2 := aux hb ha
  omega

/-- The root of any number of 128 bits. -/
def rt (N : Nat) : Nat := rootL N 0 64
theorem rt_is (N : Nat) (h : N < 340282366920938463463374607431768211456) : IsRoot N (rt N) :=
  rootL_is N 64 0 (by omega) (by rw [Nat.zero_add]; exact h)
theorem rt_lt (N : Nat) : rt N < 18446744073709551616 := by
  have := (rootL_bounds N 64 0).2
  rw [Nat.zero_add] at this
  exact this
/-- A short number's root, by the lower half of the bits alone. -/
theorem rt_short (N : Nat) (h : N < 18446744073709551616) : rootL N 0 32 = rt N :=
  isRoot_unique N _ _ (rootL_is N 32 0 (by omega) (by rw [Nat.zero_add]; exact h)) (rt_is N (by omega))
theorem short_lt (N : Nat) : rootL N 0 32 < 4294967296 := by
  have := (rootL_bounds N 32 0).2
  rw [Nat.zero_add] at this
  exact this
theorem isRoot_mono {A B a b : Nat} (ha : IsRoot A a) (hb : IsRoot B b) (h : A ≤ B) : a ≤ b := by
  refine Nat.le_of_not_lt fun hlt => ?_
  have h2 : (b + 1) * (b + 1) ≤ a * a := Nat.mul_le_mul hlt hlt
  have := ha.1
  have := hb.2
  omega
/-- The root of a number four times as great. -/
theorem isRoot_four {A a s : Nat} (ha : IsRoot A a) (hs : IsRoot (4 * A) s) : s = 2 * a ∨ s = 2 * a + 1 := by
  have h1 : 2 * a ≤ s := by
    refine Nat.le_of_not_lt fun hlt => ?_
    have h2 : (s + 1) * (s + 1) ≤ (2 * a) * (2 * a) := Nat.mul_le_mul hlt hlt
    have e : (2 * a) * (2 * a) = 4 * (a * a) := by rw [Nat.mul_mul_mul_comm]
    have := ha.1
    have := hs.2
    omega
  have h2 : s < 2 * (a + 1) := by
    refine Nat.lt_of_not_le fun hle => ?_
    have h3 : (2 * (a + 1)) * (2 * (a + 1)) ≤ s * s := Nat.mul_le_mul hle hle
    have e : (2 * (a + 1)) * (2 * (a + 1)) = 4 * ((a + 1) * (a + 1)) := by rw [Nat.mul_mul_mul_comm]
    have := ha.2
    have := hs.1
    omega
  omega
end Go.Proofs.Ytgkjbmejfcijkaa
namespace Go.Proofs.Ytgkjbmejfcijkaa
open Go.RowKit Go.Shelf

/-- The power of two that comes next, j of them being left. -/
def bit2 (j : Nat) : Nat := 2 ^ j / 2

/-- What Root's loop keeps. -/
def Root2Inv (N : Nat) (w : World) (rv bv : Value) (wr : World) : Prop :=
  ∃ j r : Nat, rv = .int .u64 (r : Int) ∧ bv = .int .u64 (bit2 j : Int) ∧ j ≤ 64 ∧ r + 2 ^ j ≤ 2 ^ 64 ∧ rootL N r j = rt N ∧ Below w.heap.size w wr

theorem root2_next (N j r B : Nat) (w wr : World) (rI : Int) (hI : rI = ((r : Nat) : Int)) (hB : 2 ^ j = B) (hj : j ≤ 64) (hr : r + B ≤ 2 ^ 64) (hx : rootL N r j = rt N) (hb : Below w.heap.size w wr) :
    Root2Inv N w (.int .u64 rI) (.int .u64 ((B : Int) / 2)) wr := by
  subst hI
  exact ⟨j, r, rfl, by rw [bit2, hB]; rfl, hj, by rw [hB]; exact hr, hx, hb⟩

theorem sq_two (x : Nat) (h : x < 18446744073709551616) : x * x < 340282366920938463463374607431768211456 := by
  have := Nat.mul_le_mul (show x ≤ 18446744073709551615 by omega) (show x ≤ 18446744073709551615 by omega)
  omega

set_option maxHeartbeats 4000000 in
set_option maxRecDepth 100000 in
theorem root2_any (v : Value) (N : Nat) (w : World) (hN : N < 340282366920938463463374607431768211456) (h : NumV v (N : Int) w) :
    Calls Try.prog 30 #[v] w fun e w' => e = .returned (.int .u64 ((rt N : Nat) : Int)) ∧ Below w.heap.size w w' := by
  obtain ⟨n, zn, an, cn, rfl, r1, l1, m1, en⟩ := h
  have NN0 := Lib.hid (NumAt.new w n (.slice an (dg zn).length cn))
  have BW := Lib.hid ((Below.refl w.heap.size w).alloc (Nat.le_refl _) (.cells #[.bool n, .slice an (dg zn).length cn] 66))
  have VN0 := Lib.hid (show NumV (.agg #[.bool n, .slice an (dg zn).length cn]) (N : Int) (w.alloc (.cells #[.bool n, .slice an (dg zn).length cn] 66)) from ⟨n, zn, an, cn, rfl, r1.alloc _, l1, m1, en⟩)
  have BN := Lib.hid (big_two N hN)
  clear r1 l1 m1 en hN
  generalize (dg zn).length = nn at *
  go_enter Try.func30, Try.ntmps30
  go_wp2_with fail
  generalize w.alloc (.cells #[.bool n, .slice an nn cn] 66) = w0 at *
  go_loopw [3, 4] (fun rv bv wr => Root2Inv N w0 rv bv wr) (fun _ bv _ => natU2 bv)
  case atStart => exact ⟨64, 0, rfl, rfl, Nat.le_refl _, by decide, rfl, Below.refl _ _⟩
  case round =>
    obtain ⟨j, r, rfl, rfl, hj, hr, hx, hb⟩ := hrel
    cases j with
    | zero =>
      have hz : bit2 0 = 0 := by decide
      rw [hz]
      have HX := Lib.hid hx
      clear hx hr
      go_wp2_with fail
      go_ret
      exact ⟨by rw [← HX.out]; rfl, BW.out.trans (hb.mono BW.out.size)⟩
    | succ j =>
      have hb1 : bit2 (j + 1) = 2 ^ j := by unfold bit2; rw [two_pow]; omega
      rw [hb1]
      clear hb1
      have hp : 0 < 2 ^ j := Nat.two_pow_pos j
      rw [two_pow] at hr
      rw [rootL] at hx
      have hs : (r : Int) + ((2 ^ j : Nat) : Int) ≤ 18446744073709551615 := by omega
      have hq : r + 2 ^ j < 18446744073709551616 := by omega
      have O := Lib.hid (fun w => of2_any (r + 2 ^ j) w hq)
      have SQ := Lib.hid (sq_two _ hq)
      have BX := Lib.hid (big_word _ hq)
      rw [show ((r + 2 ^ j : Nat) : Int) = (r : Int) + ((2 ^ j : Nat) : Int) from by omega] at O
      have hp' : 0 < ((2 ^ j : Nat) : Int) := by omega
      have HR := Lib.hid hr
      have HJ := Lib.hid hj
      have HX := Lib.hid hx
      have HB := Lib.hid hb
      clear hr hj hx hp hq hb
      generalize hB2 : 2 ^ j = B at *
      have HB2 := Lib.hid hB2
      clear hB2
      go_wp2_with fail
      refine (O.out _).mono ?_
      rintro e w1 ⟨ax, cx, rfl, rx, lx, mx, b1⟩
      have KX := Lib.hid (show NumV (.agg #[.bool false, .slice ax (dg (r + B)).length cx]) ((r + B : Nat) : Int) (w1.alloc (.cells #[.bool false, .slice ax (dg (r + B)).length cx] 66)) from ⟨false, r + B, ax, cx, rfl, rx.alloc _, lx, mx, rfl⟩)
      have NX := Lib.hid (NumAt.new w1 false (.slice ax (dg (r + B)).length cx))
      have B1 := Lib.hid ((HB.out.trans (b1.mono HB.out.size)).alloc (Nat.le_trans HB.out.size b1.size) (.cells #[.bool false, .slice ax (dg (r + B)).length cx] 66))
      have NN := Lib.hid (NN0.out.below B1.out NN0.out.lt)
      have KN := Lib.hid (VN0.out.below B1.out (Nat.le_refl _))
      clear rx lx mx b1
      generalize (dg (r + B)).length = nx at *
      go_wp2_with fail
      generalize w1.alloc (.cells #[.bool false, .slice ax nx cx] 66) = W2 at *
      have p0 := NX.out.c0; have p1 := NX.out.c1; have p2 := NN.out.c0; have p3 := NN.out.c1
      go_region_held3 (fun w' => w'.cell? ⟨w1.heap.size, 0, none⟩ = some (.bool false) ∧ w'.cell? ⟨w1.heap.size, 1, none⟩ = some (.slice ax nx cx) ∧ w'.cell? ⟨w.heap.size, 0, none⟩ = some (.bool n) ∧ w'.cell? ⟨w.heap.size, 1, none⟩ = some (.slice an nn cn)) (first | (simp [go_sem, *]; done) | (exact ⟨by assumption, by assumption, by assumption, by assumption⟩))
        (first
          | (go_at_call 39; refine (mulz _ _ ((r + B : Nat) : Int) ((r + B : Nat) : Int) _ (by rw [← Int.natCast_mul]; exact big_two _ SQ.out) BX.out BX.out ?_ ?_).mono ?_; (exact (show NumV _ _ (World.drew _) from KX.out)); (exact (show NumV _ _ (World.drew _) from KX.out)); rintro e w3 ⟨v3, rfl, hv3, b3⟩; have NX3 := Lib.hid ((show NumAt _ _ _ (World.drew _) from NX.out).below b3 NX.out.lt); have NN3 := Lib.hid ((show NumAt _ _ _ (World.drew _) from NN.out).below b3 NN.out.lt); have KN3 := Lib.hid ((show NumV _ _ (World.drew _) from KN.out).below b3 (Nat.le_refl _)); have q0 := NX3.out.c0; have q1 := NX3.out.c1; have q2 := NN3.out.c0; have q3 := NN3.out.c1)
          | (go_at_call 38; refine (above_z _ _ ((r + B) * (r + B)) N _ (Nat.le_trans (big_two _ SQ.out) (by omega)) (Nat.le_trans BN.out (by omega)) ?_ ?_).mono ?_; (rw [Int.natCast_mul]; exact hv3); (exact KN3.out); rintro e w4 ⟨rfl, b4⟩; have NX4 := Lib.hid ((show NumAt _ _ _ _ from NX3.out).below b4 NX3.out.lt); have NN4 := Lib.hid ((show NumAt _ _ _ _ from NN3.out).below b4 NN3.out.lt); have t0 := NX4.out.c0; have t1 := NX4.out.c1; have t2 := NN4.out.c0; have t3 := NN4.out.c1))
      have B4 := Lib.hid ((B1.out.trans ((show Below W2.heap.size W2 w3 from ⟨b3.os, b3.tape, b3.output, b3.size, b3.block⟩).mono B1.out.size)).trans (b4.mono (Nat.le_trans B1.out.size b3.size)))
      clear b3 b4 hv3 p0 p1 p2 p3 q0 q1 q2 q3 t0 t1 t2 t3
      by_cases ha : (r + B) * (r + B) ≤ N
      · have HX2 := Lib.hid (show rootL N (r + B) j = rt N by have := HX.out; rw [if_pos ha] at this; exact this)
        rw [show decide (N < (r + B) * (r + B)) = false from by simp; exact ha]
        clear ha
        go_wp2_with fail
        go_roundw
        case rel => exact root2_next N j (r + B) B w0 w4 _ (by omega) HB2.out (by have := HJ.out; omega) (by have := HR.out; omega) HX2.out B4.out
        case measure => simp only [natU2]; omega
      · have HX2 := Lib.hid (show rootL N r j = rt N by have := HX.out; rw [if_neg ha] at this; exact this)
        rw [show decide (N < (r + B) * (r + B)) = true from by simp; omega]
        clear ha
        go_wp2_with fail
        go_roundw
        case rel => exact root2_next N j r B w0 w4 _ rfl HB2.out (by have := HJ.out; omega) (by have := HR.out; omega) HX2.out B4.out
        case measure => simp only [natU2]; omega
end Go.Proofs.Ytgkjbmejfcijkaa
namespace Go.Proofs.Ytgkjbmejfcijkaa
open Go.RowKit Go.Shelf

theorem sq_abs (x : Int) (h : I64 x) : x.natAbs ≤ 9223372036854775808 := by unfold I64 at h; omega
theorem sq_big (x : Int) (h : I64 x) : (x * x).natAbs ≤ 85070591730234615865843651857942052864 := by
  rw [Int.natAbs_mul]
  exact Nat.mul_le_mul (sq_abs x h) (sq_abs x h)
theorem sq_nat (x : Int) : x * x = ((x.natAbs * x.natAbs : Nat) : Int) := by rw [Int.natCast_mul, Int.natAbs_mul_self']

set_option maxHeartbeats 4000000 in
set_option maxRecDepth 100000 in
theorem squares_z (x y : Int) (w : World) (hx : I64 x) (hy : I64 y) :
    Calls Try.prog 31 #[.int .i64 x, .int .i64 y] w (GivesZ ((x.natAbs * x.natAbs + y.natAbs * y.natAbs : Nat) : Int) w) := by
  have A := Lib.hid (fun w => of_any x w hx)
  have B := Lib.hid (fun w => of_any y w hy)
  have qx := sq_big x hx
  have qy := sq_big y hy
  have hx' := sq_abs x hx
  have hy' := sq_abs y hy
  have MX := Lib.hid (fun v v' w h h' => mulz v v' x x w (big_two _ (by omega)) (big_two _ (by omega)) (big_two _ (by omega)) h h')
  have MY := Lib.hid (fun v v' w h h' => mulz v v' y y w (big_two _ (by omega)) (big_two _ (by omega)) (big_two _ (by omega)) h h')
  have AD := Lib.hid (fun v1 v2 w h1 h2 => add_z v1 v2 (x * x) (y * y) w (fair_big _ (Nat.le_trans (big_two _ (by omega)) (by omega))) (fair_big _ (Nat.le_trans (big_two _ (by omega)) (by omega))) h1 h2)
  have EQ := Lib.hid (show x * x + y * y = ((x.natAbs * x.natAbs + y.natAbs * y.natAbs : Nat) : Int) by rw [sq_nat x, sq_nat y, Int.natCast_add])
  have NR0 := Lib.hid (NumAt.new w false (.slice none 0 0))
  have BW := Lib.hid ((Below.refl w.heap.size w).alloc (Nat.le_refl _) (.cells #[.bool false, .slice none 0 0] 66))
  have SX := Lib.hid (sgn_of x)
  have SY := Lib.hid (sgn_of y)
  clear qx qy hx hy hx' hy'
  generalize ((x.natAbs * x.natAbs + y.natAbs * y.natAbs : Nat) : Int) = Z at *
  generalize decide (x < 0) = nx at *
  generalize decide (y < 0) = ny at *
  go_enter Try.func31, Try.ntmps31
  go_wp2_with fail
  generalize w.alloc (.cells #[.bool false, .slice none 0 0] 66) = w0 at *
  refine (A.out _).mono ?_
  rintro e w1 ⟨ax, cx, rfl, rx, lx, mx, b1⟩
  have RX := Lib.hid (And.intro rx (And.intro lx mx))
  have HB1 := Lib.hid b1
  clear rx lx mx b1
  go_wp2_with fail
  refine (B.out _).mono ?_
  rintro e w2 ⟨ay, cy, rfl, ry, ly, my, b2⟩
  have RY := Lib.hid (And.intro ry (And.intro ly my))
  have HB2 := Lib.hid b2
  clear ry ly my b2
  have NX := Lib.hid ((NumAt.new w2 nx (.slice ax (dg x.natAbs).length cx)).alloc (.cells #[.bool ny, .slice ay (dg y.natAbs).length cy] 66))
  have NY := Lib.hid (NumAt.new (w2.alloc (.cells #[.bool nx, .slice ax (dg x.natAbs).length cx] 66)) ny (.slice ay (dg y.natAbs).length cy))
  rw [World.size_alloc] at NY
  have B3 := Lib.hid (((HB1.out.trans (HB2.out.mono HB1.out.size)).alloc (Nat.le_trans HB1.out.size HB2.out.size) (.cells #[.bool nx, .slice ax (dg x.natAbs).length cx] 66)).alloc (by simp; have := HB1.out.size; have := HB2.out.size; omega) (.cells #[.bool ny, .slice ay (dg y.natAbs).length cy] 66))
  have NR := Lib.hid (NR0.out.below B3.out NR0.out.lt)
  have KX := Lib.hid (show NumV (.agg #[.bool nx, .slice ax (dg x.natAbs).length cx]) x ((w2.alloc (.cells #[.bool nx, .slice ax (dg x.natAbs).length cx] 66)).alloc (.cells #[.bool ny, .slice ay (dg y.natAbs).length cy] 66)) from ⟨nx, x.natAbs, ax, cx, rfl, ((RX.out.1.below HB2.out (Nat.le_refl _)).alloc _).alloc _, RX.out.2.1, RX.out.2.2, SX.out.symm⟩)
  have KY := Lib.hid (show NumV (.agg #[.bool ny, .slice ay (dg y.natAbs).length cy]) y ((w2.alloc (.cells #[.bool nx, .slice ax (dg x.natAbs).length cx] 66)).alloc (.cells #[.bool ny, .slice ay (dg y.natAbs).length cy] 66)) from ⟨ny, y.natAbs, ay, cy, rfl, (RY.out.1.alloc _).alloc _, RY.out.2.1, RY.out.2.2, SY.out.symm⟩)
  have hlt : w.heap.size < w2.heap.size := Nat.lt_of_lt_of_le NR0.out.lt (Nat.le_trans HB1.out.size HB2.out.size)
  have e1 : ¬ w2.heap.size = w.heap.size := by omega
  have e2 : ¬ w2.heap.size + 1 = w.heap.size := by omega
  have e3 : ¬ w.heap.size = w2.heap.size := by omega
  have e4 : ¬ w.heap.size = w2.heap.size + 1 := by omega
  clear RX RY SX SY HB1 HB2 A B
  go_wp2_with fail
  generalize (dg x.natAbs).length = lx at *
  generalize (dg y.natAbs).length = ly at *
  generalize (w2.alloc (.cells #[.bool nx, .slice ax lx cx] 66)).alloc (.cells #[.bool ny, .slice ay ly cy] 66) = W3 at *
  have p0 := NX.out.c0; have p1 := NX.out.c1; have p2 := NY.out.c0; have p3 := NY.out.c1
  go_region_held3 (fun w' => w'.cell? ⟨w2.heap.size, 0, none⟩ = some (.bool nx) ∧ w'.cell? ⟨w2.heap.size, 1, none⟩ = some (.slice ax lx cx) ∧ w'.cell? ⟨w2.heap.size + 1, 0, none⟩ = some (.bool ny) ∧ w'.cell? ⟨w2.heap.size + 1, 1, none⟩ = some (.slice ay ly cy)) (first | (simp [go_sem, *]; done) | (exact ⟨by assumption, by assumption, by assumption, by assumption⟩))
    (first
      | (go_at_call 39; refine (MX.out _ _ _ ?_ ?_).mono ?_; (exact (show NumV _ _ (World.drew _) from KX.out)); (exact (show NumV _ _ (World.drew _) from KX.out)); rintro e w4 ⟨v4, rfl, hv4, b4⟩; have NX4 := Lib.hid ((show NumAt _ _ _ (World.drew _) from NX.out).below b4 NX.out.lt); have NY4 := Lib.hid ((show NumAt _ _ _ (World.drew _) from NY.out).below b4 NY.out.lt); have NR4 := Lib.hid ((show NumAt _ _ _ (World.drew _) from NR.out).below b4 NR.out.lt); have KY4 := Lib.hid ((show NumV _ _ (World.drew _) from KY.out).below b4 (Nat.le_refl _)); have q0 := NX4.out.c0; have q1 := NX4.out.c1; have q2 := NY4.out.c0; have q3 := NY4.out.c1)
      | (go_at_call 39; refine (MY.out _ _ _ ?_ ?_).mono ?_; (exact KY4.out); (exact KY4.out); rintro e w5 ⟨v5, rfl, hv5, b5⟩; have NX5 := Lib.hid ((show NumAt _ _ _ _ from NX4.out).below b5 NX4.out.lt); have NY5 := Lib.hid ((show NumAt _ _ _ _ from NY4.out).below b5 NY4.out.lt); have NR5 := Lib.hid ((show NumAt _ _ _ _ from NR4.out).below b5 NR4.out.lt); have r0 := NX5.out.c0; have r1 := NX5.out.c1; have r2 := NY5.out.c0; have r3 := NY5.out.c1)
      | (go_at_call 41; refine (AD.out _ _ _ ?_ ?_).mono ?_; (exact hv4.below b5 (Nat.le_refl _)); (exact hv5); rintro e w6 ⟨v6, rfl, hv6, b6⟩; obtain ⟨neg6, x6, a6, cap6, rfl, hr6, hl6, hm6, he6⟩ := hv6; have NX6 := Lib.hid ((show NumAt _ _ _ _ from NX5.out).below b6 NX5.out.lt); have NY6 := Lib.hid ((show NumAt _ _ _ _ from NY5.out).below b6 NY5.out.lt); have NR6 := Lib.hid ((show NumAt _ _ _ _ from NR5.out).below b6 NR5.out.lt); have t0 := NX6.out.c0; have t1 := NX6.out.c1; have t2 := NY6.out.c0; have t3 := NY6.out.c1; have t4 := NR6.out.c0; have t5 := NR6.out.c1; have t6 := NR6.out.z0; have t7 := NR6.out.z1))
  go_wp2_with fail
  have Bf := (((BW.out.trans (B3.out.mono BW.out.size)).trans ((show Below W3.heap.size W3 w4 from ⟨b4.os, b4.tape, b4.output, b4.size, b4.block⟩).mono (Nat.le_trans BW.out.size B3.out.size))).trans (b5.mono (Nat.le_trans BW.out.size (Nat.le_trans B3.out.size b4.size)))).trans (b6.mono (Nat.le_trans BW.out.size (Nat.le_trans B3.out.size (Nat.le_trans b4.size b5.size))))
  exact num_closeZ Try.results31 NR6.out Bf (Nat.le_refl _) ⟨hr6, hl6, hm6⟩ (EQ.out.symm.trans he6) rfl
end Go.Proofs.Ytgkjbmejfcijkaa
