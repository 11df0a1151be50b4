/-
  Directions and pairs of them, as plain mathematics. No memory, no program.
-/
import Derived.Test.YthnjdncnmdmjaaaNearD
import Derived.Test.YthnjdncnmdmjaaaRootMath
namespace Go.Proofs.Ythnjdncnmdmjaaa

/-- The root of the sum of two squares. -/
def hypN (x y : Int) : Nat := rt (x.natAbs * x.natAbs + y.natAbs * y.natAbs)
theorem nat_sq (x : Int) : ((x.natAbs * x.natAbs : Nat) : Int) = x * x := by rw [Int.natCast_mul, Int.natAbs_mul_self']
theorem sq_le_nat (x : Int) (k : Nat) (h : x.natAbs ≤ k) : x.natAbs * x.natAbs ≤ k * k := Nat.mul_le_mul h h
theorem hyp_is (x y : Int) (hx : x.natAbs ≤ 9223372036854775808) (hy : y.natAbs ≤ 9223372036854775808) : IsRoot (x.natAbs * x.natAbs + y.natAbs * y.natAbs) (hypN x y) := by
  refine rt_is _ ?_
  have h1 := sq_le_nat x _ hx
  have h2 := sq_le_nat y _ hy
  omega
/-- A number is no more than the root just if its square is no more than what the root is of. -/
theorem root_ge {N s : Nat} (h : IsRoot N s) (k : Nat) : k ≤ s ↔ k * k ≤ N := by
  constructor
  · intro hk; exact Nat.le_trans (Nat.mul_le_mul hk hk) h.1
  · intro hk
    refine Nat.le_of_lt_succ (Nat.lt_of_not_le fun hn => ?_)
    have h1 : (s + 1) * (s + 1) ≤ k * k := Nat.mul_le_mul hn hn
    have h2 := h.2
    exact absurd (Nat.lt_of_lt_of_le h2 (Nat.le_trans h1 hk)) (Nat.lt_irrefl _)
theorem abs_le_hyp {x y : Int} (hx : x.natAbs ≤ 9223372036854775808) (hy : y.natAbs ≤ 9223372036854775808) : x.natAbs ≤ hypN x y ∧ y.natAbs ≤ hypN x y :=
  ⟨(root_ge (hyp_is x y hx hy) _).2 (by omega), (root_ge (hyp_is x y hx hy) _).2 (by omega)⟩

/-- A direction that is right. -/
def rightD (x y : Int) : Prop := (x ≤ 1073741888 ∧ -1073741888 ≤ x) ∧ (y ≤ 1073741888 ∧ -1073741888 ≤ y) ∧ 1152921367167897600 ≤ x * x + y * y ∧ x * x + y * y < 1152921644193288321
instance (x y : Int) : Decidable (rightD x y) := by unfold rightD; infer_instance
/-- The root alone tells whether a direction is right. -/
theorem right_hyp (x y : Int) (hx : x.natAbs ≤ 9223372036854775808) (hy : y.natAbs ≤ 9223372036854775808) : (1073741760 ≤ hypN x y ∧ hypN x y ≤ 1073741888) ↔ rightD x y := by
  have a := abs_le_hyp hx hy
  have h := hyp_is x y hx hy
  have g1 := root_ge h 1073741760
  have g2 := root_ge h 1073741889
  have ex := nat_sq x
  have ey := nat_sq y
  unfold rightD
  generalize hypN x y = s at *
  generalize x.natAbs * x.natAbs = p at *
  generalize y.natAbs * y.natAbs = q at *
  generalize x * x = p' at *
  generalize y * y = q' at *
  constructor
  · intro ⟨h1, h2⟩
    have := g1.1 h1
    have : ¬ (1073741889 * 1073741889 ≤ p + q) := fun k => by have := g2.2 k; omega
    omega
  · intro ⟨_, _, h1, h2⟩
    refine ⟨g1.2 (by omega), ?_⟩
    have : ¬ (1073741889 ≤ s) := fun k => by have := g2.1 k; omega
    omega

/-- Both numbers lie from -2^60 to 2^60. -/
def short (x y : Int) : Prop := (x ≤ 1152921504606846976 ∧ -1152921504606846976 ≤ x) ∧ (y ≤ 1152921504606846976 ∧ -1152921504606846976 ≤ y)
instance (x y : Int) : Decidable (short x y) := by unfold short; infer_instance
/-- Doubled, at most so often. -/
def lenL (x y : Int) : Nat → Int × Int
  | 0 => (x, y)
  | k + 1 => if short x y then lenL (x + x) (y + y) k else (x, y)
/-- So many doublings are enough. -/
def Room (x y : Int) (j : Nat) : Prop := 1152921504606846976 < x.natAbs * 2 ^ j ∨ 1152921504606846976 < y.natAbs * 2 ^ j
theorem room_zero {x y : Int} (h : Room x y 0) : ¬ short x y := by
  unfold Room at h; unfold short; omega
theorem room_next {x y : Int} {j : Nat} (h : Room x y (j + 1)) : Room (x + x) (y + y) j := by
  unfold Room at *
  rw [Nat.pow_succ] at h
  rw [show (x + x).natAbs = 2 * x.natAbs from by omega, show (y + y).natAbs = 2 * y.natAbs from by omega]
  rw [show x.natAbs * (2 ^ j * 2) = 2 * x.natAbs * 2 ^ j from by rw [Nat.mul_comm (2 ^ j) 2, ← Nat.mul_assoc, Nat.mul_comm x.natAbs 2], show y.natAbs * (2 ^ j * 2) = 2 * y.natAbs * 2 ^ j from by rw [Nat.mul_comm (2 ^ j) 2, ← Nat.mul_assoc, Nat.mul_comm y.natAbs 2]] at h
  exact h
theorem room_start {x y : Int} (h : ¬ (x = 0 ∧ y = 0)) : Room x y 61 := by
  unfold Room
  have : (2 : Nat) ^ 61 = 2305843009213693952 := by decide
  rw [this]
  omega
def In62 (x : Int) : Prop := x ≤ 4611686018427387904 ∧ -4611686018427387904 ≤ x
instance (x : Int) : Decidable (In62 x) := by unfold In62; infer_instance
theorem len_is : ∀ (j : Nat) (x y : Int), Room x y j → In62 x → In62 y → ¬ short (lenL x y j).1 (lenL x y j).2 ∧ In62 (lenL x y j).1 ∧ In62 (lenL x y j).2
  | 0, x, y, h, hx, hy => ⟨room_zero h, hx, hy⟩
  | j + 1, x, y, h, hx, hy => by
    unfold lenL
    by_cases hs : short x y
    · rw [if_pos hs]
      refine len_is j _ _ (room_next h) ?_ ?_
      · unfold short at hs; unfold In62; omega
      · unfold short at hs; unfold In62; omega
    · rw [if_neg hs]; exact ⟨hs, hx, hy⟩
/-- The direction's number: the nearest to 2^30 times it, by the root. -/
def shareN (n : Int) (h : Nat) : Int := near (n * 1073741824) h
theorem share_in {n : Int} {h : Nat} (hh : 0 < h) (hn : n.natAbs ≤ h) : -1073741824 ≤ shareN n h ∧ shareN n h ≤ 1073741824 := by
  unfold shareN near
  constructor
  · rw [Int.le_ediv_iff_mul_le (by omega)]; omega
  · refine Int.le_of_lt_add_one ?_
    rw [Int.ediv_lt_iff_lt_mul (by omega)]; omega
theorem share_err {n : Int} {h : Nat} (hh : 0 < h) : 2 * (shareN n h * h) ≤ 2 * (n * 1073741824) + h ∧ 2 * (n * 1073741824) - h ≤ 2 * (shareN n h * h) := by
  unfold shareN near
  have h1 := Int.ediv_mul_le (n * 1073741824 + (h : Int) / 2) (show (h : Int) ≠ 0 by omega)
  have h2 := Int.lt_ediv_add_one_mul_self (n * 1073741824 + (h : Int) / 2) (show (0 : Int) < h by omega)
  rw [Int.add_mul] at h2
  generalize (n * 1073741824 + (h : Int) / 2) / (h : Int) * (h : Int) = q at *
  omega
/-- The direction of a point, and whether there is one. -/
def ofS (x y : Int) : (Int × Int) × Bool :=
  if ¬ (x = 0 ∧ y = 0) ∧ In62 x ∧ In62 y then
    ((shareN (lenL x y 61).1 (hypN (lenL x y 61).1 (lenL x y 61).2), shareN (lenL x y 61).2 (hypN (lenL x y 61).1 (lenL x y 61).2)), true)
  else ((0, 0), false)
theorem in62_abs {x : Int} (h : In62 x) : x.natAbs ≤ 4611686018427387904 := by unfold In62 at h; omega
/-- What the root of a stretched point is like. -/
theorem hyp_long {X Y : Int} (h : ¬ short X Y) (hx : In62 X) (hy : In62 Y) : 1152921504606846976 < hypN X Y ∧ hypN X Y < 9223372036854775808 := by
  have ax := in62_abs hx
  have ay := in62_abs hy
  have a := abs_le_hyp (x := X) (y := Y) (by omega) (by omega)
  have g := root_ge (hyp_is X Y (by omega) (by omega)) 9223372036854775808
  have s1 := sq_le_nat X _ ax
  have s2 := sq_le_nat Y _ ay
  unfold short at h
  refine ⟨by omega, ?_⟩
  have : ¬ 9223372036854775808 ≤ hypN X Y := fun k => by have := g.1 k; omega
  omega
theorem near_one {X Y P Q h U : Int} (hU : U = 1073741824) (hh : 1152921504606846976 < h) (hX : X ≤ h ∧ -h ≤ X) (hY : Y ≤ h ∧ -h ≤ Y) (h1 : h * h ≤ X * X + Y * Y) (h2 : X * X + Y * Y < (h + 1) * (h + 1))
    (p1 : 2 * (P * h) ≤ 2 * (X * U) + h) (p2 : 2 * (X * U) - h ≤ 2 * (P * h)) (q1 : 2 * (Q * h) ≤ 2 * (Y * U) + h) (q2 : 2 * (Y * U) - h ≤ 2 * (Q * h)) :
    1152921500311879684 ≤ P * P + Q * Q ∧ P * P + Q * Q ≤ 1152921508901814276 := by
  obtain ⟨e, he⟩ : ∃ e, e = P * h - X * U := ⟨_, rfl⟩
  obtain ⟨f, hf⟩ : ∃ f, f = Q * h - Y * U := ⟨_, rfl⟩
  have e1 : 2 * e ≤ h := by omega
  have e2 : -h ≤ 2 * e := by omega
  have f1 : 2 * f ≤ h := by omega
  have f2 : -h ≤ 2 * f := by omega
  have prod : ∀ {a b k : Int}, 0 ≤ k → a ≤ k ∧ -k ≤ a → b ≤ k ∧ -k ≤ b → a * b ≤ k * k ∧ -(k * k) ≤ a * b := by
    intro a b k hk ha hb
    have n : (a * b).natAbs ≤ k.natAbs * k.natAbs := by rw [Int.natAbs_mul]; exact Nat.mul_le_mul (by omega) (by omega)
    have n2 : ((k.natAbs * k.natAbs : Nat) : Int) = k * k := nat_sq k
    omega
  have m1 := prod (a := X) (b := 2 * e) (k := h) (by omega) hX ⟨e1, e2⟩
  have m2 := prod (a := Y) (b := 2 * f) (k := h) (by omega) hY ⟨f1, f2⟩
  have m3 := prod (a := 2 * e) (b := 2 * e) (k := h) (by omega) ⟨e1, e2⟩ ⟨e1, e2⟩
  have m4 := prod (a := 2 * f) (b := 2 * f) (k := h) (by omega) ⟨f1, f2⟩ ⟨f1, f2⟩
  have n3 : 0 ≤ (2 * e) * (2 * e) := by rw [← nat_sq]; omega
  have n4 : 0 ≤ (2 * f) * (2 * f) := by rw [← nat_sq]; omega
  have main : 4 * ((P * P + Q * Q) * (h * h)) = 4 * (U * U) * (X * X + Y * Y) + 4 * U * (X * (2 * e)) + 4 * U * (Y * (2 * f)) + (2 * e) * (2 * e) + (2 * f) * (2 * f) := by
    subst he hf
    grind
  have k2 : (h + 1) * (h + 1) = h * h + 2 * h + 1 := by grind
  have big : 1152921504606846976 * h ≤ h * h := Int.mul_le_mul_of_nonneg_right (by omega) (by omega)
  rw [k2] at h2
  subst hU
  generalize X * X + Y * Y = N at *
  generalize X * (2 * e) = a at *
  generalize Y * (2 * f) = b at *
  generalize 2 * e * (2 * e) = c at *
  generalize 2 * f * (2 * f) = d at *
  generalize hS : P * P + Q * Q = S at *
  have hH : 0 < h * h := by omega
  clear prod he hf e1 e2 f1 f2 p1 p2 q1 q2 hX hY k2 hS
  constructor
  · refine Int.not_lt.1 fun hn => ?_
    have t := Int.mul_le_mul_of_nonneg_right (show S ≤ 1152921500311879683 by omega) (Int.le_of_lt hH)
    generalize h * h = H at *
    generalize S * H = T at *
    omega
  · refine Int.not_lt.1 fun hn => ?_
    have t := Int.mul_le_mul_of_nonneg_right (show 1152921508901814277 ≤ S by omega) (Int.le_of_lt hH)
    generalize h * h = H at *
    generalize S * H = T at *
    omega
/-- A direction is right, as near to 1 as 2. -/
theorem of_near {x y : Int} (h0 : ¬ (x = 0 ∧ y = 0)) (hx : In62 x) (hy : In62 y) : 1152921500311879684 ≤ (ofS x y).1.1 * (ofS x y).1.1 + (ofS x y).1.2 * (ofS x y).1.2 ∧ (ofS x y).1.1 * (ofS x y).1.1 + (ofS x y).1.2 * (ofS x y).1.2 ≤ 1152921508901814276 ∧
    (-1073741824 ≤ (ofS x y).1.1 ∧ (ofS x y).1.1 ≤ 1073741824) ∧ -1073741824 ≤ (ofS x y).1.2 ∧ (ofS x y).1.2 ≤ 1073741824 := by
  obtain ⟨hs, hX, hY⟩ := len_is 61 x y (room_start h0) hx hy
  have e : ofS x y = ((shareN (lenL x y 61).1 (hypN (lenL x y 61).1 (lenL x y 61).2), shareN (lenL x y 61).2 (hypN (lenL x y 61).1 (lenL x y 61).2)), true) := by unfold ofS; rw [if_pos ⟨h0, hx, hy⟩]
  rw [e]
  dsimp only
  generalize (lenL x y 61).1 = X at *
  generalize (lenL x y 61).2 = Y at *
  have hl := hyp_long hs hX hY
  have ax := in62_abs hX
  have ay := in62_abs hY
  have ab := abs_le_hyp (x := X) (y := Y) (by omega) (by omega)
  have is := hyp_is X Y (by omega) (by omega)
  have qx := nat_sq X
  have qy := nat_sq Y
  generalize hypN X Y = h at *
  have s1 := share_err (n := X) (h := h) (by omega)
  have s2 := share_err (n := Y) (h := h) (by omega)
  have b1 := share_in (n := X) (h := h) (by omega) ab.1
  have b2 := share_in (n := Y) (h := h) (by omega) ab.2
  have i1 : (h : Int) * h ≤ X * X + Y * Y := by rw [← qx, ← qy]; have := is.1; exact_mod_cast this
  have i2 : X * X + Y * Y < ((h : Int) + 1) * ((h : Int) + 1) := by rw [← qx, ← qy]; have := is.2; exact_mod_cast this
  have k := near_one (h := (h : Int)) rfl (by omega) ⟨by omega, by omega⟩ ⟨by omega, by omega⟩ i1 i2 s1.1 s1.2 s2.1 s2.2
  exact ⟨k.1, k.2, b1, b2⟩
/-- Dot and Cross. -/
def vdot (x y u v : Int) : Int := near (x * u + y * v) 1073741824
def vcross (x y u v : Int) : Int := near (x * v + (-y) * u) 1073741824
/-- Brought to 1, or -1. -/
def capU (n : Int) : Int := if 1073741824 < n then 1073741824 else if n < -1073741824 then -1073741824 else n
theorem capU_in (n : Int) : -1073741824 ≤ capU n ∧ capU n ≤ 1073741824 := by unfold capU; (repeat' split) <;> omega
/-- The root of a half. -/
def halfR (k : Int) : Nat := rt (k.toNat * 536870912)
theorem half_is (k : Int) (h : k ≤ 2147483648) : IsRoot (k.toNat * 536870912) (halfR k) := rt_is _ (by omega)
theorem half_le (k : Int) (h : k ≤ 2147483648) : halfR k ≤ 1073741824 := by
  have i := half_is k h
  have g := root_ge i 1073741825
  refine Nat.le_of_lt_succ (Nat.lt_of_not_le fun hn => ?_)
  have := g.1 hn
  omega
/-- The handle, of half an angle's sine and cosine. -/
def handN (s c : Nat) : Int := near (4 * (s : Int) * 1073741824) (3 * (1073741824 + c))
def handL (n : Int) : Int := handN (halfR (1073741824 - capU n)) (halfR (1073741824 + capU n))
theorem hand_in {s c : Nat} (hs : s ≤ 1073741824) : 0 ≤ handN s c ∧ handN s c ≤ 1431655766 := by
  unfold handN near
  constructor
  · exact Int.ediv_nonneg (by omega) (by omega)
  · refine Int.le_of_lt_add_one ?_
    rw [Int.ediv_lt_iff_lt_mul (by omega)]; omega
theorem hand_short {s c : Nat} (hs : s ≤ 262144) : handN s c < 524288 := by
  unfold handN near
  rw [Int.ediv_lt_iff_lt_mul (by omega)]; omega
theorem hand_quarter : 593011231 ≤ handL 0 ∧ handL 0 ≤ 593011239 := by
  have r : halfR 1073741824 = 759250124 := isRoot_unique _ _ _ (half_is _ (by decide)) (by unfold IsRoot; decide)
  unfold handL
  rw [show capU 0 = 0 from by decide, show (1073741824 : Int) - 0 = 1073741824 from by decide, show (1073741824 : Int) + 0 = 1073741824 from by decide, r]
  decide
theorem hand_le (n : Int) : 0 ≤ handL n ∧ handL n ≤ 1431655766 := hand_in (half_le _ (by have := capU_in n; omega))

/-- No greater than 1 and 64, either way. -/
def In1 (x : Int) : Prop := x ≤ 1073741888 ∧ -1073741888 ≤ x
theorem in1_mul {x u : Int} (hx : In1 x) (hu : In1 u) : x * u ≤ 1152921642045804544 ∧ -1152921642045804544 ≤ x * u := by
  have n : (x * u).natAbs ≤ 1073741888 * 1073741888 := by
    rw [Int.natAbs_mul]; unfold In1 at hx hu; exact Nat.mul_le_mul (by omega) (by omega)
  omega
theorem vdot_in {x y u v : Int} (hx : In1 x) (hy : In1 y) (hu : In1 u) (hv : In1 v) : -4294967296 ≤ vdot x y u v ∧ vdot x y u v ≤ 4294967296 := by
  have a := in1_mul hx hu
  have b := in1_mul hy hv
  unfold vdot near
  generalize x * u = p at *
  generalize y * v = q at *
  omega
theorem in1_neg {x : Int} (h : In1 x) : In1 (-x) := by unfold In1 at *; omega
theorem vcross_dot (x y u v : Int) : vcross x y u v = vdot x (-y) v u := rfl
theorem right_in {x y : Int} (h : rightD x y) : In1 x ∧ In1 y := ⟨h.1, h.2.1⟩

theorem abs_lt_of_sq {S K : Int} (hK : 0 ≤ K) (h : S * S < K * K) : S < K ∧ -K < S := by
  have e1 := nat_sq S
  have e2 := nat_sq K
  have l : S.natAbs < K.natAbs := by
    refine Nat.lt_of_not_le fun hn => ?_
    have := Nat.mul_le_mul hn hn
    omega
  omega
/-- Lagrange's. -/
theorem lagrange (x y u v : Int) : (x * u + y * v) * (x * u + y * v) + (x * v + (-y) * u) * (x * v + (-y) * u) = (x * x + y * y) * (u * u + v * v) := by grind
theorem sq_pos (x : Int) : 0 ≤ x * x := by rw [← nat_sq]; omega
theorem mul_mono {a b c d : Int} (h0 : 0 ≤ a) (h1 : a ≤ c) (h2 : b ≤ d) (h3 : 0 ≤ b) : a * b ≤ c * d :=
  Int.le_trans (Int.mul_le_mul_of_nonneg_left h2 h0) (Int.mul_le_mul_of_nonneg_right h1 (Int.le_trans h3 h2))
/-- The squares of Dot and Cross come to 1. -/
theorem angle_one {x y u v : Int} (ha : rightD x y) (hb : rightD u v) :
    vdot x y u v * vdot x y u v + vcross x y u v * vcross x y u v - 1152921504606846976 ≤ 1099511627776 ∧ -1099511627776 ≤ vdot x y u v * vdot x y u v + vcross x y u v * vcross x y u v - 1152921504606846976 := by
  have L := lagrange x y u v
  have a1 := ha.2.2
  have b1 := hb.2.2
  have d1 : 2 * (vdot x y u v * 1073741824 - (x * u + y * v)) ≤ 1073741824 ∧ -1073741824 ≤ 2 * (vdot x y u v * 1073741824 - (x * u + y * v)) := by unfold vdot near; omega
  have d2 : 2 * (vcross x y u v * 1073741824 - (x * v + (-y) * u)) ≤ 1073741824 ∧ -1073741824 ≤ 2 * (vcross x y u v * 1073741824 - (x * v + (-y) * u)) := by unfold vcross near; omega
  generalize x * u + y * v = S at *
  generalize x * v + (-y) * u = T at *
  generalize vdot x y u v = D at *
  generalize vcross x y u v = C at *
  generalize x * x + y * y = N at *
  generalize u * u + v * v = M at *
  clear ha hb
  obtain ⟨e, he⟩ : ∃ e, e = D * 1073741824 - S := ⟨_, rfl⟩
  obtain ⟨f, hf⟩ : ∃ f, f = C * 1073741824 - T := ⟨_, rfl⟩
  rw [← he] at d1
  rw [← hf] at d2
  have p1 : N * M ≤ 1152921644193288320 * 1152921644193288320 := mul_mono (by omega) (by omega) (by omega) (by omega)
  have p2 : 1152921367167897600 * 1152921367167897600 ≤ N * M := mul_mono (by omega) (by omega) (by omega) (by omega)
  have sS := sq_pos S
  have sT := sq_pos T
  have hS := abs_lt_of_sq (S := S) (K := 1152921644193288321) (by decide) (by omega)
  have hT := abs_lt_of_sq (S := T) (K := 1152921644193288321) (by decide) (by omega)
  have prod : ∀ {a b k l : Int}, 0 ≤ k → 0 ≤ l → a ≤ k ∧ -k ≤ a → b ≤ l ∧ -l ≤ b → a * b ≤ k * l ∧ -(k * l) ≤ a * b := by
    intro a b k l hk hl ha hb
    have n : (a * b).natAbs ≤ k.natAbs * l.natAbs := by rw [Int.natAbs_mul]; exact Nat.mul_le_mul (by omega) (by omega)
    have n2 : ((k.natAbs * l.natAbs : Nat) : Int) = k * l := by rw [Int.natCast_mul, Int.natAbs_of_nonneg hk, Int.natAbs_of_nonneg hl]
    omega
  have m1 := prod (a := S) (b := 2 * e) (k := 1152921644193288321) (l := 1073741824) (by decide) (by decide) (by omega) d1
  have m2 := prod (a := T) (b := 2 * f) (k := 1152921644193288321) (l := 1073741824) (by decide) (by decide) (by omega) d2
  have m3 := prod (a := 2 * e) (b := 2 * e) (k := 1073741824) (l := 1073741824) (by decide) (by decide) d1 d1
  have m4 := prod (a := 2 * f) (b := 2 * f) (k := 1073741824) (l := 1073741824) (by decide) (by decide) d2 d2
  have n3 := sq_pos (2 * e)
  have n4 := sq_pos (2 * f)
  have main : 4 * (1152921504606846976 * (D * D + C * C)) = 4 * (S * S + T * T) + 4 * (S * (2 * e)) + 4 * (T * (2 * f)) + (2 * e) * (2 * e) + (2 * f) * (2 * f) := by
    have hD : D * 1073741824 = S + e := by omega
    have hC : C * 1073741824 = T + f := by omega
    have h1 : (D * 1073741824) * (D * 1073741824) = (S + e) * (S + e) := by rw [hD]
    have h2 : (C * 1073741824) * (C * 1073741824) = (T + f) * (T + f) := by rw [hC]
    grind
  rw [L] at main
  clear prod he hf d1 d2 L hS hT sS sT a1 b1
  generalize N * M = P at *
  generalize S * (2 * e) = a at *
  generalize T * (2 * f) = b at *
  generalize 2 * e * (2 * e) = c at *
  generalize 2 * f * (2 * f) = d at *
  generalize D * D = d2 at *
  generalize C * C = c2 at *
  omega

/-- Turned by so many quarters. -/
def turnP (q : Nat) (x y : Int) : Int × Int :=
  match q with
  | 0 => (x, y)
  | 1 => (-y, x)
  | 2 => (-x, -y)
  | _ => (y, -x)
theorem turn_in1 (q : Nat) {x y : Int} (hx : In1 x) (hy : In1 y) : In1 (turnP q x y).1 ∧ In1 (turnP q x y).2 := by
  have nx := in1_neg hx
  have ny := in1_neg hy
  rcases q with _ | _ | _ | q
  · exact ⟨hx, hy⟩
  · exact ⟨ny, hx⟩
  · exact ⟨nx, ny⟩
  · exact ⟨hy, nx⟩
theorem turn_dot (q : Nat) (x y u v : Int) : vdot (turnP q x y).1 (turnP q x y).2 (turnP q u v).1 (turnP q u v).2 = vdot x y u v := by
  rcases q with _ | _ | _ | q <;> simp only [turnP, vdot]
  · rw [Int.neg_mul_neg, Int.add_comm]
  · rw [Int.neg_mul_neg, Int.neg_mul_neg]
  · rw [Int.neg_mul_neg, Int.add_comm]
theorem turn_cross (q : Nat) (x y u v : Int) : vcross (turnP q x y).1 (turnP q x y).2 (turnP q u v).1 (turnP q u v).2 = vcross x y u v := by
  rcases q with _ | _ | _ | q <;> simp only [turnP, vcross]
  · congr 1; grind
  · congr 1; grind
  · congr 1; grind
theorem vdot_comm (x y u v : Int) : vdot u v x y = vdot x y u v := by unfold vdot; rw [Int.mul_comm u x, Int.mul_comm v y]
theorem dot_turned (x y : Int) : vdot x y (-y) x = 0 := by
  unfold vdot
  rw [show x * -y + y * x = 0 from by grind]; decide
theorem cross_turned {x y : Int} (h : rightD x y) : 1073741624 ≤ vcross x y (-y) x ∧ vcross x y (-y) x ≤ 1073742024 := by
  have := h.2.2
  unfold vcross near
  rw [show x * x + -y * -y = x * x + y * y from by rw [Int.neg_mul_neg]]
  generalize x * x + y * y = N at *
  omega
theorem dot_self {x y : Int} (h : rightD x y) : 1073741696 ≤ vdot x y x y := by
  have := h.2.2
  unfold vdot near
  generalize x * x + y * y = N at *
  omega
theorem hand_self {x y : Int} (h : rightD x y) : handL (vdot x y x y) < 524288 := by
  have d := dot_self h
  generalize vdot x y x y = n at *
  refine hand_short ?_
  have c : 1073741696 ≤ capU n ∧ capU n ≤ 1073741824 := by unfold capU; (repeat' split) <;> omega
  generalize capU n = m at *
  have i := half_is (1073741824 - m) (by omega)
  refine Nat.le_of_lt_succ (Nat.lt_of_not_le fun hn => ?_)
  have := (root_ge i 262145).1 hn
  omega
/-- Turned one number of quarters and then another. -/
theorem turn_right (q : Nat) {x y : Int} (h : rightD x y) : rightD (turnP q x y).1 (turnP q x y).2 := by
  obtain ⟨h1, h2⟩ := turn_in1 q (x := x) (y := y) h.1 h.2.1
  refine ⟨h1, h2, ?_⟩
  have e : (turnP q x y).1 * (turnP q x y).1 + (turnP q x y).2 * (turnP q x y).2 = x * x + y * y := by
    rcases q with _ | _ | _ | q <;> simp only [turnP]
    · rw [Int.neg_mul_neg, Int.add_comm]
    · rw [Int.neg_mul_neg, Int.neg_mul_neg]
    · rw [Int.neg_mul_neg, Int.add_comm]
  rw [e]; exact h.2.2
theorem turn_back (x y : Int) : turnP 1 (turnP 2 (-y) x).1 (turnP 2 (-y) x).2 = (x, y) := by simp [turnP]
end Go.Proofs.Ythnjdncnmdmjaaa
