/-
  Sine and cosine of any number of degrees: signs, quarters, the circle, and those of a sum.
-/
import Derived.Test.YtdngoeabdpeigaaTrigRest
namespace Go.Proofs.Ytdngoeabdpeigaa

/-- What sine and cosine of a sum are held against: within 3 of the last place. -/
def Adds (s1 c1 s2 c2 s c : Int) : Prop :=
  (-3221225472 ≤ 1073741824 * s - (s1 * c2 + c1 * s2) ∧ 1073741824 * s - (s1 * c2 + c1 * s2) ≤ 3221225472) ∧
  (-3221225472 ≤ 1073741824 * c - (c1 * c2 - s1 * s2) ∧ 1073741824 * c - (c1 * c2 - s1 * s2) ≤ 3221225472)

theorem adds_half (a b : Int) (ha : 0 ≤ a) (hb : 0 ≤ b) (hb2 : b ≤ 2949120) (hab : a + b ≤ 5898240) : Adds (restS a) (restC a) (restS b) (restC b) (restS (a + b)) (restC (a + b)) := by
  have ka := rest_err a ha (by omega)
  have kb := rest_err b hb (by omega)
  have kc := rest_err (a + b) (by omega) hab
  have oa := rest_one a ha (by omega)
  have ob := rest_one b hb (by omega)
  have hX := ang_wi2 a ha (by omega)
  have hY := ang_wi b hb hb2
  have a1 := add_sf hX hY
  have a2 := add_cf hX hY
  rw [← ang_add] at a1 a2
  have p1 := prod_err ka.1 kb.2 (one_rat oa.1) (one_rat ob.2)
  have p2 := prod_err ka.2 kb.1 (one_rat oa.2) (one_rat ob.1)
  have p3 := prod_err ka.2 kb.2 (one_rat oa.2) (one_rat ob.2)
  have p4 := prod_err ka.1 kb.1 (one_rat oa.1) (one_rat ob.1)
  generalize sf (ang a) = SA at *
  generalize cf (ang a) = CA at *
  generalize sf (ang b) = SB at *
  generalize cf (ang b) = CB at *
  generalize sf (ang (a + b)) = SG at *
  generalize cf (ang (a + b)) = CG at *
  generalize restS a = s1 at *
  generalize restC a = c1 at *
  generalize restS b = s2 at *
  generalize restC b = c2 at *
  generalize restS (a + b) = s at *
  generalize restC (a + b) = c at *
  have U : Wi (1073741824 : Rat) 1073741824 := Wi.of (by decide +kernel) (Rat.le_refl)
  have U2 : Wi (1152921504606846976 : Rat) 1152921504606846976 := Wi.of (by decide +kernel) (Rat.le_refl)
  have e : Wi (1073741824 * (s : Rat) - ((s1 : Rat) * c2 + (c1 : Rat) * s2)) 3221225472 := by
    rw [show 1073741824 * (s : Rat) - ((s1 : Rat) * c2 + (c1 : Rat) * s2) = 1073741824 * ((s : Rat) - 1073741824 * SG) + 1152921504606846976 * (SG - (SA * CB + CA * SB)) - ((s1 : Rat) * c2 - 1073741824 * SA * (1073741824 * CB)) - ((c1 : Rat) * s2 - 1073741824 * CA * (1073741824 * SB)) from by grind]
    exact ((((U.mul kc.1).add (U2.mul a1)).sub p1).sub p2).le (by decide +kernel)
  have e' : Wi (1073741824 * (c : Rat) - ((c1 : Rat) * c2 - (s1 : Rat) * s2)) 3221225472 := by
    rw [show 1073741824 * (c : Rat) - ((c1 : Rat) * c2 - (s1 : Rat) * s2) = 1073741824 * ((c : Rat) - 1073741824 * CG) + 1152921504606846976 * (CG - (CA * CB - SA * SB)) - ((c1 : Rat) * c2 - 1073741824 * CA * (1073741824 * CB)) + ((s1 : Rat) * s2 - 1073741824 * SA * (1073741824 * SB)) from by grind]
    exact ((((U.mul kc.2).add (U2.mul a2)).sub p3).add p4).le (by decide +kernel)
  have f : ((1073741824 * s - (s1 * c2 + c1 * s2) : Int) : Rat) = 1073741824 * (s : Rat) - ((s1 : Rat) * c2 + (c1 : Rat) * s2) := by
    rw [Rat.intCast_sub, Rat.intCast_add, Rat.intCast_mul, Rat.intCast_mul, Rat.intCast_mul]; rfl
  have f' : ((1073741824 * c - (c1 * c2 - s1 * s2) : Int) : Rat) = 1073741824 * (c : Rat) - ((c1 : Rat) * c2 - (s1 : Rat) * s2) := by
    rw [Rat.intCast_sub, Rat.intCast_sub, Rat.intCast_mul, Rat.intCast_mul, Rat.intCast_mul]; rfl
  rw [← f] at e
  rw [← f'] at e'
  exact ⟨⟨Rat.intCast_le_intCast.1 (Rat.le_trans (by decide +kernel) e.1), Rat.intCast_le_intCast.1 (Rat.le_trans e.2 (by decide +kernel))⟩,
    ⟨Rat.intCast_le_intCast.1 (Rat.le_trans (by decide +kernel) e'.1), Rat.intCast_le_intCast.1 (Rat.le_trans e'.2 (by decide +kernel))⟩⟩

theorem Adds.swap {s1 c1 s2 c2 s c : Int} (h : Adds s1 c1 s2 c2 s c) : Adds s2 c2 s1 c1 s c := by
  unfold Adds at *
  rw [Int.mul_comm s2 c1, Int.mul_comm c2 s1, Int.mul_comm c2 c1, Int.mul_comm s2 s1]
  omega
/-- A quarter more, on either side. -/
theorem Adds.turn {s1 c1 s2 c2 s c : Int} (h : Adds s1 c1 s2 c2 s c) : Adds c1 (-s1) s2 c2 c (-s) := by
  unfold Adds at *
  rw [Int.neg_mul, Int.neg_mul, Int.mul_neg]
  omega

theorem adds_low (a b : Int) (ha : 0 ≤ a) (hb : 0 ≤ b) (hab : a + b ≤ 5898240) : Adds (restS a) (restC a) (restS b) (restC b) (restS (a + b)) (restC (a + b)) := by
  by_cases h : b ≤ 2949120
  · exact adds_half a b ha hb h hab
  · rw [Int.add_comm a b]
    exact (adds_half b a hb ha (by omega) (by omega)).swap

theorem half_same : serS 2949120 = serC 2949120 := by decide +kernel

/-- What is left to a quarter. -/
theorem rest_left (r : Int) : restS (5898240 - r) = restC r ∧ restC (5898240 - r) = restS r := by
  unfold restS restC
  by_cases h : r ≤ 2949120
  · by_cases h2 : r = 2949120
    · subst h2
      exact ⟨half_same, half_same.symm⟩
    · rw [if_pos h, if_pos h, if_neg (by omega), if_neg (by omega), show 5898240 - (5898240 - r) = r from by omega]
      exact ⟨rfl, rfl⟩
  · rw [if_neg h, if_neg h, if_pos (by omega), if_pos (by omega)]
    exact ⟨rfl, rfl⟩

/-- Both rests together go beyond a quarter. -/
theorem adds_high (a b : Int) (ha : a ≤ 5898240) (hb : b ≤ 5898240) (hab : 5898240 ≤ a + b) : Adds (restS a) (restC a) (restS b) (restC b) (restC (a + b - 5898240)) (-restS (a + b - 5898240)) := by
  have h := adds_low (5898240 - a) (5898240 - b) (by omega) (by omega) (by omega)
  have e := rest_left (a + b - 5898240)
  rw [(rest_left a).1, (rest_left a).2, (rest_left b).1, (rest_left b).2, show 5898240 - a + (5898240 - b) = 5898240 - (a + b - 5898240) from by omega, e.1, e.2] at h
  unfold Adds at *
  generalize restS (a + b - 5898240) = s at *
  generalize restC (a + b - 5898240) = c at *
  omega

/-- By the quarter. -/
def rotS (q : Nat) (s c : Int) : Int := match q % 4 with | 0 => s | 1 => c | 2 => -s | _ => -c
def rotC (q : Nat) (s c : Int) : Int := match q % 4 with | 0 => c | 1 => -s | 2 => -c | _ => s
theorem rotS_succ (q : Nat) (s c : Int) : rotS (q + 1) s c = rotC q s c := by
  have h : q % 4 = 0 ∨ q % 4 = 1 ∨ q % 4 = 2 ∨ q % 4 = 3 := by omega
  unfold rotS rotC
  rcases h with h | h | h | h <;> simp [h, Nat.add_mod]
theorem rotC_succ (q : Nat) (s c : Int) : rotC (q + 1) s c = -rotS q s c := by
  have h : q % 4 = 0 ∨ q % 4 = 1 ∨ q % 4 = 2 ∨ q % 4 = 3 := by omega
  unfold rotS rotC
  rcases h with h | h | h | h <;> simp [h, Nat.add_mod]
theorem rot_mod (q : Nat) (s c : Int) : rotS (q % 4) s c = rotS q s c ∧ rotC (q % 4) s c = rotC q s c := by
  unfold rotS rotC
  rw [Nat.mod_mod]
  exact ⟨rfl, rfl⟩

/-- Sine and cosine of the turn of d. -/
def quart (d : Int) : Nat := (d % 23592960 / 5898240).toNat
def bothS (d : Int) : Int := rotS (quart d) (restS (d % 5898240)) (restC (d % 5898240))
def bothC (d : Int) : Int := rotC (quart d) (restS (d % 5898240)) (restC (d % 5898240))

/-- Any way to say a number of degrees as quarters and a rest. -/
theorem both_of (d : Int) (q : Nat) (r : Int) (h0 : 0 ≤ r) (h1 : r < 5898240) (n : Int) (h : d = n * 23592960 + q * 5898240 + r) : bothS d = rotS q (restS r) (restC r) ∧ bothC d = rotC q (restS r) (restC r) := by
  have e1 : d % 5898240 = r := by omega
  have e2 : quart d = q % 4 := by
    unfold quart
    omega
  unfold bothS bothC
  rw [e1, e2]
  exact rot_mod q _ _
theorem both_say (d : Int) : ∃ (q : Nat) (r n : Int), 0 ≤ r ∧ r < 5898240 ∧ d = n * 23592960 + q * 5898240 + r :=
  ⟨quart d, d % 5898240, d / 23592960, by omega, by omega, by unfold quart; omega⟩

theorem adds_turn (q : Nat) : ∀ {s1 c1 s2 c2 s c : Int}, Adds s1 c1 s2 c2 s c → Adds (rotS q s1 c1) (rotC q s1 c1) s2 c2 (rotS q s c) (rotC q s c) := by
  induction q with
  | zero => intro s1 c1 s2 c2 s c h; exact h
  | succ q ih =>
    intro s1 c1 s2 c2 s c h
    rw [rotS_succ, rotC_succ, rotS_succ, rotC_succ]
    exact (ih h).turn
theorem rot_rot (p q : Nat) (s c : Int) : rotS p (rotS q s c) (rotC q s c) = rotS (p + q) s c ∧ rotC p (rotS q s c) (rotC q s c) = rotC (p + q) s c := by
  induction p with
  | zero => rw [Nat.zero_add]; exact ⟨rfl, rfl⟩
  | succ p ih =>
    rw [rotS_succ, rotC_succ, show p + 1 + q = (p + q) + 1 from by omega, rotS_succ, rotC_succ, ih.1, ih.2]
    exact ⟨rfl, rfl⟩

/-- Sine and cosine of a sum. -/
theorem adds_both (a b : Int) : Adds (bothS a) (bothC a) (bothS b) (bothC b) (bothS (a + b)) (bothC (a + b)) := by
  obtain ⟨p, r, n, h0, h1, h⟩ := both_say a
  obtain ⟨q, t, m, k0, k1, k⟩ := both_say b
  have ea := both_of a p r h0 h1 n h
  have eb := both_of b q t k0 k1 m k
  rw [ea.1, ea.2, eb.1, eb.2]
  by_cases g : r + t < 5898240
  · have ec := both_of (a + b) (p + q) (r + t) (by omega) g (n + m) (by rw [h, k]; omega)
    rw [ec.1, ec.2]
    have z := adds_turn q (adds_low r t h0 k0 (by omega)).swap
    have z2 := adds_turn p z.swap
    rw [(rot_rot p q _ _).1, (rot_rot p q _ _).2] at z2
    exact z2
  · have ec := both_of (a + b) (p + (q + 1)) (r + t - 5898240) (by omega) (by omega) (n + m) (by rw [h, k]; omega)
    rw [ec.1, ec.2]
    have z0 := adds_high r t (by omega) (by omega) (by omega)
    have z1 : Adds (restS t) (restC t) (restS r) (restC r) (rotS 1 (restS (r + t - 5898240)) (restC (r + t - 5898240))) (rotC 1 (restS (r + t - 5898240)) (restC (r + t - 5898240))) := z0.swap
    have z := adds_turn q z1
    rw [(rot_rot q 1 _ _).1, (rot_rot q 1 _ _).2] at z
    have z2 := adds_turn p z.swap
    rw [(rot_rot p (q + 1) _ _).1, (rot_rot p (q + 1) _ _).2] at z2
    exact z2

/-- What the law asks of one of them. -/
theorem floor_four (u v : Int) (h : -3221225472 ≤ 1073741824 * u - v ∧ 1073741824 * u - v ≤ 3221225472) : u - v / 1073741824 ≤ 4 ∧ v / 1073741824 - u ≤ 4 := by omega

theorem rot_wi (q : Nat) {s c : Int} (h1 : -1073741824 ≤ s ∧ s ≤ 1073741824) (h2 : -1073741824 ≤ c ∧ c ≤ 1073741824) :
    (-1073741824 ≤ rotS q s c ∧ rotS q s c ≤ 1073741824) ∧ (-1073741824 ≤ rotC q s c ∧ rotC q s c ≤ 1073741824) := by
  induction q with
  | zero => exact ⟨h1, h2⟩
  | succ q ih =>
    rw [rotS_succ, rotC_succ]
    omega
theorem rot_sq (q : Nat) (s c : Int) : rotS q s c * rotS q s c + rotC q s c * rotC q s c = s * s + c * c := by
  induction q with
  | zero => rfl
  | succ q ih =>
    rw [rotS_succ, rotC_succ, Int.neg_mul_neg, Int.add_comm]
    exact ih

/-- Both lie from -1 to 1, and on the circle. -/
theorem both_one (d : Int) : (-1073741824 ≤ bothS d ∧ bothS d ≤ 1073741824) ∧ (-1073741824 ≤ bothC d ∧ bothC d ≤ 1073741824) := by
  have h := rest_one (d % 5898240) (by omega) (by omega)
  exact rot_wi _ h.1 h.2
theorem both_circle (d : Int) : -4294967296 ≤ bothS d * bothS d + bothC d * bothC d - 1152921504606846976 ∧ bothS d * bothS d + bothC d * bothC d - 1152921504606846976 ≤ 4294967296 := by
  unfold bothS bothC
  rw [rot_sq]
  unfold restS restC
  by_cases h : d % 5898240 ≤ 2949120
  · rw [if_pos h, if_pos h]
    exact ser_circle _ (by omega) h
  · rw [if_neg h, if_neg h, Int.add_comm (serC _ * _)]
    exact ser_circle _ (by omega) (by omega)

/-- The other sign. -/
theorem rest_zero : restS 0 = 0 ∧ restC 0 = 1073741824 := by decide +kernel
theorem rest_quarter : restS 5898240 = 1073741824 ∧ restC 5898240 = 0 := by decide +kernel
theorem rot_three (q : Nat) (s c : Int) : rotS (3 * q) c s = rotC q s c ∧ rotC (3 * q) c s = rotS q s c := by
  have h : q % 4 = 0 ∨ q % 4 = 1 ∨ q % 4 = 2 ∨ q % 4 = 3 := by omega
  unfold rotS rotC
  rcases h with h | h | h | h
  · rw [show 3 * q % 4 = 0 from by omega, h]; exact ⟨rfl, rfl⟩
  · rw [show 3 * q % 4 = 3 from by omega, h]; exact ⟨rfl, rfl⟩
  · rw [show 3 * q % 4 = 2 from by omega, h]; exact ⟨rfl, rfl⟩
  · rw [show 3 * q % 4 = 1 from by omega, h]; exact ⟨rfl, rfl⟩
/-- What is left to a quarter. -/
theorem both_left (d : Int) : bothS (5898240 - d) = bothC d ∧ bothC (5898240 - d) = bothS d := by
  obtain ⟨q, r, n, h0, h1, h⟩ := both_say d
  have ed := both_of d q r h0 h1 n h
  rw [ed.1, ed.2]
  by_cases hr : r = 0
  · subst hr
    have e := both_of (5898240 - d) (3 * q + 1) 0 (by omega) (by omega) (-n - q) (by omega)
    rw [e.1, e.2, rest_zero.1, rest_zero.2, rotS_succ, rotC_succ]
    have h : q % 4 = 0 ∨ q % 4 = 1 ∨ q % 4 = 2 ∨ q % 4 = 3 := by omega
    unfold rotS rotC
    rcases h with h | h | h | h
    · rw [show 3 * q % 4 = 0 from by omega, h]; exact ⟨rfl, rfl⟩
    · rw [show 3 * q % 4 = 3 from by omega, h]; exact ⟨rfl, rfl⟩
    · rw [show 3 * q % 4 = 2 from by omega, h]; exact ⟨rfl, rfl⟩
    · rw [show 3 * q % 4 = 1 from by omega, h]; exact ⟨rfl, rfl⟩
  · have e := both_of (5898240 - d) (3 * q) (5898240 - r) (by omega) (by omega) (-n - q) (by omega)
    rw [e.1, e.2, (rest_left r).1, (rest_left r).2]
    exact rot_three q _ _
/-- A quarter's turn. -/
theorem both_quarter (d : Int) : bothS (d + 5898240) = bothC d ∧ bothC (d + 5898240) = -bothS d := by
  obtain ⟨q, r, n, h0, h1, h⟩ := both_say d
  have ed := both_of d q r h0 h1 n h
  have e := both_of (d + 5898240) (q + 1) r h0 h1 n (by omega)
  rw [ed.1, ed.2, e.1, e.2, rotS_succ, rotC_succ]
  exact ⟨rfl, rfl⟩
/-- Half a turn. -/
theorem both_half (d : Int) : bothS (d + 11796480) = -bothS d ∧ bothC (d + 11796480) = -bothC d := by
  have h1 := both_quarter d
  have h2 := both_quarter (d + 5898240)
  rw [show d + 5898240 + 5898240 = d + 11796480 from by omega] at h2
  rw [h2.1, h2.2, h1.1, h1.2]
  exact ⟨rfl, rfl⟩
/-- The other sign. -/
theorem both_neg (d : Int) : bothS (-d) = -bothS d ∧ bothC (-d) = bothC d := by
  have h1 := both_left (d + 5898240)
  have h2 := both_quarter d
  rw [show 5898240 - (d + 5898240) = -d from by omega] at h1
  rw [h1.1, h1.2, h2.1, h2.2]
  exact ⟨rfl, rfl⟩
/-- The document's examples. -/
theorem both_30 : bothS 1966080 = 536870912 := by decide +kernel
theorem both_60 : bothC 3932160 = 536870912 := by decide +kernel
theorem both_90 : bothS (-5898240) = -1073741824 := by decide +kernel
end Go.Proofs.Ytdngoeabdpeigaa
