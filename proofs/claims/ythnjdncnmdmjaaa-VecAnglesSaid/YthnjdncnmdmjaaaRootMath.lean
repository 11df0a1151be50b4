/-
  Plain arithmetic of square roots that are put together bit by bit.
-/
namespace Go.Proofs.Ythnjdncnmdmjaaa

/-- The steps from the number r on, with the powers of two below 2^k. -/
def stepsL (N r : Nat) : Nat → List Nat
  | 0 => []
  | k + 1 => if (r + 2 ^ k) * (r + 2 ^ k) ≤ N then (r + 2 ^ k) :: stepsL N (r + 2 ^ k) k else stepsL N r k
/-- The last of them. -/
def rootL (N r : Nat) : Nat → Nat
  | 0 => r
  | k + 1 => if (r + 2 ^ k) * (r + 2 ^ k) ≤ N then rootL N (r + 2 ^ k) k else rootL N r k

def IsRoot (N s : Nat) : Prop := s * s ≤ N ∧ N < (s + 1) * (s + 1)

theorem two_pow (k : Nat) : 2 ^ (k + 1) = 2 ^ k + 2 ^ k := by rw [Nat.pow_succ]; omega

theorem rootL_is (N k : Nat) : ∀ r, r * r ≤ N → N < (r + 2 ^ k) * (r + 2 ^ k) → IsRoot N (rootL N r k) := by
  induction k with
  | zero => intro r h1 h2; exact ⟨h1, by simpa [rootL] using h2⟩
  | succ k ih =>
    intro r h1 h2
    rw [rootL]
    rw [two_pow, ← Nat.add_assoc] at h2
    split
    · exact ih _ (by assumption) h2
    · exact ih _ h1 (by omega)

theorem rootL_bounds (N k : Nat) : ∀ r, r ≤ rootL N r k ∧ rootL N r k < r + 2 ^ k := by
  induction k with
  | zero => intro r; simp [rootL]
  | succ k ih =>
    intro r
    rw [rootL, two_pow]
    have h1 := ih r
    have h2 := ih (r + 2 ^ k)
    split <;> omega

theorem stepsL_length (N k : Nat) : ∀ r, (stepsL N r k).length ≤ k := by
  induction k with
  | zero => intro r; simp [stepsL]
  | succ k ih =>
    intro r
    rw [stepsL]
    have h1 := ih r
    have h2 := ih (r + 2 ^ k)
    split
    · rw [List.length_cons]; omega
    · omega

/-- The last step is the root; without steps it is what was there. -/
theorem stepsL_last (N k : Nat) : ∀ r, (stepsL N r k).getLastD r = rootL N r k := by
  induction k with
  | zero => intro r; rfl
  | succ k ih =>
    intro r
    rw [stepsL, rootL]
    split
    · rw [List.getLastD_cons]; exact ih _
    · exact ih r

theorem isRoot_unique (N a b : Nat) (ha : IsRoot N a) (hb : IsRoot N b) : a = b := by
  have aux : ∀ {x y : Nat}, IsRoot N x → IsRoot N y → ¬ x < y := by
    intro x y hx hy h
    have h2 : (x + 1) * (x + 1) ≤ y * y := Nat.mul_le_mul h h
    have := hx.2
    have := hy.1
    omega
  have h1 := aux ha hb
  have h2 := aux hb ha
  omega

/-- The root of any number of 128 bits. -/
def rt (N : Nat) : Nat := rootL N 0 64
theorem rt_is (N : Nat) (h : N < 340282366920938463463374607431768211456) : IsRoot N (rt N) :=
  rootL_is N 64 0 (by omega) (by rw [Nat.zero_add]; exact h)
theorem rt_lt (N : Nat) : rt N < 18446744073709551616 := by
  have := (rootL_bounds N 64 0).2
  rw [Nat.zero_add] at this
  exact this
/-- A short number's root, by the lower half of the bits alone. -/
theorem rt_short (N : Nat) (h : N < 18446744073709551616) : rootL N 0 32 = rt N :=
  isRoot_unique N _ _ (rootL_is N 32 0 (by omega) (by rw [Nat.zero_add]; exact h)) (rt_is N (by omega))
theorem short_lt (N : Nat) : rootL N 0 32 < 4294967296 := by
  have := (rootL_bounds N 32 0).2
  rw [Nat.zero_add] at this
  exact this
theorem isRoot_mono {A B a b : Nat} (ha : IsRoot A a) (hb : IsRoot B b) (h : A ≤ B) : a ≤ b := by
  refine Nat.le_of_not_lt fun hlt => ?_
  have h2 : (b + 1) * (b + 1) ≤ a * a := Nat.mul_le_mul hlt hlt
  have := ha.1
  have := hb.2
  omega
/-- The root of a number four times as great. -/
theorem isRoot_four {A a s : Nat} (ha : IsRoot A a) (hs : IsRoot (4 * A) s) : s = 2 * a ∨ s = 2 * a + 1 := by
  have h1 : 2 * a ≤ s := by
    refine Nat.le_of_not_lt fun hlt => ?_
    have h2 : (s + 1) * (s + 1) ≤ (2 * a) * (2 * a) := Nat.mul_le_mul hlt hlt
    have e : (2 * a) * (2 * a) = 4 * (a * a) := by rw [Nat.mul_mul_mul_comm]
    have := ha.1
    have := hs.2
    omega
  have h2 : s < 2 * (a + 1) := by
    refine Nat.lt_of_not_le fun hle => ?_
    have h3 : (2 * (a + 1)) * (2 * (a + 1)) ≤ s * s := Nat.mul_le_mul hle hle
    have e : (2 * (a + 1)) * (2 * (a + 1)) = 4 * ((a + 1) * (a + 1)) := by rw [Nat.mul_mul_mul_comm]
    have := ha.2
    have := hs.1
    omega
  omega
end Go.Proofs.Ythnjdncnmdmjaaa
