/-
  A flat cubic lies near its chord, plainly: at each 16th of it.
-/
import Derived.Test.YtgkjbmejfcijkaaJCv

namespace Go.Proofs.Ytgkjbmejfcijkaa

theorem betw16 (a b : Int) (k : Int) : betw a b (4096 * k) = a + ((b - a) * k + 8) / 16 := by
  rw [betw_eq]
  congr 1
  have e : (b - a) * (4096 * k) + 32768 = ((b - a) * k + 8) * 4096 := by
    rw [Int.mul_left_comm, Int.mul_comm 4096, Int.add_mul]
    rfl
  rw [e, show (65536 : Int) = 16 * 4096 from by decide, Int.mul_ediv_mul_of_pos_left _ _ (by decide)]
/-- A number of the curve at k 16ths, from the chord's at the same place, 16 times. -/
def offL (a b c d : Int) (k : Int) : Int := 16 * (b4 a b c d (4096 * k) - a) - k * (d - a)
theorem off_one (a b c d : Int) (k : Nat) (hk : k < 16) (h : bd4 512 a b c d) : -6200 ≤ offL a b c d k ∧ offL a b c d k ≤ 6200 := by
  unfold offL b4 b3
  simp only [betw16]
  unfold bd4 at h
  have : k = 0 ∨ k = 1 ∨ k = 2 ∨ k = 3 ∨ k = 4 ∨ k = 5 ∨ k = 6 ∨ k = 7 ∨ k = 8 ∨ k = 9 ∨ k = 10 ∨ k = 11 ∨ k = 12 ∨ k = 13 ∨ k = 14 ∨ k = 15 := by omega
  rcases this with rfl | rfl | rfl | rfl | rfl | rfl | rfl | rfl | rfl | rfl | rfl | rfl | rfl | rfl | rfl | rfl <;> omega
theorem sq_pos (x : Int) : 0 ≤ x * x := by rw [← Int.natAbs_mul_self' x]; exact Int.natCast_nonneg _
theorem lt_sq {x n : Int} (hn : 0 < n) (h : x * x < n * n) : -n < x ∧ x < n := by
  constructor
  · refine Int.not_le.1 fun k => ?_
    have h1 : n ≤ -x := by omega
    have h2 : n * n ≤ -x * -x := Int.mul_le_mul h1 h1 (by omega) (by omega)
    rw [Int.neg_mul_neg] at h2
    omega
  · refine Int.not_le.1 fun k => ?_
    have h2 : n * n ≤ x * x := Int.mul_le_mul k k (by omega) (by omega)
    omega
theorem mul_bd {x e n E : Int} (hx : -n ≤ x ∧ x ≤ n) (he : -E ≤ e ∧ e ≤ E) (hn : 0 ≤ n) (hE : 0 ≤ E) : -(n * E) ≤ x * e ∧ x * e ≤ n * E := by
  have a1 : (x * e).natAbs ≤ n.natAbs * E.natAbs := by
    rw [Int.natAbs_mul]; exact Nat.mul_le_mul (by omega) (by omega)
  have a2 : ((n.natAbs * E.natAbs : Nat) : Int) = n * E := by
    rw [Int.natCast_mul, Int.natAbs_of_nonneg hn, Int.natAbs_of_nonneg hE]
  omega
/-- The law's test of a point by a chord: the one across, and the one along. -/
theorem near_line {dx dy px py ex ey k h : Int} (hk0 : 0 ≤ k) (hk : k ≤ 15) (h0 : 0 ≤ h) (h1 : dx * dx + dy * dy < (h + 1) * (h + 1))
    (ex0 : 16 * px - k * dx = ex) (ey0 : 16 * py - k * dy = ey) (hx : -6200 ≤ ex ∧ ex ≤ 6200) (hy : -6200 ≤ ey ∧ ey ≤ 6200) :
    (-(1024 * (h + 1)) ≤ dx * py - dy * px ∧ dx * py - dy * px ≤ 1024 * (h + 1)) ∧ (-(1024 * (h + 1)) ≤ dx * px + dy * py ∧ dx * px + dy * py ≤ (h + 1025) * (h + 1)) := by
  have sx : 0 ≤ dx * dx := sq_pos dx
  have sy : 0 ≤ dy * dy := sq_pos dy
  have bx := lt_sq (x := dx) (n := h + 1) (by omega) (by omega)
  have by' := lt_sq (x := dy) (n := h + 1) (by omega) (by omega)
  have c1 := mul_bd (x := dx) (e := ey) (n := h) (E := 6200) (by omega) hy h0 (by decide)
  have c2 := mul_bd (x := dy) (e := ex) (n := h) (E := 6200) (by omega) hx h0 (by decide)
  have c3 := mul_bd (x := dx) (e := ex) (n := h) (E := 6200) (by omega) hx h0 (by decide)
  have c4 := mul_bd (x := dy) (e := ey) (n := h) (E := 6200) (by omega) hy h0 (by decide)
  have e1 : dx * ey = 16 * (dx * py) - k * (dx * dy) := by rw [← ey0]; grind
  have e2 : dy * ex = 16 * (dy * px) - k * (dx * dy) := by rw [← ex0]; grind
  have e3 : dx * ex = 16 * (dx * px) - k * (dx * dx) := by rw [← ex0]; grind
  have e4 : dy * ey = 16 * (dy * py) - k * (dy * dy) := by rw [← ey0]; grind
  have k1 : 0 ≤ k * (dx * dx) := Int.mul_nonneg hk0 sx
  have k2 : 0 ≤ k * (dy * dy) := Int.mul_nonneg hk0 sy
  have k3 : k * (dx * dx) ≤ 15 * (dx * dx) := Int.mul_le_mul_of_nonneg_right hk sx
  have k4 : k * (dy * dy) ≤ 15 * (dy * dy) := Int.mul_le_mul_of_nonneg_right hk sy
  have e5 : (h + 1025) * (h + 1) = (h + 1) * (h + 1) + 1024 * (h + 1) := by grind
  rw [e5]
  generalize (h + 1) * (h + 1) = H at *
  generalize dx * dx = A at *
  generalize dy * dy = B at *
  generalize dx * dy = D at *
  generalize k * D = KD at *
  generalize k * A = KA at *
  generalize k * B = KB at *
  generalize dx * py = U at *
  generalize dy * px = V at *
  generalize dx * px = X at *
  generalize dy * py = Y at *
  omega
/-- Of a chord that is a point. -/
theorem near_point {dx dy px py ex ey k h : Int} (h00 : h = 0) (h1 : dx * dx + dy * dy < (h + 1) * (h + 1))
    (ex0 : 16 * px - k * dx = ex) (ey0 : 16 * py - k * dy = ey) (hx : -6200 ≤ ex ∧ ex ≤ 6200) (hy : -6200 ≤ ey ∧ ey ≤ 6200) :
    (px ≤ 1024 ∧ -1024 ≤ px) ∧ (py ≤ 1024 ∧ -1024 ≤ py) := by
  subst h00
  have sx : 0 ≤ dx * dx := sq_pos dx
  have sy : 0 ≤ dy * dy := sq_pos dy
  have bx := lt_sq (x := dx) (n := 1) (by omega) (by omega)
  have by' := lt_sq (x := dy) (n := 1) (by omega) (by omega)
  obtain rfl : dx = 0 := by omega
  obtain rfl : dy = 0 := by omega
  simp only [Int.mul_zero] at ex0 ey0
  omega
end Go.Proofs.Ytgkjbmejfcijkaa
