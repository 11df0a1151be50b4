/-
  The contracts of wide's narrow, MulDiv, Dot and MulShift: the nearest whole number, or none.
-/
import Derived.Test.YtlfdppcdkgfihaaDivide
namespace Go.Proofs.Ytlfdppcdkgfihaa
open Go.RowKit Go.Shelf

theorem widen_num (a : Int) (w : World) (h0 : -9223372036854775808 ≤ a) (h1 : a ≤ 9223372036854775807) :
    Calls Try.prog 19 #[.int .i64 a] w fun e w' => e = .returned (.agg #[.int .u64 (hw a), .int .u64 (lw a)]) ∧ w' = w.alloc (.cells #[.int .u64 (hw a), .int .u64 (lw a)] 40) := widen_any a w h0 h1

theorem narrow_gen (v u : Int) (ok : Bool) (w : World) (h0 : -9223372036854775808 ≤ u) (h1 : u ≤ 9223372036854775807) (e1 : IntKind.i64.wrap (lw v) = u) (e2 : lw u = lw v) (e3 : (hw v == hw u) = ok) :
    Calls Try.prog 20 #[AggN v] w fun e w' => e = .returned (.tuple #[.int .i64 (if ok then u else 0), .bool ok]) ∧ Below w.heap.size w w' := by
  have C := Lib.hid (fun w => widen_num u w h0 h1)
  rw [e2] at C
  clear e2
  unfold AggN
  generalize hw v = x at *
  generalize hw u = y at *
  generalize lw v = z at *
  cases ok
  all_goals
    go_enter Try.func20, Try.ntmps20
    go_wp2_with fail
    go_region_held3 (fun w' => w'.cell? ⟨w.heap.size, 0, none⟩ = some (.int .u64 x) ∧ w'.cell? ⟨w.heap.size, 1, none⟩ = some (.int .u64 z)) (simp [go_sem, World.cell?_alloc_past])
      (first | (go_at_call 19; refine (C.out _).mono ?_; rintro e w' ⟨rfl, rfl⟩))
    go_wp2
    go_ret2
    exact ⟨rfl, Below.drew (((Below.refl _ _).alloc (Nat.le_refl _) _).alloc (by simp) _)⟩

/-- Does it fit? And the number that is told. -/
def fits (v : Int) : Bool := decide (-9223372036854775808 ≤ v ∧ v ≤ 9223372036854775807)
def told (v : Int) : Int := if fits v then v else 0
def Pair (v : Int) : Value := .tuple #[.int .i64 (told v), .bool (fits v)]

theorem narrow_any (v : Int) (w : World) (h0 : -170141183460469231731687303715884105728 ≤ v) (h1 : v < 170141183460469231731687303715884105728) :
    Calls Try.prog 20 #[AggN v] w fun e w' => e = .returned (Pair v) ∧ Below w.heap.size w w' := by
  have k := narrow_gen v (wrap64 (lw v)) (fits v) w (by unfold wrap64; omega) (by unfold wrap64; omega) (by unfold wrap64; rw [IntKind.wrap_i64]) (by unfold wrap64 lw; omega) (by
    unfold fits
    rw [Bool.eq_iff_iff]
    simp only [beq_iff_eq, decide_eq_true_eq]
    unfold hw wrap64 lw
    omega)
  have e : (if fits v = true then wrap64 (lw v) else 0) = told v := by
    unfold told
    by_cases h : fits v = true
    · rw [if_pos h, if_pos h]
      unfold fits at h
      have := of_decide_eq_true h
      unfold wrap64 lw
      omega
    · rw [if_neg h, if_neg h]
  rw [e] at k
  exact k

/-- The nearest whole number to v / d; of two that are as near the greater one. -/
def near (v : Int) (d : Nat) : Int := (v + (d : Int) / 2) / (d : Int)

theorem near_bound (v : Int) (d : Nat) (hd : 0 < d) (h0 : -170141183460469231731687303715884105728 ≤ v) (h1 : v + (d : Int) / 2 < 170141183460469231731687303715884105728) :
    -170141183460469231731687303715884105728 ≤ near v d ∧ near v d < 170141183460469231731687303715884105728 := by
  unfold near
  generalize hu : v + (d : Int) / 2 = u at *
  have hu0 : -170141183460469231731687303715884105728 ≤ u := by omega
  constructor
  · rw [Int.le_ediv_iff_mul_le (by omega)]
    have : (-170141183460469231731687303715884105728 : Int) * d ≤ -170141183460469231731687303715884105728 * 1 := Int.mul_le_mul_of_nonpos_left (by decide) (by omega)
    omega
  · rw [Int.ediv_lt_iff_lt_mul (by omega)]
    have : (170141183460469231731687303715884105728 : Int) * 1 ≤ 170141183460469231731687303715884105728 * d := Int.mul_le_mul_of_nonneg_left (by omega) (by decide)
    omega
end Go.Proofs.Ytlfdppcdkgfihaa
