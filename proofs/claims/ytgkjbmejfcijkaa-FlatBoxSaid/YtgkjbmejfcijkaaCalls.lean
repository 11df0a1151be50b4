/-
  The contracts of wide's narrow, MulDiv, Dot and MulShift: the nearest whole number, or none.
-/
import Derived.Test.YtgkjbmejfcijkaaDivide
import Derived.Test.YtgkjbmejfcijkaaPair
namespace Go.Proofs.Ytgkjbmejfcijkaa
open Go.RowKit Go.Shelf

theorem widen_num (a : Int) (w : World) (h0 : -9223372036854775808 ≤ a) (h1 : a ≤ 9223372036854775807) :
    Calls Try.prog 66 #[.int .i64 a] w fun e w' => e = .returned (.agg #[.int .u64 (hw a), .int .u64 (lw a)]) ∧ w' = w.alloc (.cells #[.int .u64 (hw a), .int .u64 (lw a)] 92) := widen_any a w h0 h1

theorem narrow_gen (v u : Int) (ok : Bool) (w : World) (h0 : -9223372036854775808 ≤ u) (h1 : u ≤ 9223372036854775807) (e1 : IntKind.i64.wrap (lw v) = u) (e2 : lw u = lw v) (e3 : (hw v == hw u) = ok) :
    Calls Try.prog 59 #[AggN v] w fun e w' => e = .returned (.tuple #[.int .i64 (if ok then u else 0), .bool ok]) ∧ Below w.heap.size w w' := by
  have C := Lib.hid (fun w => widen_num u w h0 h1)
  rw [e2] at C
  clear e2
  unfold AggN
  generalize hw v = x at *
  generalize hw u = y at *
  generalize lw v = z at *
  cases ok
  all_goals
    go_enter Try.func59, Try.ntmps59
    go_wp2_with fail
    go_region_held3 (fun w' => w'.cell? ⟨w.heap.size, 0, none⟩ = some (.int .u64 x) ∧ w'.cell? ⟨w.heap.size, 1, none⟩ = some (.int .u64 z)) (simp [go_sem, World.cell?_alloc_past])
      (first | (go_at_call 66; refine (C.out _).mono ?_; rintro e w' ⟨rfl, rfl⟩))
    go_wp2
    go_ret2
    exact ⟨rfl, Below.drew (((Below.refl _ _).alloc (Nat.le_refl _) _).alloc (by simp) _)⟩

theorem narrow_any (v : Int) (w : World) (h0 : -170141183460469231731687303715884105728 ≤ v) (h1 : v < 170141183460469231731687303715884105728) :
    Calls Try.prog 59 #[AggN v] w fun e w' => e = .returned (Pair v) ∧ Below w.heap.size w w' := by
  have k := narrow_gen v (wrap64 (lw v)) (fits v) w (by unfold wrap64; omega) (by unfold wrap64; omega) (by unfold wrap64; rw [IntKind.wrap_i64]) (by unfold wrap64 lw; omega) (by
    unfold fits
    rw [Bool.eq_iff_iff]
    simp only [beq_iff_eq, decide_eq_true_eq]
    unfold hw wrap64 lw
    omega)
  have e : (if fits v = true then wrap64 (lw v) else 0) = told v := by
    unfold told
    by_cases h : fits v = true
    · rw [if_pos h, if_pos h]
      unfold fits at h
      have := of_decide_eq_true h
      unfold wrap64 lw
      omega
    · rw [if_neg h, if_neg h]
  rw [e] at k
  exact k
end Go.Proofs.Ytgkjbmejfcijkaa
