/-
  Mul, of numbers with signs; a number with its sign stored as a result.
-/
import Derived.Test.YthnjdncnmdmjaaaMul
namespace Go.Proofs.Ythnjdncnmdmjaaa
open Go.RowKit Go.Shelf
theorem fair_big (z : Int) (h : z.natAbs ≤ 4 * Big) : Fair z := by
  unfold Fair
  have h6 : (65536 : Nat) ^ 237 ≤ 65536 ^ 246 := Nat.pow_le_pow_right (n := 65536) (by decide) (by decide)
  refine Nat.lt_of_lt_of_le (Nat.lt_of_le_of_lt h ?_) h6
  unfold Big; decide

theorem NumV.mk {neg : Bool} {x : Nat} {a : Option Addr} {cap : Nat} {w : World} (h : RowV (.slice a (dg x).length cap) x w) : NumV (.agg #[.bool neg, .slice a (dg x).length cap]) (sgn neg x) w := by
  obtain ⟨a', cap', e, h1, h2, h3⟩ := h
  obtain ⟨rfl, rfl⟩ : a = a' ∧ cap = cap' := by simpa using e
  exact ⟨neg, x, a, cap, rfl, h1, h2, h3, rfl⟩

theorem mulz (v1 v2 : Value) (z1 z2 : Int) (w : World) (hb : (z1 * z2).natAbs ≤ Big) (b1 : z1.natAbs ≤ Big) (b2 : z2.natAbs ≤ Big) (h1 : NumV v1 z1 w) (h2 : NumV v2 z2 w) :
    Calls Try.prog 65 #[v1, v2] w (GivesZ (z1 * z2) w) := by
  obtain ⟨n, x, a, c1, rfl, r1, _, _, rfl⟩ := h1
  obtain ⟨m, y, b, c2, rfl, r2, _, _, rfl⟩ := h2
  rw [Int.natAbs_mul, sgn_natAbs, sgn_natAbs] at hb
  rw [sgn_natAbs] at b1 b2
  refine (mul_any n m x y a b c1 c2 w hb b1 b2 r1 r2).mono fun e w' hg => ?_
  have := hg.toZ
  rwa [show sgn (n != m) (x * y) = sgn n x * sgn m y from by cases n <;> cases m <;> simp [sgn, Int.neg_mul, Int.mul_neg]] at this

theorem num_closeZ {f : Func} (hres : f.results = #[ResultVar.cell 4 66]) {w wf : World} {r N : Nat} {neg b0 : Bool} {x a' : Option Addr} {n c cap' : Nat} {ts : Array Value} {z : Int}
    (NA : NumAt r b0 (.slice x n c) wf) (hB : Below w.heap.size w wf) (hr : w.heap.size ≤ r) (F : Row a' (dg N) wf ∧ (dg N).length ≤ cap' ∧ cap' ≤ maxLen) (hz : z = sgn neg N) (hts : ts[4]? = some (.pointer (some ⟨r, 0, none⟩))) :
    bodyPost Try.prog f (GivesZ z w) Exit.ret { tmps := ts, defers := [] } ((wf.setCell ⟨r, 0, none⟩ (.bool neg)).setCell ⟨r, 1, none⟩ (.slice a' (dg N).length cap')) := by
  have F1 := NA.set (neg' := neg) (s' := .slice a' (dg N).length cap')
  refine bodyPost_ret (v := .agg #[.bool neg, .slice a' (dg N).length cap']) (by simp [results, hres, go_sem, F1.c0, F1.c1, hts]) rfl ⟨_, rfl, ⟨neg, N, a', cap', rfl, F.1.far NA, F.2.1, F.2.2, hz⟩, ?_⟩
  exact Below.setCell (Below.setCell hB hr _) hr _
end Go.Proofs.Ythnjdncnmdmjaaa
