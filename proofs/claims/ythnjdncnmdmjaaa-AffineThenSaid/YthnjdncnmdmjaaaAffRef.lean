/-
  The document's answers of layer 8: In, Right, sum.
-/
import Derived.Test.YthnjdncnmdmjaaaAffThenM
import Derived.Test.YthnjdncnmdmjaaaRefDot
namespace Go.Proofs.Ythnjdncnmdmjaaa
open Go.RowKit Go.Shelf

theorem rin8 (n : Int) (w : World) : Calls Try.prog 16 #[.int .i64 n] w fun e w' => e = .returned (.bool (decide (In32 n))) ∧ w = w' := by
  by_cases h1 : -4294967296 < n
  · by_cases h2 : n < 4294967296
    · rw [decide_eq_true (show In32 n from ⟨h1, h2⟩)]
      go_enter Try.func16, Try.ntmps16
      go_wp2_with fail
      go_ret
      exact ⟨rfl, rfl⟩
    · rw [decide_eq_false (show ¬ In32 n from fun h => h2 h.2)]
      go_enter Try.func16, Try.ntmps16
      go_wp2_with fail
      go_ret
      exact ⟨rfl, rfl⟩
  · rw [decide_eq_false (show ¬ In32 n from fun h => h1 h.1)]
    go_enter Try.func16, Try.ntmps16
    go_wp2_with fail
    go_ret
    exact ⟨rfl, rfl⟩
set_option maxHeartbeats 4000000 in
set_option maxRecDepth 100000 in
theorem rright8 (m : Mtx) (w : World) : Calls Try.prog 15 #[m.val] w fun e w' => e = .returned (.bool (decide m.right)) ∧ Below w.heap.size w w' := by
  rw [right_dec]
  obtain ⟨a, b, c, d, e, f⟩ := m
  have B0 := Lib.hid ((Below.refl w.heap.size w).alloc (Nat.le_refl _) (.cells (Mtx.cells ⟨a, b, c, d, e, f⟩) 23))
  have I1 := Lib.hid (fun w => rin8 a w)
  have I2 := Lib.hid (fun w => rin8 b w)
  have I3 := Lib.hid (fun w => rin8 c w)
  have I4 := Lib.hid (fun w => rin8 d w)
  have I5 := Lib.hid (fun w => rin8 e w)
  have I6 := Lib.hid (fun w => rin8 f w)
  dsimp only
  generalize decide (In32 a) = qa at *
  generalize decide (In32 b) = qb at *
  generalize decide (In32 c) = qc at *
  generalize decide (In32 d) = qd at *
  generalize decide (In32 e) = qe at *
  generalize decide (In32 f) = qf at *
  show Calls _ _ #[.agg #[.int .i64 a, .int .i64 b, .int .i64 c, .int .i64 d, .int .i64 e, .int .i64 f]] w _
  go_enter Try.func15, Try.ntmps15
  go_wp2_with fail
  refine (I1.out _).mono ?_
  rintro e w1 ⟨rfl, rfl⟩
  cases qa with
  | false =>
    go_wp2_with fail
    go_ret
    exact ⟨rfl, B0.out⟩
  | true =>
    go_wp2_with fail
    refine (I2.out _).mono ?_
    rintro e w1 ⟨rfl, rfl⟩
    cases qb with
    | false =>
      go_wp2_with fail
      go_ret
      exact ⟨rfl, B0.out⟩
    | true =>
      go_wp2_with fail
      refine (I3.out _).mono ?_
      rintro e w1 ⟨rfl, rfl⟩
      cases qc with
      | false =>
        go_wp2_with fail
        go_ret
        exact ⟨rfl, B0.out⟩
      | true =>
        go_wp2_with fail
        refine (I4.out _).mono ?_
        rintro e w1 ⟨rfl, rfl⟩
        cases qd with
        | false =>
          go_wp2_with fail
          go_ret
          exact ⟨rfl, B0.out⟩
        | true =>
          go_wp2_with fail
          refine (I5.out _).mono ?_
          rintro e w1 ⟨rfl, rfl⟩
          cases qe with
          | false =>
            go_wp2_with fail
            go_ret
            exact ⟨rfl, B0.out⟩
          | true =>
            go_wp2_with fail
            refine (I6.out _).mono ?_
            rintro e w1 ⟨rfl, rfl⟩
            go_wp2_with fail
            go_ret
            exact ⟨rfl, B0.out⟩
theorem rsum8 (a x b y c : Int) (w : World) (ha : In32 a) (hx : In32 x) (hb : In32 b) (hy : In32 y) (hc : In32 c) :
    Calls Try.prog 38 #[.int .i64 a, .int .i64 x, .int .i64 b, .int .i64 y, .int .i64 c] w fun e w' => e = .returned (.int .i64 (numA a x b y c)) ∧ Below w.heap.size w w' := by
  have hn := num_near ha hx hb hy
  have D := Lib.hid (fun w => refdot_any a x b y 16 w ha.i hx.i hb.i hy.i (by decide))
  have hp : Pair (dot a x b y 16) = .tuple #[.int .i64 (near (a * x + b * y) (2 ^ 16)), .bool true] := pair_i64 ⟨by show _ ≤ near (a * x + b * y) (2 ^ 16); omega, by show near (a * x + b * y) (2 ^ 16) ≤ _; omega⟩
  rw [hp] at D
  unfold numA
  obtain ⟨c1, c2⟩ := hc
  generalize near (a * x + b * y) (2 ^ 16) = z at *
  have ez : IntKind.i64.wrap (z + c) = z + c := IntWalk.i64_in _ (by omega)
  clear hp ha hx hb hy hn
  go_enter Try.func38, Try.ntmps38
  go_wp2_with fail
  refine (D.out _).mono ?_
  rintro e w1 ⟨rfl, b1⟩
  go_wp2_with fail
  go_ret
  exact ⟨rfl, b1⟩
end Go.Proofs.Ythnjdncnmdmjaaa
