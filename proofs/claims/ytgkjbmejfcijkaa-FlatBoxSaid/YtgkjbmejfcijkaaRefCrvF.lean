/-
  The document's answers of layer 11: Right, Flat. (Typed by a program: wip/gen_ref11b.py.)
-/
import Derived.Test.YtgkjbmejfcijkaaRefCrvP
namespace Go.Proofs.Ytgkjbmejfcijkaa
open Go.RowKit Go.Shelf
set_option linter.unusedSimpArgs false

set_option maxHeartbeats 4000000 in
set_option maxRecDepth 100000 in
theorem rright11 (c : Crv) (w : World) : Calls Try.prog 9 #[c.val] w fun e w' => e = .returned (.bool (decide c.right)) ∧ Below w.heap.size w w' := by
  obtain ⟨px, py, qx, qy, rx, ry, sx, sy⟩ := c
  have dd : decide (Crv.right ⟨px, py, qx, qy, rx, ry, sx, sy⟩) = (decide (Pt40 px py) && (decide (Pt40 qx qy) && (decide (Pt40 rx ry) && decide (Pt40 sx sy)))) := by rw [Bool.eq_iff_iff, Bool.and_eq_true, Bool.and_eq_true, Bool.and_eq_true, decide_eq_true_iff, decide_eq_true_iff, decide_eq_true_iff, decide_eq_true_iff, decide_eq_true_iff]; exact Iff.rfl
  rw [dd]
  clear dd
  have I1 := Lib.hid (fun w => rpoint11 px py w)
  have I2 := Lib.hid (fun w => rpoint11 qx qy w)
  have I3 := Lib.hid (fun w => rpoint11 rx ry w)
  have I4 := Lib.hid (fun w => rpoint11 sx sy w)
  generalize decide (Pt40 px py) = d1 at *
  generalize decide (Pt40 qx qy) = d2 at *
  generalize decide (Pt40 rx ry) = d3 at *
  generalize decide (Pt40 sx sy) = d4 at *
  unfold Crv.val Crv.arr
  dsimp only
  have HB0 := Lib.hid ((Below.refl w.heap.size w).alloc (Nat.le_refl _) (.cells #[.int .i64 px, .int .i64 py, .int .i64 qx, .int .i64 qy, .int .i64 rx, .int .i64 ry, .int .i64 sx, .int .i64 sy] 25))
  have HC0 := Lib.hid (CBox.new w 25 #[.int .i64 px, .int .i64 py, .int .i64 qx, .int .i64 qy, .int .i64 rx, .int .i64 ry, .int .i64 sx, .int .i64 sy])
  rcases d1 with _ | _
  · try simp only [Bool.false_and, Bool.true_and, Bool.and_false, Bool.and_true]
    go_enter Try.func9, Try.ntmps9
    go_upto_region 1 with fail
    generalize w.alloc (.cells #[.int .i64 px, .int .i64 py, .int .i64 qx, .int .i64 qy, .int .i64 rx, .int .i64 ry, .int .i64 sx, .int .i64 sy] 25) = w1 at *
    have xC0 : w1.cell? ⟨w.heap.size, 0, none⟩ = some (.int .i64 px) := HC0.out.c 0 rfl
    have xC1 : w1.cell? ⟨w.heap.size, 1, none⟩ = some (.int .i64 py) := HC0.out.c 1 rfl
    have xC2 : w1.cell? ⟨w.heap.size, 2, none⟩ = some (.int .i64 qx) := HC0.out.c 2 rfl
    have xC3 : w1.cell? ⟨w.heap.size, 3, none⟩ = some (.int .i64 qy) := HC0.out.c 3 rfl
    have xC4 : w1.cell? ⟨w.heap.size, 4, none⟩ = some (.int .i64 rx) := HC0.out.c 4 rfl
    have xC5 : w1.cell? ⟨w.heap.size, 5, none⟩ = some (.int .i64 ry) := HC0.out.c 5 rfl
    have xC6 : w1.cell? ⟨w.heap.size, 6, none⟩ = some (.int .i64 sx) := HC0.out.c 6 rfl
    have xC7 : w1.cell? ⟨w.heap.size, 7, none⟩ = some (.int .i64 sy) := HC0.out.c 7 rfl
    go_wp2_with fail
    refine (I1.out _).mono ?_
    rintro e w2 ⟨rfl, bw2⟩
    clear xC0 xC1 xC2 xC3 xC4 xC5 xC6 xC7
    have HBw2 := Lib.hid (HB0.out.trans (bw2.mono HB0.out.size))
    have HCw2 := Lib.hid (HC0.out.next bw2)
    clear bw2
    go_wp2_with fail
    go_ret
    exact ⟨rfl, HBw2.out⟩
  rcases d2 with _ | _
  · try simp only [Bool.false_and, Bool.true_and, Bool.and_false, Bool.and_true]
    go_enter Try.func9, Try.ntmps9
    go_upto_region 1 with fail
    generalize w.alloc (.cells #[.int .i64 px, .int .i64 py, .int .i64 qx, .int .i64 qy, .int .i64 rx, .int .i64 ry, .int .i64 sx, .int .i64 sy] 25) = w1 at *
    have xC0 : w1.cell? ⟨w.heap.size, 0, none⟩ = some (.int .i64 px) := HC0.out.c 0 rfl
    have xC1 : w1.cell? ⟨w.heap.size, 1, none⟩ = some (.int .i64 py) := HC0.out.c 1 rfl
    have xC2 : w1.cell? ⟨w.heap.size, 2, none⟩ = some (.int .i64 qx) := HC0.out.c 2 rfl
    have xC3 : w1.cell? ⟨w.heap.size, 3, none⟩ = some (.int .i64 qy) := HC0.out.c 3 rfl
    have xC4 : w1.cell? ⟨w.heap.size, 4, none⟩ = some (.int .i64 rx) := HC0.out.c 4 rfl
    have xC5 : w1.cell? ⟨w.heap.size, 5, none⟩ = some (.int .i64 ry) := HC0.out.c 5 rfl
    have xC6 : w1.cell? ⟨w.heap.size, 6, none⟩ = some (.int .i64 sx) := HC0.out.c 6 rfl
    have xC7 : w1.cell? ⟨w.heap.size, 7, none⟩ = some (.int .i64 sy) := HC0.out.c 7 rfl
    go_wp2_with fail
    refine (I1.out _).mono ?_
    rintro e w2 ⟨rfl, bw2⟩
    clear xC0 xC1 xC2 xC3 xC4 xC5 xC6 xC7
    have HBw2 := Lib.hid (HB0.out.trans (bw2.mono HB0.out.size))
    have HCw2 := Lib.hid (HC0.out.next bw2)
    clear bw2
    have xC0 : w2.cell? ⟨w.heap.size, 0, none⟩ = some (.int .i64 px) := HCw2.out.c 0 rfl
    have xC1 : w2.cell? ⟨w.heap.size, 1, none⟩ = some (.int .i64 py) := HCw2.out.c 1 rfl
    have xC2 : w2.cell? ⟨w.heap.size, 2, none⟩ = some (.int .i64 qx) := HCw2.out.c 2 rfl
    have xC3 : w2.cell? ⟨w.heap.size, 3, none⟩ = some (.int .i64 qy) := HCw2.out.c 3 rfl
    have xC4 : w2.cell? ⟨w.heap.size, 4, none⟩ = some (.int .i64 rx) := HCw2.out.c 4 rfl
    have xC5 : w2.cell? ⟨w.heap.size, 5, none⟩ = some (.int .i64 ry) := HCw2.out.c 5 rfl
    have xC6 : w2.cell? ⟨w.heap.size, 6, none⟩ = some (.int .i64 sx) := HCw2.out.c 6 rfl
    have xC7 : w2.cell? ⟨w.heap.size, 7, none⟩ = some (.int .i64 sy) := HCw2.out.c 7 rfl
    go_wp2_with fail
    refine (I2.out _).mono ?_
    rintro e w3 ⟨rfl, bw3⟩
    clear xC0 xC1 xC2 xC3 xC4 xC5 xC6 xC7
    have HBw3 := Lib.hid (HBw2.out.trans (bw3.mono HBw2.out.size))
    have HCw3 := Lib.hid (HCw2.out.next bw3)
    clear bw3
    go_wp2_with fail
    go_ret
    exact ⟨rfl, HBw3.out⟩
  rcases d3 with _ | _
  · try simp only [Bool.false_and, Bool.true_and, Bool.and_false, Bool.and_true]
    go_enter Try.func9, Try.ntmps9
    go_upto_region 1 with fail
    generalize w.alloc (.cells #[.int .i64 px, .int .i64 py, .int .i64 qx, .int .i64 qy, .int .i64 rx, .int .i64 ry, .int .i64 sx, .int .i64 sy] 25) = w1 at *
    have xC0 : w1.cell? ⟨w.heap.size, 0, none⟩ = some (.int .i64 px) := HC0.out.c 0 rfl
    have xC1 : w1.cell? ⟨w.heap.size, 1, none⟩ = some (.int .i64 py) := HC0.out.c 1 rfl
    have xC2 : w1.cell? ⟨w.heap.size, 2, none⟩ = some (.int .i64 qx) := HC0.out.c 2 rfl
    have xC3 : w1.cell? ⟨w.heap.size, 3, none⟩ = some (.int .i64 qy) := HC0.out.c 3 rfl
    have xC4 : w1.cell? ⟨w.heap.size, 4, none⟩ = some (.int .i64 rx) := HC0.out.c 4 rfl
    have xC5 : w1.cell? ⟨w.heap.size, 5, none⟩ = some (.int .i64 ry) := HC0.out.c 5 rfl
    have xC6 : w1.cell? ⟨w.heap.size, 6, none⟩ = some (.int .i64 sx) := HC0.out.c 6 rfl
    have xC7 : w1.cell? ⟨w.heap.size, 7, none⟩ = some (.int .i64 sy) := HC0.out.c 7 rfl
    go_wp2_with fail
    refine (I1.out _).mono ?_
    rintro e w2 ⟨rfl, bw2⟩
    clear xC0 xC1 xC2 xC3 xC4 xC5 xC6 xC7
    have HBw2 := Lib.hid (HB0.out.trans (bw2.mono HB0.out.size))
    have HCw2 := Lib.hid (HC0.out.next bw2)
    clear bw2
    have xC0 : w2.cell? ⟨w.heap.size, 0, none⟩ = some (.int .i64 px) := HCw2.out.c 0 rfl
    have xC1 : w2.cell? ⟨w.heap.size, 1, none⟩ = some (.int .i64 py) := HCw2.out.c 1 rfl
    have xC2 : w2.cell? ⟨w.heap.size, 2, none⟩ = some (.int .i64 qx) := HCw2.out.c 2 rfl
    have xC3 : w2.cell? ⟨w.heap.size, 3, none⟩ = some (.int .i64 qy) := HCw2.out.c 3 rfl
    have xC4 : w2.cell? ⟨w.heap.size, 4, none⟩ = some (.int .i64 rx) := HCw2.out.c 4 rfl
    have xC5 : w2.cell? ⟨w.heap.size, 5, none⟩ = some (.int .i64 ry) := HCw2.out.c 5 rfl
    have xC6 : w2.cell? ⟨w.heap.size, 6, none⟩ = some (.int .i64 sx) := HCw2.out.c 6 rfl
    have xC7 : w2.cell? ⟨w.heap.size, 7, none⟩ = some (.int .i64 sy) := HCw2.out.c 7 rfl
    go_wp2_with fail
    refine (I2.out _).mono ?_
    rintro e w3 ⟨rfl, bw3⟩
    clear xC0 xC1 xC2 xC3 xC4 xC5 xC6 xC7
    have HBw3 := Lib.hid (HBw2.out.trans (bw3.mono HBw2.out.size))
    have HCw3 := Lib.hid (HCw2.out.next bw3)
    clear bw3
    have xC0 : w3.cell? ⟨w.heap.size, 0, none⟩ = some (.int .i64 px) := HCw3.out.c 0 rfl
    have xC1 : w3.cell? ⟨w.heap.size, 1, none⟩ = some (.int .i64 py) := HCw3.out.c 1 rfl
    have xC2 : w3.cell? ⟨w.heap.size, 2, none⟩ = some (.int .i64 qx) := HCw3.out.c 2 rfl
    have xC3 : w3.cell? ⟨w.heap.size, 3, none⟩ = some (.int .i64 qy) := HCw3.out.c 3 rfl
    have xC4 : w3.cell? ⟨w.heap.size, 4, none⟩ = some (.int .i64 rx) := HCw3.out.c 4 rfl
    have xC5 : w3.cell? ⟨w.heap.size, 5, none⟩ = some (.int .i64 ry) := HCw3.out.c 5 rfl
    have xC6 : w3.cell? ⟨w.heap.size, 6, none⟩ = some (.int .i64 sx) := HCw3.out.c 6 rfl
    have xC7 : w3.cell? ⟨w.heap.size, 7, none⟩ = some (.int .i64 sy) := HCw3.out.c 7 rfl
    go_wp2_with fail
    refine (I3.out _).mono ?_
    rintro e w4 ⟨rfl, bw4⟩
    clear xC0 xC1 xC2 xC3 xC4 xC5 xC6 xC7
    have HBw4 := Lib.hid (HBw3.out.trans (bw4.mono HBw3.out.size))
    have HCw4 := Lib.hid (HCw3.out.next bw4)
    clear bw4
    go_wp2_with fail
    go_ret
    exact ⟨rfl, HBw4.out⟩
  rcases d4 with _ | _
  · try simp only [Bool.false_and, Bool.true_and, Bool.and_false, Bool.and_true]
    go_enter Try.func9, Try.ntmps9
    go_upto_region 1 with fail
    generalize w.alloc (.cells #[.int .i64 px, .int .i64 py, .int .i64 qx, .int .i64 qy, .int .i64 rx, .int .i64 ry, .int .i64 sx, .int .i64 sy] 25) = w1 at *
    have xC0 : w1.cell? ⟨w.heap.size, 0, none⟩ = some (.int .i64 px) := HC0.out.c 0 rfl
    have xC1 : w1.cell? ⟨w.heap.size, 1, none⟩ = some (.int .i64 py) := HC0.out.c 1 rfl
    have xC2 : w1.cell? ⟨w.heap.size, 2, none⟩ = some (.int .i64 qx) := HC0.out.c 2 rfl
    have xC3 : w1.cell? ⟨w.heap.size, 3, none⟩ = some (.int .i64 qy) := HC0.out.c 3 rfl
    have xC4 : w1.cell? ⟨w.heap.size, 4, none⟩ = some (.int .i64 rx) := HC0.out.c 4 rfl
    have xC5 : w1.cell? ⟨w.heap.size, 5, none⟩ = some (.int .i64 ry) := HC0.out.c 5 rfl
    have xC6 : w1.cell? ⟨w.heap.size, 6, none⟩ = some (.int .i64 sx) := HC0.out.c 6 rfl
    have xC7 : w1.cell? ⟨w.heap.size, 7, none⟩ = some (.int .i64 sy) := HC0.out.c 7 rfl
    go_wp2_with fail
    refine (I1.out _).mono ?_
    rintro e w2 ⟨rfl, bw2⟩
    clear xC0 xC1 xC2 xC3 xC4 xC5 xC6 xC7
    have HBw2 := Lib.hid (HB0.out.trans (bw2.mono HB0.out.size))
    have HCw2 := Lib.hid (HC0.out.next bw2)
    clear bw2
    have xC0 : w2.cell? ⟨w.heap.size, 0, none⟩ = some (.int .i64 px) := HCw2.out.c 0 rfl
    have xC1 : w2.cell? ⟨w.heap.size, 1, none⟩ = some (.int .i64 py) := HCw2.out.c 1 rfl
    have xC2 : w2.cell? ⟨w.heap.size, 2, none⟩ = some (.int .i64 qx) := HCw2.out.c 2 rfl
    have xC3 : w2.cell? ⟨w.heap.size, 3, none⟩ = some (.int .i64 qy) := HCw2.out.c 3 rfl
    have xC4 : w2.cell? ⟨w.heap.size, 4, none⟩ = some (.int .i64 rx) := HCw2.out.c 4 rfl
    have xC5 : w2.cell? ⟨w.heap.size, 5, none⟩ = some (.int .i64 ry) := HCw2.out.c 5 rfl
    have xC6 : w2.cell? ⟨w.heap.size, 6, none⟩ = some (.int .i64 sx) := HCw2.out.c 6 rfl
    have xC7 : w2.cell? ⟨w.heap.size, 7, none⟩ = some (.int .i64 sy) := HCw2.out.c 7 rfl
    go_wp2_with fail
    refine (I2.out _).mono ?_
    rintro e w3 ⟨rfl, bw3⟩
    clear xC0 xC1 xC2 xC3 xC4 xC5 xC6 xC7
    have HBw3 := Lib.hid (HBw2.out.trans (bw3.mono HBw2.out.size))
    have HCw3 := Lib.hid (HCw2.out.next bw3)
    clear bw3
    have xC0 : w3.cell? ⟨w.heap.size, 0, none⟩ = some (.int .i64 px) := HCw3.out.c 0 rfl
    have xC1 : w3.cell? ⟨w.heap.size, 1, none⟩ = some (.int .i64 py) := HCw3.out.c 1 rfl
    have xC2 : w3.cell? ⟨w.heap.size, 2, none⟩ = some (.int .i64 qx) := HCw3.out.c 2 rfl
    have xC3 : w3.cell? ⟨w.heap.size, 3, none⟩ = some (.int .i64 qy) := HCw3.out.c 3 rfl
    have xC4 : w3.cell? ⟨w.heap.size, 4, none⟩ = some (.int .i64 rx) := HCw3.out.c 4 rfl
    have xC5 : w3.cell? ⟨w.heap.size, 5, none⟩ = some (.int .i64 ry) := HCw3.out.c 5 rfl
    have xC6 : w3.cell? ⟨w.heap.size, 6, none⟩ = some (.int .i64 sx) := HCw3.out.c 6 rfl
    have xC7 : w3.cell? ⟨w.heap.size, 7, none⟩ = some (.int .i64 sy) := HCw3.out.c 7 rfl
    go_wp2_with fail
    refine (I3.out _).mono ?_
    rintro e w4 ⟨rfl, bw4⟩
    clear xC0 xC1 xC2 xC3 xC4 xC5 xC6 xC7
    have HBw4 := Lib.hid (HBw3.out.trans (bw4.mono HBw3.out.size))
    have HCw4 := Lib.hid (HCw3.out.next bw4)
    clear bw4
    have xC0 : w4.cell? ⟨w.heap.size, 0, none⟩ = some (.int .i64 px) := HCw4.out.c 0 rfl
    have xC1 : w4.cell? ⟨w.heap.size, 1, none⟩ = some (.int .i64 py) := HCw4.out.c 1 rfl
    have xC2 : w4.cell? ⟨w.heap.size, 2, none⟩ = some (.int .i64 qx) := HCw4.out.c 2 rfl
    have xC3 : w4.cell? ⟨w.heap.size, 3, none⟩ = some (.int .i64 qy) := HCw4.out.c 3 rfl
    have xC4 : w4.cell? ⟨w.heap.size, 4, none⟩ = some (.int .i64 rx) := HCw4.out.c 4 rfl
    have xC5 : w4.cell? ⟨w.heap.size, 5, none⟩ = some (.int .i64 ry) := HCw4.out.c 5 rfl
    have xC6 : w4.cell? ⟨w.heap.size, 6, none⟩ = some (.int .i64 sx) := HCw4.out.c 6 rfl
    have xC7 : w4.cell? ⟨w.heap.size, 7, none⟩ = some (.int .i64 sy) := HCw4.out.c 7 rfl
    go_wp2_with fail
    refine (I4.out _).mono ?_
    rintro e w5 ⟨rfl, bw5⟩
    clear xC0 xC1 xC2 xC3 xC4 xC5 xC6 xC7
    have HBw5 := Lib.hid (HBw4.out.trans (bw5.mono HBw4.out.size))
    have HCw5 := Lib.hid (HCw4.out.next bw5)
    clear bw5
    go_wp2_with fail
    go_ret
    exact ⟨rfl, HBw5.out⟩
  try simp only [Bool.false_and, Bool.true_and, Bool.and_false, Bool.and_true]
  go_enter Try.func9, Try.ntmps9
  go_upto_region 1 with fail
  generalize w.alloc (.cells #[.int .i64 px, .int .i64 py, .int .i64 qx, .int .i64 qy, .int .i64 rx, .int .i64 ry, .int .i64 sx, .int .i64 sy] 25) = w1 at *
  have xC0 : w1.cell? ⟨w.heap.size, 0, none⟩ = some (.int .i64 px) := HC0.out.c 0 rfl
  have xC1 : w1.cell? ⟨w.heap.size, 1, none⟩ = some (.int .i64 py) := HC0.out.c 1 rfl
  have xC2 : w1.cell? ⟨w.heap.size, 2, none⟩ = some (.int .i64 qx) := HC0.out.c 2 rfl
  have xC3 : w1.cell? ⟨w.heap.size, 3, none⟩ = some (.int .i64 qy) := HC0.out.c 3 rfl
  have xC4 : w1.cell? ⟨w.heap.size, 4, none⟩ = some (.int .i64 rx) := HC0.out.c 4 rfl
  have xC5 : w1.cell? ⟨w.heap.size, 5, none⟩ = some (.int .i64 ry) := HC0.out.c 5 rfl
  have xC6 : w1.cell? ⟨w.heap.size, 6, none⟩ = some (.int .i64 sx) := HC0.out.c 6 rfl
  have xC7 : w1.cell? ⟨w.heap.size, 7, none⟩ = some (.int .i64 sy) := HC0.out.c 7 rfl
  go_wp2_with fail
  refine (I1.out _).mono ?_
  rintro e w2 ⟨rfl, bw2⟩
  clear xC0 xC1 xC2 xC3 xC4 xC5 xC6 xC7
  have HBw2 := Lib.hid (HB0.out.trans (bw2.mono HB0.out.size))
  have HCw2 := Lib.hid (HC0.out.next bw2)
  clear bw2
  have xC0 : w2.cell? ⟨w.heap.size, 0, none⟩ = some (.int .i64 px) := HCw2.out.c 0 rfl
  have xC1 : w2.cell? ⟨w.heap.size, 1, none⟩ = some (.int .i64 py) := HCw2.out.c 1 rfl
  have xC2 : w2.cell? ⟨w.heap.size, 2, none⟩ = some (.int .i64 qx) := HCw2.out.c 2 rfl
  have xC3 : w2.cell? ⟨w.heap.size, 3, none⟩ = some (.int .i64 qy) := HCw2.out.c 3 rfl
  have xC4 : w2.cell? ⟨w.heap.size, 4, none⟩ = some (.int .i64 rx) := HCw2.out.c 4 rfl
  have xC5 : w2.cell? ⟨w.heap.size, 5, none⟩ = some (.int .i64 ry) := HCw2.out.c 5 rfl
  have xC6 : w2.cell? ⟨w.heap.size, 6, none⟩ = some (.int .i64 sx) := HCw2.out.c 6 rfl
  have xC7 : w2.cell? ⟨w.heap.size, 7, none⟩ = some (.int .i64 sy) := HCw2.out.c 7 rfl
  go_wp2_with fail
  refine (I2.out _).mono ?_
  rintro e w3 ⟨rfl, bw3⟩
  clear xC0 xC1 xC2 xC3 xC4 xC5 xC6 xC7
  have HBw3 := Lib.hid (HBw2.out.trans (bw3.mono HBw2.out.size))
  have HCw3 := Lib.hid (HCw2.out.next bw3)
  clear bw3
  have xC0 : w3.cell? ⟨w.heap.size, 0, none⟩ = some (.int .i64 px) := HCw3.out.c 0 rfl
  have xC1 : w3.cell? ⟨w.heap.size, 1, none⟩ = some (.int .i64 py) := HCw3.out.c 1 rfl
  have xC2 : w3.cell? ⟨w.heap.size, 2, none⟩ = some (.int .i64 qx) := HCw3.out.c 2 rfl
  have xC3 : w3.cell? ⟨w.heap.size, 3, none⟩ = some (.int .i64 qy) := HCw3.out.c 3 rfl
  have xC4 : w3.cell? ⟨w.heap.size, 4, none⟩ = some (.int .i64 rx) := HCw3.out.c 4 rfl
  have xC5 : w3.cell? ⟨w.heap.size, 5, none⟩ = some (.int .i64 ry) := HCw3.out.c 5 rfl
  have xC6 : w3.cell? ⟨w.heap.size, 6, none⟩ = some (.int .i64 sx) := HCw3.out.c 6 rfl
  have xC7 : w3.cell? ⟨w.heap.size, 7, none⟩ = some (.int .i64 sy) := HCw3.out.c 7 rfl
  go_wp2_with fail
  refine (I3.out _).mono ?_
  rintro e w4 ⟨rfl, bw4⟩
  clear xC0 xC1 xC2 xC3 xC4 xC5 xC6 xC7
  have HBw4 := Lib.hid (HBw3.out.trans (bw4.mono HBw3.out.size))
  have HCw4 := Lib.hid (HCw3.out.next bw4)
  clear bw4
  have xC0 : w4.cell? ⟨w.heap.size, 0, none⟩ = some (.int .i64 px) := HCw4.out.c 0 rfl
  have xC1 : w4.cell? ⟨w.heap.size, 1, none⟩ = some (.int .i64 py) := HCw4.out.c 1 rfl
  have xC2 : w4.cell? ⟨w.heap.size, 2, none⟩ = some (.int .i64 qx) := HCw4.out.c 2 rfl
  have xC3 : w4.cell? ⟨w.heap.size, 3, none⟩ = some (.int .i64 qy) := HCw4.out.c 3 rfl
  have xC4 : w4.cell? ⟨w.heap.size, 4, none⟩ = some (.int .i64 rx) := HCw4.out.c 4 rfl
  have xC5 : w4.cell? ⟨w.heap.size, 5, none⟩ = some (.int .i64 ry) := HCw4.out.c 5 rfl
  have xC6 : w4.cell? ⟨w.heap.size, 6, none⟩ = some (.int .i64 sx) := HCw4.out.c 6 rfl
  have xC7 : w4.cell? ⟨w.heap.size, 7, none⟩ = some (.int .i64 sy) := HCw4.out.c 7 rfl
  go_wp2_with fail
  refine (I4.out _).mono ?_
  rintro e w5 ⟨rfl, bw5⟩
  clear xC0 xC1 xC2 xC3 xC4 xC5 xC6 xC7
  have HBw5 := Lib.hid (HBw4.out.trans (bw5.mono HBw4.out.size))
  have HCw5 := Lib.hid (HCw4.out.next bw5)
  clear bw5
  go_wp2_with fail
  go_ret
  exact ⟨rfl, HBw5.out⟩
set_option maxHeartbeats 4000000 in
set_option maxRecDepth 100000 in
theorem rflat11 (c : Crv) (w : World) (hc : c.right) : Calls Try.prog 18 #[c.val] w fun e w' => e = .returned (.bool (decide c.flat)) ∧ Below w.heap.size w w' := by
  obtain ⟨px, py, qx, qy, rx, ry, sx, sy⟩ := c
  unfold Crv.right at hc
  dsimp only at hc
  obtain ⟨⟨h1, h2⟩, ⟨h3, h4⟩, ⟨h5, h6⟩, h7, h8⟩ := hc
  have dd : decide (Crv.flat ⟨px, py, qx, qy, rx, ry, sx, sy⟩) = (decide (bentF px qx rx) && (decide (bentF py qy ry) && (decide (bentF qx rx sx) && (decide (bentF qy ry sy))))) := by rw [Bool.eq_iff_iff, Bool.and_eq_true, Bool.and_eq_true, Bool.and_eq_true, decide_eq_true_iff, decide_eq_true_iff, decide_eq_true_iff, decide_eq_true_iff, decide_eq_true_iff]; exact Iff.rfl
  rw [dd]
  clear dd
  have I1 := Lib.hid (fun w => rbent11 px qx rx w h1 h3 h5)
  have I2 := Lib.hid (fun w => rbent11 py qy ry w h2 h4 h6)
  have I3 := Lib.hid (fun w => rbent11 qx rx sx w h3 h5 h7)
  have I4 := Lib.hid (fun w => rbent11 qy ry sy w h4 h6 h8)
  clear h1 h2 h3 h4 h5 h6 h7 h8
  generalize decide (bentF px qx rx) = d1 at *
  generalize decide (bentF py qy ry) = d2 at *
  generalize decide (bentF qx rx sx) = d3 at *
  generalize decide (bentF qy ry sy) = d4 at *
  unfold Crv.val Crv.arr
  dsimp only
  have HB0 := Lib.hid ((Below.refl w.heap.size w).alloc (Nat.le_refl _) (.cells #[.int .i64 px, .int .i64 py, .int .i64 qx, .int .i64 qy, .int .i64 rx, .int .i64 ry, .int .i64 sx, .int .i64 sy] 25))
  have HC0 := Lib.hid (CBox.new w 25 #[.int .i64 px, .int .i64 py, .int .i64 qx, .int .i64 qy, .int .i64 rx, .int .i64 ry, .int .i64 sx, .int .i64 sy])
  rcases d1 with _ | _
  · try simp only [Bool.false_and, Bool.true_and, Bool.and_false, Bool.and_true]
    go_enter Try.func18, Try.ntmps18
    go_upto_region 1 with fail
    generalize w.alloc (.cells #[.int .i64 px, .int .i64 py, .int .i64 qx, .int .i64 qy, .int .i64 rx, .int .i64 ry, .int .i64 sx, .int .i64 sy] 25) = w1 at *
    have xC0 : w1.cell? ⟨w.heap.size, 0, none⟩ = some (.int .i64 px) := HC0.out.c 0 rfl
    have xC1 : w1.cell? ⟨w.heap.size, 1, none⟩ = some (.int .i64 py) := HC0.out.c 1 rfl
    have xC2 : w1.cell? ⟨w.heap.size, 2, none⟩ = some (.int .i64 qx) := HC0.out.c 2 rfl
    have xC3 : w1.cell? ⟨w.heap.size, 3, none⟩ = some (.int .i64 qy) := HC0.out.c 3 rfl
    have xC4 : w1.cell? ⟨w.heap.size, 4, none⟩ = some (.int .i64 rx) := HC0.out.c 4 rfl
    have xC5 : w1.cell? ⟨w.heap.size, 5, none⟩ = some (.int .i64 ry) := HC0.out.c 5 rfl
    have xC6 : w1.cell? ⟨w.heap.size, 6, none⟩ = some (.int .i64 sx) := HC0.out.c 6 rfl
    have xC7 : w1.cell? ⟨w.heap.size, 7, none⟩ = some (.int .i64 sy) := HC0.out.c 7 rfl
    go_wp2_with fail
    refine (I1.out _).mono ?_
    rintro e v ⟨rfl, rfl⟩
    go_wp2_with fail
    go_ret
    exact ⟨rfl, HB0.out⟩
  rcases d2 with _ | _
  · try simp only [Bool.false_and, Bool.true_and, Bool.and_false, Bool.and_true]
    go_enter Try.func18, Try.ntmps18
    go_upto_region 1 with fail
    generalize w.alloc (.cells #[.int .i64 px, .int .i64 py, .int .i64 qx, .int .i64 qy, .int .i64 rx, .int .i64 ry, .int .i64 sx, .int .i64 sy] 25) = w1 at *
    have xC0 : w1.cell? ⟨w.heap.size, 0, none⟩ = some (.int .i64 px) := HC0.out.c 0 rfl
    have xC1 : w1.cell? ⟨w.heap.size, 1, none⟩ = some (.int .i64 py) := HC0.out.c 1 rfl
    have xC2 : w1.cell? ⟨w.heap.size, 2, none⟩ = some (.int .i64 qx) := HC0.out.c 2 rfl
    have xC3 : w1.cell? ⟨w.heap.size, 3, none⟩ = some (.int .i64 qy) := HC0.out.c 3 rfl
    have xC4 : w1.cell? ⟨w.heap.size, 4, none⟩ = some (.int .i64 rx) := HC0.out.c 4 rfl
    have xC5 : w1.cell? ⟨w.heap.size, 5, none⟩ = some (.int .i64 ry) := HC0.out.c 5 rfl
    have xC6 : w1.cell? ⟨w.heap.size, 6, none⟩ = some (.int .i64 sx) := HC0.out.c 6 rfl
    have xC7 : w1.cell? ⟨w.heap.size, 7, none⟩ = some (.int .i64 sy) := HC0.out.c 7 rfl
    go_wp2_with fail
    refine (I1.out _).mono ?_
    rintro e v ⟨rfl, rfl⟩
    go_wp2_with fail
    refine (I2.out _).mono ?_
    rintro e v ⟨rfl, rfl⟩
    go_wp2_with fail
    go_ret
    exact ⟨rfl, HB0.out⟩
  rcases d3 with _ | _
  · try simp only [Bool.false_and, Bool.true_and, Bool.and_false, Bool.and_true]
    go_enter Try.func18, Try.ntmps18
    go_upto_region 1 with fail
    generalize w.alloc (.cells #[.int .i64 px, .int .i64 py, .int .i64 qx, .int .i64 qy, .int .i64 rx, .int .i64 ry, .int .i64 sx, .int .i64 sy] 25) = w1 at *
    have xC0 : w1.cell? ⟨w.heap.size, 0, none⟩ = some (.int .i64 px) := HC0.out.c 0 rfl
    have xC1 : w1.cell? ⟨w.heap.size, 1, none⟩ = some (.int .i64 py) := HC0.out.c 1 rfl
    have xC2 : w1.cell? ⟨w.heap.size, 2, none⟩ = some (.int .i64 qx) := HC0.out.c 2 rfl
    have xC3 : w1.cell? ⟨w.heap.size, 3, none⟩ = some (.int .i64 qy) := HC0.out.c 3 rfl
    have xC4 : w1.cell? ⟨w.heap.size, 4, none⟩ = some (.int .i64 rx) := HC0.out.c 4 rfl
    have xC5 : w1.cell? ⟨w.heap.size, 5, none⟩ = some (.int .i64 ry) := HC0.out.c 5 rfl
    have xC6 : w1.cell? ⟨w.heap.size, 6, none⟩ = some (.int .i64 sx) := HC0.out.c 6 rfl
    have xC7 : w1.cell? ⟨w.heap.size, 7, none⟩ = some (.int .i64 sy) := HC0.out.c 7 rfl
    go_wp2_with fail
    refine (I1.out _).mono ?_
    rintro e v ⟨rfl, rfl⟩
    go_wp2_with fail
    refine (I2.out _).mono ?_
    rintro e v ⟨rfl, rfl⟩
    go_wp2_with fail
    refine (I3.out _).mono ?_
    rintro e v ⟨rfl, rfl⟩
    go_wp2_with fail
    go_ret
    exact ⟨rfl, HB0.out⟩
  rcases d4 with _ | _
  · try simp only [Bool.false_and, Bool.true_and, Bool.and_false, Bool.and_true]
    go_enter Try.func18, Try.ntmps18
    go_upto_region 1 with fail
    generalize w.alloc (.cells #[.int .i64 px, .int .i64 py, .int .i64 qx, .int .i64 qy, .int .i64 rx, .int .i64 ry, .int .i64 sx, .int .i64 sy] 25) = w1 at *
    have xC0 : w1.cell? ⟨w.heap.size, 0, none⟩ = some (.int .i64 px) := HC0.out.c 0 rfl
    have xC1 : w1.cell? ⟨w.heap.size, 1, none⟩ = some (.int .i64 py) := HC0.out.c 1 rfl
    have xC2 : w1.cell? ⟨w.heap.size, 2, none⟩ = some (.int .i64 qx) := HC0.out.c 2 rfl
    have xC3 : w1.cell? ⟨w.heap.size, 3, none⟩ = some (.int .i64 qy) := HC0.out.c 3 rfl
    have xC4 : w1.cell? ⟨w.heap.size, 4, none⟩ = some (.int .i64 rx) := HC0.out.c 4 rfl
    have xC5 : w1.cell? ⟨w.heap.size, 5, none⟩ = some (.int .i64 ry) := HC0.out.c 5 rfl
    have xC6 : w1.cell? ⟨w.heap.size, 6, none⟩ = some (.int .i64 sx) := HC0.out.c 6 rfl
    have xC7 : w1.cell? ⟨w.heap.size, 7, none⟩ = some (.int .i64 sy) := HC0.out.c 7 rfl
    go_wp2_with fail
    refine (I1.out _).mono ?_
    rintro e v ⟨rfl, rfl⟩
    go_wp2_with fail
    refine (I2.out _).mono ?_
    rintro e v ⟨rfl, rfl⟩
    go_wp2_with fail
    refine (I3.out _).mono ?_
    rintro e v ⟨rfl, rfl⟩
    go_wp2_with fail
    refine (I4.out _).mono ?_
    rintro e v ⟨rfl, rfl⟩
    go_wp2_with fail
    go_ret
    exact ⟨rfl, HB0.out⟩
  try simp only [Bool.false_and, Bool.true_and, Bool.and_false, Bool.and_true]
  go_enter Try.func18, Try.ntmps18
  go_upto_region 1 with fail
  generalize w.alloc (.cells #[.int .i64 px, .int .i64 py, .int .i64 qx, .int .i64 qy, .int .i64 rx, .int .i64 ry, .int .i64 sx, .int .i64 sy] 25) = w1 at *
  have xC0 : w1.cell? ⟨w.heap.size, 0, none⟩ = some (.int .i64 px) := HC0.out.c 0 rfl
  have xC1 : w1.cell? ⟨w.heap.size, 1, none⟩ = some (.int .i64 py) := HC0.out.c 1 rfl
  have xC2 : w1.cell? ⟨w.heap.size, 2, none⟩ = some (.int .i64 qx) := HC0.out.c 2 rfl
  have xC3 : w1.cell? ⟨w.heap.size, 3, none⟩ = some (.int .i64 qy) := HC0.out.c 3 rfl
  have xC4 : w1.cell? ⟨w.heap.size, 4, none⟩ = some (.int .i64 rx) := HC0.out.c 4 rfl
  have xC5 : w1.cell? ⟨w.heap.size, 5, none⟩ = some (.int .i64 ry) := HC0.out.c 5 rfl
  have xC6 : w1.cell? ⟨w.heap.size, 6, none⟩ = some (.int .i64 sx) := HC0.out.c 6 rfl
  have xC7 : w1.cell? ⟨w.heap.size, 7, none⟩ = some (.int .i64 sy) := HC0.out.c 7 rfl
  go_wp2_with fail
  refine (I1.out _).mono ?_
  rintro e v ⟨rfl, rfl⟩
  go_wp2_with fail
  refine (I2.out _).mono ?_
  rintro e v ⟨rfl, rfl⟩
  go_wp2_with fail
  refine (I3.out _).mono ?_
  rintro e v ⟨rfl, rfl⟩
  go_wp2_with fail
  refine (I4.out _).mono ?_
  rintro e v ⟨rfl, rfl⟩
  go_wp2_with fail
  go_ret
  exact ⟨rfl, HB0.out⟩
end Go.Proofs.Ytgkjbmejfcijkaa
