/-
  PROVED: the statement of CurveElevates, for every input: any three points are elevated as the document says; the curve goes from the first to the last of them. (Typed by a program: wip/gen_law11a.py.)
-/
import Derived.Test.YtainocdbapnaaaaRows
import Derived.Test.YtainocdbapnaaaaCrvWakes
import Derived.Test.YtainocdbapnaaaaCrvTrod
import Derived.Test.YtainocdbapnaaaaRefCrvP
import Derived.Test.YtainocdbapnaaaaPtTrod
namespace Go.Proofs.Ytainocdbapnaaaa.curveElevates
open Go.ChangeShapes Go.WideShapes Go.ChangeAt Go.RowKit Go.Shelf

set_option maxHeartbeats 16000000 in
set_option maxRecDepth 100000 in
theorem walk (px py : Int) (_hpx : I64 px) (_hpy : I64 py) (qx qy : Int) (_hqx : I64 qx) (_hqy : I64 qy) (sx sy : Int) (_hsx : I64 sx) (_hsy : I64 sy) (w : World) :
    Calls Try.prog 4 #[.agg #[.int .i64 px, .int .i64 py], .agg #[.int .i64 qx, .int .i64 qy], .agg #[.int .i64 sx, .int .i64 sy]] w fun e w' => e = .returned (.bool true) ∧ Below w.heap.size w w' := by
  have K := Lib.hid (fun w => wakes11 w)
  have Pp := Lib.hid (fun w => rpoint11 px py w)
  have Pq := Lib.hid (fun w => rpoint11 qx qy w)
  have Ps := Lib.hid (fun w => rpoint11 sx sy w)
  by_cases h0 : Pt40 px py
  rotate_left
  · rw [decide_eq_false h0] at Pp
    clear h0
    obtain ⟨k1, k2, k3, k4⟩ := boxes_three w #[.int .i64 px, .int .i64 py] #[.int .i64 qx, .int .i64 qy] #[.int .i64 sx, .int .i64 sy] 23 23 23
    have HP0 := Lib.hid k1; have HQ0 := Lib.hid k2; have HS0 := Lib.hid k3; have HB0 := Lib.hid k4
    clear k1 k2 k3 k4
    go_enter Try.func4, Try.ntmps4
    go_upto_region 1 with fail
    generalize (((w.alloc (.cells #[.int .i64 px, .int .i64 py] 23)).alloc (.cells #[.int .i64 qx, .int .i64 qy] 23)).alloc (.cells #[.int .i64 sx, .int .i64 sy] 23)) = w1 at *
    go_wp2_with fail
    refine (K.out _).mono ?_
    rintro e w2 ⟨rfl, b1⟩
    have HB1 := Lib.hid (HB0.out.trans (b1.mono HB0.out.size))
    have HP1 := Lib.hid (HP0.out.next b1)
    have HQ1 := Lib.hid (HQ0.out.next b1)
    have HS1 := Lib.hid (HS0.out.next b1)
    clear b1
    have xP0 : w2.cell? ⟨w.heap.size, 0, none⟩ = some (.int .i64 px) := HP1.out.c 0 rfl
    have xP1 : w2.cell? ⟨w.heap.size, 1, none⟩ = some (.int .i64 py) := HP1.out.c 1 rfl
    go_wp2_with fail
    refine (Pp.out _).mono ?_
    rintro e w3 ⟨rfl, b2⟩
    clear xP0 xP1
    have HB2 := Lib.hid (HB1.out.trans (b2.mono HB1.out.size))
    have HP2 := Lib.hid (HP1.out.next b2)
    have HQ2 := Lib.hid (HQ1.out.next b2)
    have HS2 := Lib.hid (HS1.out.next b2)
    clear b2
    go_wp2_with fail
    go_ret
    exact ⟨rfl, HB2.out⟩
  rw [decide_eq_true h0] at Pp
  by_cases h1 : Pt40 qx qy
  rotate_left
  · rw [decide_eq_false h1] at Pq
    clear h0 h1
    obtain ⟨k1, k2, k3, k4⟩ := boxes_three w #[.int .i64 px, .int .i64 py] #[.int .i64 qx, .int .i64 qy] #[.int .i64 sx, .int .i64 sy] 23 23 23
    have HP0 := Lib.hid k1; have HQ0 := Lib.hid k2; have HS0 := Lib.hid k3; have HB0 := Lib.hid k4
    clear k1 k2 k3 k4
    go_enter Try.func4, Try.ntmps4
    go_upto_region 1 with fail
    generalize (((w.alloc (.cells #[.int .i64 px, .int .i64 py] 23)).alloc (.cells #[.int .i64 qx, .int .i64 qy] 23)).alloc (.cells #[.int .i64 sx, .int .i64 sy] 23)) = w1 at *
    go_wp2_with fail
    refine (K.out _).mono ?_
    rintro e w2 ⟨rfl, b1⟩
    have HB1 := Lib.hid (HB0.out.trans (b1.mono HB0.out.size))
    have HP1 := Lib.hid (HP0.out.next b1)
    have HQ1 := Lib.hid (HQ0.out.next b1)
    have HS1 := Lib.hid (HS0.out.next b1)
    clear b1
    have xP0 : w2.cell? ⟨w.heap.size, 0, none⟩ = some (.int .i64 px) := HP1.out.c 0 rfl
    have xP1 : w2.cell? ⟨w.heap.size, 1, none⟩ = some (.int .i64 py) := HP1.out.c 1 rfl
    go_wp2_with fail
    refine (Pp.out _).mono ?_
    rintro e w3 ⟨rfl, b2⟩
    clear xP0 xP1
    have HB2 := Lib.hid (HB1.out.trans (b2.mono HB1.out.size))
    have HP2 := Lib.hid (HP1.out.next b2)
    have HQ2 := Lib.hid (HQ1.out.next b2)
    have HS2 := Lib.hid (HS1.out.next b2)
    clear b2
    have xQ0 : w3.cell? ⟨w.heap.size + 1, 0, none⟩ = some (.int .i64 qx) := HQ2.out.c 0 rfl
    have xQ1 : w3.cell? ⟨w.heap.size + 1, 1, none⟩ = some (.int .i64 qy) := HQ2.out.c 1 rfl
    go_wp2_with fail
    refine (Pq.out _).mono ?_
    rintro e w4 ⟨rfl, b3⟩
    clear xQ0 xQ1
    have HB3 := Lib.hid (HB2.out.trans (b3.mono HB2.out.size))
    have HP3 := Lib.hid (HP2.out.next b3)
    have HQ3 := Lib.hid (HQ2.out.next b3)
    have HS3 := Lib.hid (HS2.out.next b3)
    clear b3
    go_wp2_with fail
    go_ret
    exact ⟨rfl, HB3.out⟩
  rw [decide_eq_true h1] at Pq
  by_cases h2 : Pt40 sx sy
  rotate_left
  · rw [decide_eq_false h2] at Ps
    clear h0 h1 h2
    obtain ⟨k1, k2, k3, k4⟩ := boxes_three w #[.int .i64 px, .int .i64 py] #[.int .i64 qx, .int .i64 qy] #[.int .i64 sx, .int .i64 sy] 23 23 23
    have HP0 := Lib.hid k1; have HQ0 := Lib.hid k2; have HS0 := Lib.hid k3; have HB0 := Lib.hid k4
    clear k1 k2 k3 k4
    go_enter Try.func4, Try.ntmps4
    go_upto_region 1 with fail
    generalize (((w.alloc (.cells #[.int .i64 px, .int .i64 py] 23)).alloc (.cells #[.int .i64 qx, .int .i64 qy] 23)).alloc (.cells #[.int .i64 sx, .int .i64 sy] 23)) = w1 at *
    go_wp2_with fail
    refine (K.out _).mono ?_
    rintro e w2 ⟨rfl, b1⟩
    have HB1 := Lib.hid (HB0.out.trans (b1.mono HB0.out.size))
    have HP1 := Lib.hid (HP0.out.next b1)
    have HQ1 := Lib.hid (HQ0.out.next b1)
    have HS1 := Lib.hid (HS0.out.next b1)
    clear b1
    have xP0 : w2.cell? ⟨w.heap.size, 0, none⟩ = some (.int .i64 px) := HP1.out.c 0 rfl
    have xP1 : w2.cell? ⟨w.heap.size, 1, none⟩ = some (.int .i64 py) := HP1.out.c 1 rfl
    go_wp2_with fail
    refine (Pp.out _).mono ?_
    rintro e w3 ⟨rfl, b2⟩
    clear xP0 xP1
    have HB2 := Lib.hid (HB1.out.trans (b2.mono HB1.out.size))
    have HP2 := Lib.hid (HP1.out.next b2)
    have HQ2 := Lib.hid (HQ1.out.next b2)
    have HS2 := Lib.hid (HS1.out.next b2)
    clear b2
    have xQ0 : w3.cell? ⟨w.heap.size + 1, 0, none⟩ = some (.int .i64 qx) := HQ2.out.c 0 rfl
    have xQ1 : w3.cell? ⟨w.heap.size + 1, 1, none⟩ = some (.int .i64 qy) := HQ2.out.c 1 rfl
    go_wp2_with fail
    refine (Pq.out _).mono ?_
    rintro e w4 ⟨rfl, b3⟩
    clear xQ0 xQ1
    have HB3 := Lib.hid (HB2.out.trans (b3.mono HB2.out.size))
    have HP3 := Lib.hid (HP2.out.next b3)
    have HQ3 := Lib.hid (HQ2.out.next b3)
    have HS3 := Lib.hid (HS2.out.next b3)
    clear b3
    have xS0 : w4.cell? ⟨w.heap.size + 1 + 1, 0, none⟩ = some (.int .i64 sx) := HS3.out.c 0 rfl
    have xS1 : w4.cell? ⟨w.heap.size + 1 + 1, 1, none⟩ = some (.int .i64 sy) := HS3.out.c 1 rfl
    go_wp2_with fail
    refine (Ps.out _).mono ?_
    rintro e w5 ⟨rfl, b4⟩
    clear xS0 xS1
    have HB4 := Lib.hid (HB3.out.trans (b4.mono HB3.out.size))
    have HP4 := Lib.hid (HP3.out.next b4)
    have HQ4 := Lib.hid (HQ3.out.next b4)
    have HS4 := Lib.hid (HS3.out.next b4)
    clear b4
    go_wp2_with fail
    go_ret
    exact ⟨rfl, HB4.out⟩
  rw [decide_eq_true h2] at Ps
  obtain ⟨hpx, hpy⟩ := h0
  obtain ⟨hqx, hqy⟩ := h1
  obtain ⟨hsx, hsy⟩ := h2
  have CE := Lib.hid (fun w => celev11 px py qx qy sx sy w hpx hpy hqx hqy hsx hsy)
  have RE := Lib.hid (fun w => relev11 px py qx qy sx sy w hpx hpy hqx hqy hsx hsy)
  clear hpx hpy hqx hqy hsx hsy
  unfold Crv.val Crv.arr at *
  dsimp only at *
  generalize third px qx = t0 at *
  generalize third py qy = t1 at *
  generalize third sx qx = t2 at *
  generalize third sy qy = t3 at *
  obtain ⟨k1, k2, k3, k4⟩ := boxes_three w #[.int .i64 px, .int .i64 py] #[.int .i64 qx, .int .i64 qy] #[.int .i64 sx, .int .i64 sy] 23 23 23
  have HP0 := Lib.hid k1; have HQ0 := Lib.hid k2; have HS0 := Lib.hid k3; have HB0 := Lib.hid k4
  clear k1 k2 k3 k4
  go_enter Try.func4, Try.ntmps4
  go_upto_region 1 with fail
  generalize (((w.alloc (.cells #[.int .i64 px, .int .i64 py] 23)).alloc (.cells #[.int .i64 qx, .int .i64 qy] 23)).alloc (.cells #[.int .i64 sx, .int .i64 sy] 23)) = w1 at *
  go_wp2_with fail
  refine (K.out _).mono ?_
  rintro e w2 ⟨rfl, b1⟩
  have HB1 := Lib.hid (HB0.out.trans (b1.mono HB0.out.size))
  have HP1 := Lib.hid (HP0.out.next b1)
  have HQ1 := Lib.hid (HQ0.out.next b1)
  have HS1 := Lib.hid (HS0.out.next b1)
  clear b1
  have xP0 : w2.cell? ⟨w.heap.size, 0, none⟩ = some (.int .i64 px) := HP1.out.c 0 rfl
  have xP1 : w2.cell? ⟨w.heap.size, 1, none⟩ = some (.int .i64 py) := HP1.out.c 1 rfl
  go_wp2_with fail
  refine (Pp.out _).mono ?_
  rintro e w3 ⟨rfl, b2⟩
  clear xP0 xP1
  have HB2 := Lib.hid (HB1.out.trans (b2.mono HB1.out.size))
  have HP2 := Lib.hid (HP1.out.next b2)
  have HQ2 := Lib.hid (HQ1.out.next b2)
  have HS2 := Lib.hid (HS1.out.next b2)
  clear b2
  have xQ0 : w3.cell? ⟨w.heap.size + 1, 0, none⟩ = some (.int .i64 qx) := HQ2.out.c 0 rfl
  have xQ1 : w3.cell? ⟨w.heap.size + 1, 1, none⟩ = some (.int .i64 qy) := HQ2.out.c 1 rfl
  go_wp2_with fail
  refine (Pq.out _).mono ?_
  rintro e w4 ⟨rfl, b3⟩
  clear xQ0 xQ1
  have HB3 := Lib.hid (HB2.out.trans (b3.mono HB2.out.size))
  have HP3 := Lib.hid (HP2.out.next b3)
  have HQ3 := Lib.hid (HQ2.out.next b3)
  have HS3 := Lib.hid (HS2.out.next b3)
  clear b3
  have xS0 : w4.cell? ⟨w.heap.size + 1 + 1, 0, none⟩ = some (.int .i64 sx) := HS3.out.c 0 rfl
  have xS1 : w4.cell? ⟨w.heap.size + 1 + 1, 1, none⟩ = some (.int .i64 sy) := HS3.out.c 1 rfl
  go_wp2_with fail
  refine (Ps.out _).mono ?_
  rintro e w5 ⟨rfl, b4⟩
  clear xS0 xS1
  have HB4 := Lib.hid (HB3.out.trans (b4.mono HB3.out.size))
  have HP4 := Lib.hid (HP3.out.next b4)
  have HQ4 := Lib.hid (HQ3.out.next b4)
  have HS4 := Lib.hid (HS3.out.next b4)
  clear b4
  have xP0 : w5.cell? ⟨w.heap.size, 0, none⟩ = some (.int .i64 px) := HP4.out.c 0 rfl
  have xP1 : w5.cell? ⟨w.heap.size, 1, none⟩ = some (.int .i64 py) := HP4.out.c 1 rfl
  have xQ0 : w5.cell? ⟨w.heap.size + 1, 0, none⟩ = some (.int .i64 qx) := HQ4.out.c 0 rfl
  have xQ1 : w5.cell? ⟨w.heap.size + 1, 1, none⟩ = some (.int .i64 qy) := HQ4.out.c 1 rfl
  have xS0 : w5.cell? ⟨w.heap.size + 1 + 1, 0, none⟩ = some (.int .i64 sx) := HS4.out.c 0 rfl
  have xS1 : w5.cell? ⟨w.heap.size + 1 + 1, 1, none⟩ = some (.int .i64 sy) := HS4.out.c 1 rfl
  go_wp2_with fail
  refine (CE.out _).mono ?_
  rintro e w6 ⟨rfl, b5⟩
  clear xP0 xP1 xQ0 xQ1 xS0 xS1
  have HB5 := Lib.hid (HB4.out.trans (b5.mono HB4.out.size))
  have HP5 := Lib.hid (HP4.out.next b5)
  have HQ5 := Lib.hid (HQ4.out.next b5)
  have HS5 := Lib.hid (HS4.out.next b5)
  clear b5
  have k1 := CBox.new w6 25 #[.int .i64 px, .int .i64 py, .int .i64 t0, .int .i64 t1, .int .i64 t2, .int .i64 t3, .int .i64 sx, .int .i64 sy]
  have b6 := (Below.refl w6.heap.size w6).alloc (Nat.le_refl _) (.cells #[.int .i64 px, .int .i64 py, .int .i64 t0, .int .i64 t1, .int .i64 t2, .int .i64 t3, .int .i64 sx, .int .i64 sy] 25)
  have HB6 := Lib.hid (HB5.out.trans (b6.mono HB5.out.size))
  have HP6 := Lib.hid (HP5.out.next b6)
  have HQ6 := Lib.hid (HQ5.out.next b6)
  have HS6 := Lib.hid (HS5.out.next b6)
  clear b6
  have HE6 := Lib.hid k1
  clear k1
  go_upto_region 6 with fail
  generalize w6.alloc (.cells #[.int .i64 px, .int .i64 py, .int .i64 t0, .int .i64 t1, .int .i64 t2, .int .i64 t3, .int .i64 sx, .int .i64 sy] 25) = w7 at *
  generalize w6.heap.size = eq at *
  have xP0 : w7.cell? ⟨w.heap.size, 0, none⟩ = some (.int .i64 px) := HP6.out.c 0 rfl
  have xP1 : w7.cell? ⟨w.heap.size, 1, none⟩ = some (.int .i64 py) := HP6.out.c 1 rfl
  have xQ0 : w7.cell? ⟨w.heap.size + 1, 0, none⟩ = some (.int .i64 qx) := HQ6.out.c 0 rfl
  have xQ1 : w7.cell? ⟨w.heap.size + 1, 1, none⟩ = some (.int .i64 qy) := HQ6.out.c 1 rfl
  have xS0 : w7.cell? ⟨w.heap.size + 1 + 1, 0, none⟩ = some (.int .i64 sx) := HS6.out.c 0 rfl
  have xS1 : w7.cell? ⟨w.heap.size + 1 + 1, 1, none⟩ = some (.int .i64 sy) := HS6.out.c 1 rfl
  have xE0 : w7.cell? ⟨eq, 0, none⟩ = some (.int .i64 px) := HE6.out.c 0 rfl
  have xE1 : w7.cell? ⟨eq, 1, none⟩ = some (.int .i64 py) := HE6.out.c 1 rfl
  have xE2 : w7.cell? ⟨eq, 2, none⟩ = some (.int .i64 t0) := HE6.out.c 2 rfl
  have xE3 : w7.cell? ⟨eq, 3, none⟩ = some (.int .i64 t1) := HE6.out.c 3 rfl
  have xE4 : w7.cell? ⟨eq, 4, none⟩ = some (.int .i64 t2) := HE6.out.c 4 rfl
  have xE5 : w7.cell? ⟨eq, 5, none⟩ = some (.int .i64 t3) := HE6.out.c 5 rfl
  have xE6 : w7.cell? ⟨eq, 6, none⟩ = some (.int .i64 sx) := HE6.out.c 6 rfl
  have xE7 : w7.cell? ⟨eq, 7, none⟩ = some (.int .i64 sy) := HE6.out.c 7 rfl
  have HBz := Lib.hid (Below.refl w7.heap.size w7)
  have HBd := Lib.hid HBz.out.drew
  go_region_held3 (fun w' => w'.cell? ⟨w.heap.size, 0, none⟩ = some (.int .i64 px) ∧ w'.cell? ⟨w.heap.size, 1, none⟩ = some (.int .i64 py) ∧ w'.cell? ⟨w.heap.size + 1, 0, none⟩ = some (.int .i64 qx) ∧ w'.cell? ⟨w.heap.size + 1, 1, none⟩ = some (.int .i64 qy) ∧ w'.cell? ⟨w.heap.size + 1 + 1, 0, none⟩ = some (.int .i64 sx) ∧ w'.cell? ⟨w.heap.size + 1 + 1, 1, none⟩ = some (.int .i64 sy) ∧ w'.cell? ⟨eq, 0, none⟩ = some (.int .i64 px) ∧ w'.cell? ⟨eq, 1, none⟩ = some (.int .i64 py) ∧ w'.cell? ⟨eq, 2, none⟩ = some (.int .i64 t0) ∧ w'.cell? ⟨eq, 3, none⟩ = some (.int .i64 t1) ∧ w'.cell? ⟨eq, 4, none⟩ = some (.int .i64 t2) ∧ w'.cell? ⟨eq, 5, none⟩ = some (.int .i64 t3) ∧ w'.cell? ⟨eq, 6, none⟩ = some (.int .i64 sx) ∧ w'.cell? ⟨eq, 7, none⟩ = some (.int .i64 sy)) (first | (refine ⟨?_, ?_, ?_, ?_, ?_, ?_, ?_, ?_, ?_, ?_, ?_, ?_, ?_, ?_⟩ <;> first | with_reducible assumption) | (simp [go_sem, *]; done))
    (first
    | (go_at_call 18; (with_reducible refine (RE.out _).mono ?_); rintro e v1 ⟨rfl, bc1⟩; have HBc1 := Lib.hid (HBd.out.trans (bc1.mono HBd.out.size)); clear xP0 xP1 xQ0 xQ1 xS0 xS1 xE0 xE1 xE2 xE3 xE4 xE5 xE6 xE7; have hP_ := HP6.out.next HBc1.out; have xP0 : v1.cell? ⟨w.heap.size, 0, none⟩ = some (.int .i64 px) := hP_.c 0 rfl; have xP1 : v1.cell? ⟨w.heap.size, 1, none⟩ = some (.int .i64 py) := hP_.c 1 rfl; clear hP_; have hQ_ := HQ6.out.next HBc1.out; have xQ0 : v1.cell? ⟨w.heap.size + 1, 0, none⟩ = some (.int .i64 qx) := hQ_.c 0 rfl; have xQ1 : v1.cell? ⟨w.heap.size + 1, 1, none⟩ = some (.int .i64 qy) := hQ_.c 1 rfl; clear hQ_; have hS_ := HS6.out.next HBc1.out; have xS0 : v1.cell? ⟨w.heap.size + 1 + 1, 0, none⟩ = some (.int .i64 sx) := hS_.c 0 rfl; have xS1 : v1.cell? ⟨w.heap.size + 1 + 1, 1, none⟩ = some (.int .i64 sy) := hS_.c 1 rfl; clear hS_; have hE_ := HE6.out.next HBc1.out; have xE0 : v1.cell? ⟨eq, 0, none⟩ = some (.int .i64 px) := hE_.c 0 rfl; have xE1 : v1.cell? ⟨eq, 1, none⟩ = some (.int .i64 py) := hE_.c 1 rfl; have xE2 : v1.cell? ⟨eq, 2, none⟩ = some (.int .i64 t0) := hE_.c 2 rfl; have xE3 : v1.cell? ⟨eq, 3, none⟩ = some (.int .i64 t1) := hE_.c 3 rfl; have xE4 : v1.cell? ⟨eq, 4, none⟩ = some (.int .i64 t2) := hE_.c 4 rfl; have xE5 : v1.cell? ⟨eq, 5, none⟩ = some (.int .i64 t3) := hE_.c 5 rfl; have xE6 : v1.cell? ⟨eq, 6, none⟩ = some (.int .i64 sx) := hE_.c 6 rfl; have xE7 : v1.cell? ⟨eq, 7, none⟩ = some (.int .i64 sy) := hE_.c 7 rfl; clear hE_; clear bc1)
    )
  clear xP0 xP1 xQ0 xQ1 xS0 xS1 xE0 xE1 xE2 xE3 xE4 xE5 xE6 xE7
  have HB7 := Lib.hid (HB6.out.trans (HBc1.out.mono HB6.out.size))
  have HP7 := Lib.hid (HP6.out.next HBc1.out)
  have HQ7 := Lib.hid (HQ6.out.next HBc1.out)
  have HS7 := Lib.hid (HS6.out.next HBc1.out)
  have HE7 := Lib.hid (HE6.out.next HBc1.out)
  generalize v1 = w8 at *
  go_wp2_with fail
  go_ret
  exact ⟨rfl, HB7.out⟩
set_option maxRecDepth 100000 in
theorem lifted (os : Os) (started : os.Started) (H : Type) (enc : TypeId × Value → H) :
    ReturnsInHanded {} Try.checked os 4 .any (Rows.curveElevatesSpec.pre6 enc Try.prog Try.f4 Rows.curveElevatesRow.domain false) (Rows.curveElevatesSpec.post enc Try.prog Try.f4 false true false false) := by
  refine returnsInHanded_of_change (C := Try.checked) own started (by kernel_rfl) Try.func4
    (ChangeSpec.witness6 (enc := enc) (C := Try.checked) false ⟨#[], #[.agg #[.int .i64 0, .int .i64 0], .agg #[.int .i64 0, .int .i64 0], .agg #[.int .i64 0, .int .i64 0]], []⟩ 8 (by kernel_rfl) (by kernel_rfl) (by kernel_rfl) (by kernel_rfl)) ?_
  intro W base args ds gs before hval0 hW hcnd _
  have hval : ∀ (j : Nat) t v, Try.f4.params[j]? = some t → args[j]? = some v → Value.okWide Try.prog W .any base t v := hval0
  have hW' := hW
  obtain ⟨p, q, hA0, hV, rfl, hfz, hnd⟩ := hW
  have hA : DataW.TrodAll enc Try.prog W 0 (fun _ => true) true Try.f4.params.toList args.toList ds p := hA0
  rw [Try.params4] at hA hval
  obtain ⟨v0, v1, v2, d0, d1, d2, p0, p1, p2, rfl, rfl, rfl, h0, h1, h2⟩ := trodAll_three hA
  obtain ⟨rfl, rfl⟩ := trodVars_none hV
  obtain ⟨x0, y0, rfl, wx0, wy0⟩ := pt_of_trod Try.underlying23 (by kernel_rfl) (by kernel_rfl) Try.underlying2 Try.underlying2 (hval 0 23 v0 rfl rfl) h0
  obtain ⟨x1, y1, rfl, wx1, wy1⟩ := pt_of_trod Try.underlying23 (by kernel_rfl) (by kernel_rfl) Try.underlying2 Try.underlying2 (hval 1 23 v1 rfl rfl) h1
  obtain ⟨x2, y2, rfl, wx2, wy2⟩ := pt_of_trod Try.underlying23 (by kernel_rfl) (by kernel_rfl) Try.underlying2 Try.underlying2 (hval 2 23 v2 rfl rfl) h2
  clear hA0 hval0
  simp only [List.append_nil] at hW'
  have lt0 : ∀ x ∈ p0, x.block < W.heap.size := fun x hx => hW'.lt x (by simp [hx])
  have lt1 : ∀ x ∈ p1, x.block < W.heap.size := fun x hx => hW'.lt x (by simp [hx])
  have lt2 : ∀ x ∈ p2, x.block < W.heap.size := fun x hx => hW'.lt x (by simp [hx])
  refine (walk x0 y0 wx0 wy0 x1 y1 wx1 wy1 x2 y2 wx2 wy2 W).mono fun e W' ⟨he, hg⟩ => ?_
  subst he
  have b0' := Below.trod laidOut (by kernel_rfl) (of_decide_eq_true (by kernel_rfl)) h0 hg lt0
  have b1' := Below.trod laidOut (by kernel_rfl) (of_decide_eq_true (by kernel_rfl)) h1 hg lt1
  have b2' := Below.trod laidOut (by kernel_rfl) (of_decide_eq_true (by kernel_rfl)) h2 hg lt2
  exact ⟨_, rfl, ⟨_, _, _, [], _, [], hW', trodAll_mk1 (shut_bool Try.underlying4 _), trodAll_mk3 b0' b1' b2', rfl, hg.frame _, fun h => by cases h⟩⟩

/-- The given statement. -/
theorem proved : Rows.CurveElevatesSaid :=
  OpenClaim.holds_of_wide 4 Try.f4 rfl rfl rfl rfl rfl rfl rfl ⟨rfl, rfl, rfl, rfl, rfl⟩ rfl rfl rfl rfl rfl (by kernel_rfl) Try.func4 (by kernel_rfl)
    (of_decide_eq_true (by kernel_rfl)) (by unfold Func.isWrapper; first | (rw [if_pos (by decide +kernel)]; kernel_rfl) | (rw [if_neg (by decide +kernel)]; exact ⟨rfl, rfl⟩))
    (fun os started H enc _ => lifted os started H enc)
end Go.Proofs.Ytainocdbapnaaaa.curveElevates
