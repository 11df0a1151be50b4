/-
  Package curve: Right, Back, corners, through, middle, third, what At asks of two numbers. (Typed by a program: wip/gen_crv1.py.)
-/
import Derived.Test.YtainocdbapnaaaaRefCrvC
import Derived.Test.YtainocdbapnaaaaOps
import Derived.Test.YtainocdbapnaaaaOpsShift
namespace Go.Proofs.Ytainocdbapnaaaa
open Go.RowKit Go.Shelf

theorem in40_i {x : Int} (h : In40 x) : I64 x := by unfold In40 at h; unfold I64; omega
theorem wi_40 (n : Int) : wiB 1099511627777 n = decide (In40 n) := by
  unfold wiB In40
  exact decide_eq_decide.2 ⟨fun h => ⟨by omega, by omega⟩, fun h => ⟨by omega, by omega⟩⟩
theorem wi_513 (n : Int) : wiB 513 n = decide (n ≤ 512 ∧ -512 ≤ n) := by
  unfold wiB
  exact decide_eq_decide.2 ⟨fun h => ⟨by omega, by omega⟩, fun h => ⟨by omega, by omega⟩⟩
theorem right_all (c : Crv) : [c.px, c.py, c.qx, c.qy, c.rx, c.ry, c.sx, c.sy].all (wiB 1099511627777) = decide c.right := by
  simp only [List.all_cons, List.all_nil, wi_40, Bool.and_true]
  rw [Bool.eq_iff_iff]
  simp only [Bool.and_eq_true, decide_eq_true_iff]
  unfold Crv.right
  exact ⟨fun h => ⟨⟨h.1, h.2.1⟩, ⟨h.2.2.1, h.2.2.2.1⟩, ⟨h.2.2.2.2.1, h.2.2.2.2.2.1⟩, h.2.2.2.2.2.2.1, h.2.2.2.2.2.2.2⟩, fun h => ⟨h.1.1, h.1.2, h.2.1.1, h.2.1.2, h.2.2.1.1, h.2.2.1.2, h.2.2.2.1, h.2.2.2.2⟩⟩
/-- The eight numbers of a curve fit. -/
def Crv.i64 (c : Crv) : Prop := (I64 c.px ∧ I64 c.py) ∧ (I64 c.qx ∧ I64 c.qy) ∧ (I64 c.rx ∧ I64 c.ry) ∧ (I64 c.sx ∧ I64 c.sy)
theorem right_i64 {c : Crv} (h : c.right) : c.i64 := ⟨⟨in40_i h.1.1, in40_i h.1.2⟩, ⟨in40_i h.2.1.1, in40_i h.2.1.2⟩, ⟨in40_i h.2.2.1.1, in40_i h.2.2.1.2⟩, in40_i h.2.2.2.1, in40_i h.2.2.2.2⟩
/-- Four points that are handed back. -/
theorem arr_ret {f : Func} {k : Nat} (hres : f.results = #[ResultVar.cell k 40]) {n : Nat} {w wr : World} {a0 a1 a2 a3 a4 a5 a6 a7 : Value} {ts : Array Value} (hp : CBox n 40 #[a0, a1, a2, a3, a4, a5, a6, a7] wr) (hb : Below w.heap.size w wr) (hts : ts[k]? = some (.pointer (some ⟨n, 0, none⟩))) :
    bodyPost Try.prog f (fun e w' => e = .returned (.agg #[a0, a1, a2, a3, a4, a5, a6, a7]) ∧ Below w.heap.size w w') .ret { tmps := ts, defers := [] } wr := by
  have c0 : wr.cell? ⟨n, 0, none⟩ = some a0 := hp.c 0 rfl
  have c1 : wr.cell? ⟨n, 1, none⟩ = some a1 := hp.c 1 rfl
  have c2 : wr.cell? ⟨n, 2, none⟩ = some a2 := hp.c 2 rfl
  have c3 : wr.cell? ⟨n, 3, none⟩ = some a3 := hp.c 3 rfl
  have c4 : wr.cell? ⟨n, 4, none⟩ = some a4 := hp.c 4 rfl
  have c5 : wr.cell? ⟨n, 5, none⟩ = some a5 := hp.c 5 rfl
  have c6 : wr.cell? ⟨n, 6, none⟩ = some a6 := hp.c 6 rfl
  have c7 : wr.cell? ⟨n, 7, none⟩ = some a7 := hp.c 7 rfl
  exact bodyPost_ret (v := .agg #[a0, a1, a2, a3, a4, a5, a6, a7]) (by simp [results, hres, go_sem, c0, c1, c2, c3, c4, c5, c6, c7, hts]) rfl ⟨rfl, hb⟩
set_option maxHeartbeats 2000000 in
set_option maxRecDepth 100000 in
theorem cright11 (c : Crv) (w : World) (h : c.i64) : Calls Try.prog 9 #[c.val] w fun e w' => e = .returned (.bool (decide c.right)) ∧ Below w.heap.size w w' := by
  obtain ⟨⟨h1, h2⟩, ⟨h3, h4⟩, ⟨h5, h6⟩, h7, h8⟩ := h
  have ed := right_all c
  obtain ⟨px, py, qx, qy, rx, ry, sx, sy⟩ := c
  unfold Crv.val Crv.arr
  dsimp only at h1 h2 h3 h4 h5 h6 h7 h8 ed ⊢
  have hl8 : [px, py, qx, qy, rx, ry, sx, sy].length = 8 := rfl
  have WI := Lib.hid (show ∀ (w : World) (n : Nat), IntsK .i64 (some ⟨n, 0, none⟩) [px, py, qx, qy, rx, ry, sx, sy] w → Calls Try.prog 23 #[.int .i64 1099511627777, .slice (some ⟨n, 0, none⟩) 8 8] w fun e w' => e = .returned (.bool (decide (Crv.right ⟨px, py, qx, qy, rx, ry, sx, sy⟩))) ∧ w = w' from fun w n h => by
    have := within_any 1099511627777 (some ⟨n, 0, none⟩) [px, py, qx, qy, rx, ry, sx, sy] 8 w ⟨by decide, by decide⟩ (by intro z hz; simp only [List.mem_cons, List.not_mem_nil, or_false] at hz; rcases hz with rfl | rfl | rfl | rfl | rfl | rfl | rfl | rfl <;> assumption) (by rw [hl8]; unfold maxLen; omega) h
    rw [ed, hl8] at this; exact this)
  generalize decide (Crv.right ⟨px, py, qx, qy, rx, ry, sx, sy⟩) = D at *
  clear ed hl8 h1 h2 h3 h4 h5 h6 h7 h8
  go_enter Try.func9, Try.ntmps9
  go_wp2_with fail
  have b1 := (Below.refl w.heap.size w).alloc (Nat.le_refl _) (.cells #[.int .i64 px, .int .i64 py, .int .i64 qx, .int .i64 qy, .int .i64 rx, .int .i64 ry, .int .i64 sx, .int .i64 sy] 25)
  have s1 : (w.alloc (.cells #[.int .i64 px, .int .i64 py, .int .i64 qx, .int .i64 qy, .int .i64 rx, .int .i64 ry, .int .i64 sx, .int .i64 sy] 25)).heap.size = w.heap.size + 1 := by simp
  generalize w.alloc (.cells #[.int .i64 px, .int .i64 py, .int .i64 qx, .int .i64 qy, .int .i64 rx, .int .i64 ry, .int .i64 sx, .int .i64 sy] 25) = W1 at *
  have b2 := b1.alloc b1.size (.cells #[.int .i64 px, .int .i64 py, .int .i64 qx, .int .i64 qy, .int .i64 rx, .int .i64 ry, .int .i64 sx, .int .i64 sy] 2)
  have hn := World.alloc_heap_new W1 (.cells #[.int .i64 px, .int .i64 py, .int .i64 qx, .int .i64 qy, .int .i64 rx, .int .i64 ry, .int .i64 sx, .int .i64 sy] 2)
  have HI : IntsK .i64 (some ⟨w.heap.size + 1, 0, none⟩) [px, py, qx, qy, rx, ry, sx, sy] (W1.alloc (.cells #[.int .i64 px, .int .i64 py, .int .i64 qx, .int .i64 qy, .int .i64 rx, .int .i64 ry, .int .i64 sx, .int .i64 sy] 2)) := by
    rw [s1] at hn
    refine Or.inr ⟨w.heap.size + 1, 0, rfl, by simp; omega, fun i hi => ?_⟩
    rw [Nat.zero_add]
    unfold World.cell?
    rw [hn]
    have hi' : i < 8 := hi
    match i, hi' with
    | 0, _ => rfl
    | 1, _ => rfl
    | 2, _ => rfl
    | 3, _ => rfl
    | 4, _ => rfl
    | 5, _ => rfl
    | 6, _ => rfl
    | 7, _ => rfl
  refine (WI.out _ _ HI).mono ?_
  rintro e w3 ⟨rfl, rfl⟩
  clear HI hn WI
  go_wp2_with fail
  go_ret
  exact ⟨rfl, b2⟩
set_option maxHeartbeats 2000000 in
set_option maxRecDepth 100000 in
theorem cback11 (c : Crv) (w : World) : Calls Try.prog 15 #[c.val] w fun e w' => e = .returned c.back.val ∧ Below w.heap.size w w' := by
  obtain ⟨px, py, qx, qy, rx, ry, sx, sy⟩ := c
  unfold Crv.back Crv.val Crv.arr
  dsimp only
  obtain ⟨k1, k2, k3⟩ := boxes_two w #[.int .i64 px, .int .i64 py, .int .i64 qx, .int .i64 qy, .int .i64 rx, .int .i64 ry, .int .i64 sx, .int .i64 sy] #[.int .i64 0, .int .i64 0, .int .i64 0, .int .i64 0, .int .i64 0, .int .i64 0, .int .i64 0, .int .i64 0] 25 25
  have HC0 := Lib.hid k1; have HZ0 := Lib.hid k2; have HB0 := Lib.hid k3
  clear k1 k2 k3
  go_enter Try.func15, Try.ntmps15
  go_upto_region 1 with fail
  generalize ((w.alloc (.cells #[.int .i64 px, .int .i64 py, .int .i64 qx, .int .i64 qy, .int .i64 rx, .int .i64 ry, .int .i64 sx, .int .i64 sy] 25)).alloc (.cells #[.int .i64 0, .int .i64 0, .int .i64 0, .int .i64 0, .int .i64 0, .int .i64 0, .int .i64 0, .int .i64 0] 25)) = w1 at *
  have xC0 : w1.cell? ⟨w.heap.size, 0, none⟩ = some (.int .i64 px) := HC0.out.c 0 rfl
  have xC1 : w1.cell? ⟨w.heap.size, 1, none⟩ = some (.int .i64 py) := HC0.out.c 1 rfl
  have xC2 : w1.cell? ⟨w.heap.size, 2, none⟩ = some (.int .i64 qx) := HC0.out.c 2 rfl
  have xC3 : w1.cell? ⟨w.heap.size, 3, none⟩ = some (.int .i64 qy) := HC0.out.c 3 rfl
  have xC4 : w1.cell? ⟨w.heap.size, 4, none⟩ = some (.int .i64 rx) := HC0.out.c 4 rfl
  have xC5 : w1.cell? ⟨w.heap.size, 5, none⟩ = some (.int .i64 ry) := HC0.out.c 5 rfl
  have xC6 : w1.cell? ⟨w.heap.size, 6, none⟩ = some (.int .i64 sx) := HC0.out.c 6 rfl
  have xC7 : w1.cell? ⟨w.heap.size, 7, none⟩ = some (.int .i64 sy) := HC0.out.c 7 rfl
  have u0 : w1.cell? ⟨w.heap.size + 1, 0, none⟩ = some (.int .i64 0) := HZ0.out.c 0 rfl
  have r0 := HZ0.out.z 0
  have u1 : w1.cell? ⟨w.heap.size + 1, 1, none⟩ = some (.int .i64 0) := HZ0.out.c 1 rfl
  have r1 := HZ0.out.z 1
  have u2 : w1.cell? ⟨w.heap.size + 1, 2, none⟩ = some (.int .i64 0) := HZ0.out.c 2 rfl
  have r2 := HZ0.out.z 2
  have u3 : w1.cell? ⟨w.heap.size + 1, 3, none⟩ = some (.int .i64 0) := HZ0.out.c 3 rfl
  have r3 := HZ0.out.z 3
  have u4 : w1.cell? ⟨w.heap.size + 1, 4, none⟩ = some (.int .i64 0) := HZ0.out.c 4 rfl
  have r4 := HZ0.out.z 4
  have u5 : w1.cell? ⟨w.heap.size + 1, 5, none⟩ = some (.int .i64 0) := HZ0.out.c 5 rfl
  have r5 := HZ0.out.z 5
  have u6 : w1.cell? ⟨w.heap.size + 1, 6, none⟩ = some (.int .i64 0) := HZ0.out.c 6 rfl
  have r6 := HZ0.out.z 6
  have u7 : w1.cell? ⟨w.heap.size + 1, 7, none⟩ = some (.int .i64 0) := HZ0.out.c 7 rfl
  have r7 := HZ0.out.z 7
  go_wp2_with fail
  exact crv_ret Try.results15 (CBox.set8 HZ0.out _ _ _ _ _ _ _ _) (below_8 HB0.out (by omega) _ _ _ _ _ _ _ _) rfl
set_option maxHeartbeats 2000000 in
set_option maxRecDepth 100000 in
theorem corners11 (c : Crv) (w : World) : Calls Try.prog 25 #[c.val] w fun e w' => e = .returned c.val ∧ Below w.heap.size w w' := by
  obtain ⟨px, py, qx, qy, rx, ry, sx, sy⟩ := c
  unfold Crv.val Crv.arr
  dsimp only
  obtain ⟨k1, k2, k3⟩ := boxes_two w #[.int .i64 px, .int .i64 py, .int .i64 qx, .int .i64 qy, .int .i64 rx, .int .i64 ry, .int .i64 sx, .int .i64 sy] #[.int .i64 0, .int .i64 0, .int .i64 0, .int .i64 0, .int .i64 0, .int .i64 0, .int .i64 0, .int .i64 0] 25 40
  have HC0 := Lib.hid k1; have HZ0 := Lib.hid k2; have HB0 := Lib.hid k3
  clear k1 k2 k3
  go_enter Try.func25, Try.ntmps25
  go_upto_region 1 with fail
  generalize ((w.alloc (.cells #[.int .i64 px, .int .i64 py, .int .i64 qx, .int .i64 qy, .int .i64 rx, .int .i64 ry, .int .i64 sx, .int .i64 sy] 25)).alloc (.cells #[.int .i64 0, .int .i64 0, .int .i64 0, .int .i64 0, .int .i64 0, .int .i64 0, .int .i64 0, .int .i64 0] 40)) = w1 at *
  have xC0 : w1.cell? ⟨w.heap.size, 0, none⟩ = some (.int .i64 px) := HC0.out.c 0 rfl
  have xC1 : w1.cell? ⟨w.heap.size, 1, none⟩ = some (.int .i64 py) := HC0.out.c 1 rfl
  have xC2 : w1.cell? ⟨w.heap.size, 2, none⟩ = some (.int .i64 qx) := HC0.out.c 2 rfl
  have xC3 : w1.cell? ⟨w.heap.size, 3, none⟩ = some (.int .i64 qy) := HC0.out.c 3 rfl
  have xC4 : w1.cell? ⟨w.heap.size, 4, none⟩ = some (.int .i64 rx) := HC0.out.c 4 rfl
  have xC5 : w1.cell? ⟨w.heap.size, 5, none⟩ = some (.int .i64 ry) := HC0.out.c 5 rfl
  have xC6 : w1.cell? ⟨w.heap.size, 6, none⟩ = some (.int .i64 sx) := HC0.out.c 6 rfl
  have xC7 : w1.cell? ⟨w.heap.size, 7, none⟩ = some (.int .i64 sy) := HC0.out.c 7 rfl
  have u0 : w1.cell? ⟨w.heap.size + 1, 0, none⟩ = some (.int .i64 0) := HZ0.out.c 0 rfl
  have r0 := HZ0.out.z 0
  have u1 : w1.cell? ⟨w.heap.size + 1, 1, none⟩ = some (.int .i64 0) := HZ0.out.c 1 rfl
  have r1 := HZ0.out.z 1
  have u2 : w1.cell? ⟨w.heap.size + 1, 2, none⟩ = some (.int .i64 0) := HZ0.out.c 2 rfl
  have r2 := HZ0.out.z 2
  have u3 : w1.cell? ⟨w.heap.size + 1, 3, none⟩ = some (.int .i64 0) := HZ0.out.c 3 rfl
  have r3 := HZ0.out.z 3
  have u4 : w1.cell? ⟨w.heap.size + 1, 4, none⟩ = some (.int .i64 0) := HZ0.out.c 4 rfl
  have r4 := HZ0.out.z 4
  have u5 : w1.cell? ⟨w.heap.size + 1, 5, none⟩ = some (.int .i64 0) := HZ0.out.c 5 rfl
  have r5 := HZ0.out.z 5
  have u6 : w1.cell? ⟨w.heap.size + 1, 6, none⟩ = some (.int .i64 0) := HZ0.out.c 6 rfl
  have r6 := HZ0.out.z 6
  have u7 : w1.cell? ⟨w.heap.size + 1, 7, none⟩ = some (.int .i64 0) := HZ0.out.c 7 rfl
  have r7 := HZ0.out.z 7
  go_wp2_with fail
  exact arr_ret Try.results25 (CBox.set8 HZ0.out _ _ _ _ _ _ _ _) (below_8 HB0.out (by omega) _ _ _ _ _ _ _ _) rfl
set_option maxHeartbeats 2000000 in
set_option maxRecDepth 100000 in
theorem through11 (c : Crv) (w : World) : Calls Try.prog 27 #[c.val] w fun e w' => e = .returned c.val ∧ Below w.heap.size w w' := by
  obtain ⟨px, py, qx, qy, rx, ry, sx, sy⟩ := c
  unfold Crv.val Crv.arr
  dsimp only
  obtain ⟨k1, k2, k3⟩ := boxes_two w #[.int .i64 px, .int .i64 py, .int .i64 qx, .int .i64 qy, .int .i64 rx, .int .i64 ry, .int .i64 sx, .int .i64 sy] #[.int .i64 0, .int .i64 0, .int .i64 0, .int .i64 0, .int .i64 0, .int .i64 0, .int .i64 0, .int .i64 0] 40 25
  have HC0 := Lib.hid k1; have HZ0 := Lib.hid k2; have HB0 := Lib.hid k3
  clear k1 k2 k3
  go_enter Try.func27, Try.ntmps27
  go_upto_region 1 with fail
  generalize ((w.alloc (.cells #[.int .i64 px, .int .i64 py, .int .i64 qx, .int .i64 qy, .int .i64 rx, .int .i64 ry, .int .i64 sx, .int .i64 sy] 40)).alloc (.cells #[.int .i64 0, .int .i64 0, .int .i64 0, .int .i64 0, .int .i64 0, .int .i64 0, .int .i64 0, .int .i64 0] 25)) = w1 at *
  have xC0 : w1.cell? ⟨w.heap.size, 0, none⟩ = some (.int .i64 px) := HC0.out.c 0 rfl
  have xC1 : w1.cell? ⟨w.heap.size, 1, none⟩ = some (.int .i64 py) := HC0.out.c 1 rfl
  have xC2 : w1.cell? ⟨w.heap.size, 2, none⟩ = some (.int .i64 qx) := HC0.out.c 2 rfl
  have xC3 : w1.cell? ⟨w.heap.size, 3, none⟩ = some (.int .i64 qy) := HC0.out.c 3 rfl
  have xC4 : w1.cell? ⟨w.heap.size, 4, none⟩ = some (.int .i64 rx) := HC0.out.c 4 rfl
  have xC5 : w1.cell? ⟨w.heap.size, 5, none⟩ = some (.int .i64 ry) := HC0.out.c 5 rfl
  have xC6 : w1.cell? ⟨w.heap.size, 6, none⟩ = some (.int .i64 sx) := HC0.out.c 6 rfl
  have xC7 : w1.cell? ⟨w.heap.size, 7, none⟩ = some (.int .i64 sy) := HC0.out.c 7 rfl
  have u0 : w1.cell? ⟨w.heap.size + 1, 0, none⟩ = some (.int .i64 0) := HZ0.out.c 0 rfl
  have r0 := HZ0.out.z 0
  have u1 : w1.cell? ⟨w.heap.size + 1, 1, none⟩ = some (.int .i64 0) := HZ0.out.c 1 rfl
  have r1 := HZ0.out.z 1
  have u2 : w1.cell? ⟨w.heap.size + 1, 2, none⟩ = some (.int .i64 0) := HZ0.out.c 2 rfl
  have r2 := HZ0.out.z 2
  have u3 : w1.cell? ⟨w.heap.size + 1, 3, none⟩ = some (.int .i64 0) := HZ0.out.c 3 rfl
  have r3 := HZ0.out.z 3
  have u4 : w1.cell? ⟨w.heap.size + 1, 4, none⟩ = some (.int .i64 0) := HZ0.out.c 4 rfl
  have r4 := HZ0.out.z 4
  have u5 : w1.cell? ⟨w.heap.size + 1, 5, none⟩ = some (.int .i64 0) := HZ0.out.c 5 rfl
  have r5 := HZ0.out.z 5
  have u6 : w1.cell? ⟨w.heap.size + 1, 6, none⟩ = some (.int .i64 0) := HZ0.out.c 6 rfl
  have r6 := HZ0.out.z 6
  have u7 : w1.cell? ⟨w.heap.size + 1, 7, none⟩ = some (.int .i64 0) := HZ0.out.c 7 rfl
  have r7 := HZ0.out.z 7
  go_wp2_with fail
  exact crv_ret Try.results27 (CBox.set8 HZ0.out _ _ _ _ _ _ _ _) (below_8 HB0.out (by omega) _ _ _ _ _ _ _ _) rfl
theorem mid_is (a b : Int) : dot a 1 b 1 1 = mid a b := by unfold dot mid; rw [Int.mul_one, Int.mul_one]
set_option maxHeartbeats 1000000 in
theorem middle11 (a b : Int) (w : World) (ha : In40 a) (hb : In40 b) : Calls Try.prog 26 #[.int .i64 a, .int .i64 b] w fun e w' => e = .returned (.int .i64 (mid a b)) ∧ Below w.heap.size w w' := by
  have D : Hid (∀ w : World, Calls Try.prog 38 #[.int .i64 a, .int .i64 1, .int .i64 b, .int .i64 1, .int .i64 1] w fun e w' => e = .returned (.tuple #[.int .i64 (mid a b), .bool true]) ∧ Below w.heap.size w w') := Lib.hid (fun w => by
    have k := dot_any a 1 b 1 1 w (in40_i ha) ⟨by decide, by decide⟩ (in40_i hb) ⟨by decide, by decide⟩ (by decide)
    rw [mid_is, pair_i64 (in40_i (mid40 ha hb))] at k
    exact k)
  generalize mid a b = n at *
  clear ha hb
  go_enter Try.func26, Try.ntmps26
  go_wp2_with fail
  refine (D.out _).mono ?_
  rintro e w2 ⟨rfl, b2⟩
  go_wp2_with fail
  go_ret
  exact ⟨rfl, b2⟩
theorem third_is (a b : Int) : muldiv (a + 2 * b) 1 3 = third a b := by unfold muldiv third; rw [if_pos (by decide), Int.mul_one]; rfl
set_option maxHeartbeats 1000000 in
theorem third11 (a b : Int) (w : World) (ha : In40 a) (hb : In40 b) : Calls Try.prog 33 #[.int .i64 a, .int .i64 b] w fun e w' => e = .returned (.int .i64 (third a b)) ∧ Below w.heap.size w w' := by
  have hi : I64 (a + 2 * b) := by unfold In40 at ha hb; unfold I64; omega
  have D : Hid (∀ w : World, Calls Try.prog 39 #[.int .i64 (a + 2 * b), .int .i64 1, .int .i64 3] w fun e w' => e = .returned (.tuple #[.int .i64 (third a b), .bool true]) ∧ Below w.heap.size w w') := Lib.hid (fun w => by
    have k := muldiv_any (a + 2 * b) 1 3 w hi ⟨by decide, by decide⟩ ⟨by decide, by decide⟩ (by decide)
    rw [third_is, pair_i64 (in40_i (third40 ha hb))] at k
    exact k)
  have e1 : wrap64 (2 * b) = 2 * b := by unfold In40 at hb; unfold wrap64; omega
  have e2 : wrap64 (a + 2 * b) = a + 2 * b := by unfold I64 at hi; unfold wrap64; omega
  generalize third a b = n at *
  clear ha hb hi
  go_enter Try.func33, Try.ntmps33
  go_wp2_with fail
  refine (D.out _).mono ?_
  rintro e w2 ⟨rfl, b2⟩
  go_wp2_with fail
  go_ret
  exact ⟨rfl, b2⟩
theorem betw_is (t d : Int) : dot t d 0 0 16 = near (d * t) 65536 := by unfold dot; rw [Int.mul_comm t d, Int.mul_zero, Int.add_zero]
set_option maxHeartbeats 1000000 in
theorem between11 (q : Nat) (t a b : Int) (w : World) (h0 : 0 ≤ t) (h1 : t ≤ 65536) (ha : In40 a) (hb : In40 b) (hq : w.cell? ⟨q, 0, none⟩ = some (.int .i64 t)) :
    Calls Try.prog 35 #[.int .i64 a, .int .i64 b, .pointer (some ⟨q, 0, none⟩)] w fun e w' => e = .returned (.int .i64 (betw a b t)) ∧ Below w.heap.size w w' := by
  have hr := betw40 h0 h1 ha hb
  have hi : I64 (b - a) := by unfold In40 at ha hb; unfold I64; omega
  have hn : I64 (near ((b - a) * t) 65536) := by unfold betw at hr; unfold In40 at ha hb hr; unfold I64; omega
  have D : Hid (∀ w : World, Calls Try.prog 36 #[.int .i64 t, .int .i64 (b - a), .int .i64 16] w fun e w' => e = .returned (.tuple #[.int .i64 (near ((b - a) * t) 65536), .bool true]) ∧ Below w.heap.size w w') := Lib.hid (fun w => by
    have k := mulshift_any t (b - a) 16 w (by unfold I64; omega) hi (by decide)
    rw [betw_is, pair_i64 hn] at k
    exact k)
  have e1 : wrap64 (b - a) = b - a := by unfold I64 at hi; unfold wrap64; omega
  have e2 : wrap64 (a + near ((b - a) * t) 65536) = betw a b t := by unfold betw at hr ⊢; unfold In40 at hr; unfold wrap64; omega
  generalize betw a b t = Z at *
  generalize near ((b - a) * t) 65536 = n at *
  clear ha hb hi hr hn h0 h1
  go_enter Try.func35, Try.ntmps35
  go_wp2_with fail
  refine (D.out _).mono ?_
  rintro e w2 ⟨rfl, b2⟩
  go_wp2_with fail
  go_ret
  exact ⟨congrArg (fun z => Ending.returned (Value.int IntKind.i64 z)) e2, b2⟩
end Go.Proofs.Ytainocdbapnaaaa
