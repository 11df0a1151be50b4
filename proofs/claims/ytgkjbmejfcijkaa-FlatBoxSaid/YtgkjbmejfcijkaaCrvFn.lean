/-
  Package curve: corners, through, middle. (Typed by a program: wip/gen_crv1.py.)
-/
import Derived.Test.YtgkjbmejfcijkaaJRet
import Derived.Test.YtgkjbmejfcijkaaOpsDot
namespace Go.Proofs.Ytgkjbmejfcijkaa
open Go.RowKit Go.Shelf

theorem in40_i {x : Int} (h : In40 x) : I64 x := by unfold In40 at h; unfold I64; omega
theorem wi_40 (n : Int) : wiB 1099511627777 n = decide (In40 n) := by
  unfold wiB In40
  exact decide_eq_decide.2 ⟨fun h => ⟨by omega, by omega⟩, fun h => ⟨by omega, by omega⟩⟩
theorem wi_513 (n : Int) : wiB 513 n = decide (n ≤ 512 ∧ -512 ≤ n) := by
  unfold wiB
  exact decide_eq_decide.2 ⟨fun h => ⟨by omega, by omega⟩, fun h => ⟨by omega, by omega⟩⟩
/-- The eight numbers of a curve fit. -/
def Crv.i64 (c : Crv) : Prop := (I64 c.px ∧ I64 c.py) ∧ (I64 c.qx ∧ I64 c.qy) ∧ (I64 c.rx ∧ I64 c.ry) ∧ (I64 c.sx ∧ I64 c.sy)
theorem right_i64 {c : Crv} (h : c.right) : c.i64 := ⟨⟨in40_i h.1.1, in40_i h.1.2⟩, ⟨in40_i h.2.1.1, in40_i h.2.1.2⟩, ⟨in40_i h.2.2.1.1, in40_i h.2.2.1.2⟩, in40_i h.2.2.2.1, in40_i h.2.2.2.2⟩
/-- Four points that are handed back. -/
theorem arr_ret {f : Func} {k : Nat} (hres : f.results = #[ResultVar.cell k 79]) {n : Nat} {w wr : World} {a0 a1 a2 a3 a4 a5 a6 a7 : Value} {ts : Array Value} (hp : CBox n 79 #[a0, a1, a2, a3, a4, a5, a6, a7] wr) (hb : Below w.heap.size w wr) (hts : ts[k]? = some (.pointer (some ⟨n, 0, none⟩))) :
    bodyPost Try.prog f (fun e w' => e = .returned (.agg #[a0, a1, a2, a3, a4, a5, a6, a7]) ∧ Below w.heap.size w w') .ret { tmps := ts, defers := [] } wr := by
  have c0 : wr.cell? ⟨n, 0, none⟩ = some a0 := hp.c 0 rfl
  have c1 : wr.cell? ⟨n, 1, none⟩ = some a1 := hp.c 1 rfl
  have c2 : wr.cell? ⟨n, 2, none⟩ = some a2 := hp.c 2 rfl
  have c3 : wr.cell? ⟨n, 3, none⟩ = some a3 := hp.c 3 rfl
  have c4 : wr.cell? ⟨n, 4, none⟩ = some a4 := hp.c 4 rfl
  have c5 : wr.cell? ⟨n, 5, none⟩ = some a5 := hp.c 5 rfl
  have c6 : wr.cell? ⟨n, 6, none⟩ = some a6 := hp.c 6 rfl
  have c7 : wr.cell? ⟨n, 7, none⟩ = some a7 := hp.c 7 rfl
  exact bodyPost_ret (v := .agg #[a0, a1, a2, a3, a4, a5, a6, a7]) (by simp [results, hres, go_sem, c0, c1, c2, c3, c4, c5, c6, c7, hts]) rfl ⟨rfl, hb⟩
set_option maxHeartbeats 2000000 in
set_option maxRecDepth 100000 in
theorem corners11 (c : Crv) (w : World) : Calls Try.prog 46 #[c.val] w fun e w' => e = .returned c.val ∧ Below w.heap.size w w' := by
  obtain ⟨px, py, qx, qy, rx, ry, sx, sy⟩ := c
  unfold Crv.val Crv.arr
  dsimp only
  obtain ⟨k1, k2, k3⟩ := boxes_two w #[.int .i64 px, .int .i64 py, .int .i64 qx, .int .i64 qy, .int .i64 rx, .int .i64 ry, .int .i64 sx, .int .i64 sy] #[.int .i64 0, .int .i64 0, .int .i64 0, .int .i64 0, .int .i64 0, .int .i64 0, .int .i64 0, .int .i64 0] 25 79
  have HC0 := Lib.hid k1; have HZ0 := Lib.hid k2; have HB0 := Lib.hid k3
  clear k1 k2 k3
  go_enter Try.func46, Try.ntmps46
  go_upto_region 1 with fail
  generalize ((w.alloc (.cells #[.int .i64 px, .int .i64 py, .int .i64 qx, .int .i64 qy, .int .i64 rx, .int .i64 ry, .int .i64 sx, .int .i64 sy] 25)).alloc (.cells #[.int .i64 0, .int .i64 0, .int .i64 0, .int .i64 0, .int .i64 0, .int .i64 0, .int .i64 0, .int .i64 0] 79)) = w1 at *
  have xC0 : w1.cell? ⟨w.heap.size, 0, none⟩ = some (.int .i64 px) := HC0.out.c 0 rfl
  have xC1 : w1.cell? ⟨w.heap.size, 1, none⟩ = some (.int .i64 py) := HC0.out.c 1 rfl
  have xC2 : w1.cell? ⟨w.heap.size, 2, none⟩ = some (.int .i64 qx) := HC0.out.c 2 rfl
  have xC3 : w1.cell? ⟨w.heap.size, 3, none⟩ = some (.int .i64 qy) := HC0.out.c 3 rfl
  have xC4 : w1.cell? ⟨w.heap.size, 4, none⟩ = some (.int .i64 rx) := HC0.out.c 4 rfl
  have xC5 : w1.cell? ⟨w.heap.size, 5, none⟩ = some (.int .i64 ry) := HC0.out.c 5 rfl
  have xC6 : w1.cell? ⟨w.heap.size, 6, none⟩ = some (.int .i64 sx) := HC0.out.c 6 rfl
  have xC7 : w1.cell? ⟨w.heap.size, 7, none⟩ = some (.int .i64 sy) := HC0.out.c 7 rfl
  have u0 : w1.cell? ⟨w.heap.size + 1, 0, none⟩ = some (.int .i64 0) := HZ0.out.c 0 rfl
  have r0 := HZ0.out.z 0
  have u1 : w1.cell? ⟨w.heap.size + 1, 1, none⟩ = some (.int .i64 0) := HZ0.out.c 1 rfl
  have r1 := HZ0.out.z 1
  have u2 : w1.cell? ⟨w.heap.size + 1, 2, none⟩ = some (.int .i64 0) := HZ0.out.c 2 rfl
  have r2 := HZ0.out.z 2
  have u3 : w1.cell? ⟨w.heap.size + 1, 3, none⟩ = some (.int .i64 0) := HZ0.out.c 3 rfl
  have r3 := HZ0.out.z 3
  have u4 : w1.cell? ⟨w.heap.size + 1, 4, none⟩ = some (.int .i64 0) := HZ0.out.c 4 rfl
  have r4 := HZ0.out.z 4
  have u5 : w1.cell? ⟨w.heap.size + 1, 5, none⟩ = some (.int .i64 0) := HZ0.out.c 5 rfl
  have r5 := HZ0.out.z 5
  have u6 : w1.cell? ⟨w.heap.size + 1, 6, none⟩ = some (.int .i64 0) := HZ0.out.c 6 rfl
  have r6 := HZ0.out.z 6
  have u7 : w1.cell? ⟨w.heap.size + 1, 7, none⟩ = some (.int .i64 0) := HZ0.out.c 7 rfl
  have r7 := HZ0.out.z 7
  go_wp2_with fail
  exact arr_ret Try.results46 (CBox.set8 HZ0.out _ _ _ _ _ _ _ _) (below_8 HB0.out (by omega) _ _ _ _ _ _ _ _) rfl
set_option maxHeartbeats 2000000 in
set_option maxRecDepth 100000 in
theorem through11 (c : Crv) (w : World) : Calls Try.prog 48 #[c.val] w fun e w' => e = .returned c.val ∧ Below w.heap.size w w' := by
  obtain ⟨px, py, qx, qy, rx, ry, sx, sy⟩ := c
  unfold Crv.val Crv.arr
  dsimp only
  obtain ⟨k1, k2, k3⟩ := boxes_two w #[.int .i64 px, .int .i64 py, .int .i64 qx, .int .i64 qy, .int .i64 rx, .int .i64 ry, .int .i64 sx, .int .i64 sy] #[.int .i64 0, .int .i64 0, .int .i64 0, .int .i64 0, .int .i64 0, .int .i64 0, .int .i64 0, .int .i64 0] 79 25
  have HC0 := Lib.hid k1; have HZ0 := Lib.hid k2; have HB0 := Lib.hid k3
  clear k1 k2 k3
  go_enter Try.func48, Try.ntmps48
  go_upto_region 1 with fail
  generalize ((w.alloc (.cells #[.int .i64 px, .int .i64 py, .int .i64 qx, .int .i64 qy, .int .i64 rx, .int .i64 ry, .int .i64 sx, .int .i64 sy] 79)).alloc (.cells #[.int .i64 0, .int .i64 0, .int .i64 0, .int .i64 0, .int .i64 0, .int .i64 0, .int .i64 0, .int .i64 0] 25)) = w1 at *
  have xC0 : w1.cell? ⟨w.heap.size, 0, none⟩ = some (.int .i64 px) := HC0.out.c 0 rfl
  have xC1 : w1.cell? ⟨w.heap.size, 1, none⟩ = some (.int .i64 py) := HC0.out.c 1 rfl
  have xC2 : w1.cell? ⟨w.heap.size, 2, none⟩ = some (.int .i64 qx) := HC0.out.c 2 rfl
  have xC3 : w1.cell? ⟨w.heap.size, 3, none⟩ = some (.int .i64 qy) := HC0.out.c 3 rfl
  have xC4 : w1.cell? ⟨w.heap.size, 4, none⟩ = some (.int .i64 rx) := HC0.out.c 4 rfl
  have xC5 : w1.cell? ⟨w.heap.size, 5, none⟩ = some (.int .i64 ry) := HC0.out.c 5 rfl
  have xC6 : w1.cell? ⟨w.heap.size, 6, none⟩ = some (.int .i64 sx) := HC0.out.c 6 rfl
  have xC7 : w1.cell? ⟨w.heap.size, 7, none⟩ = some (.int .i64 sy) := HC0.out.c 7 rfl
  have u0 : w1.cell? ⟨w.heap.size + 1, 0, none⟩ = some (.int .i64 0) := HZ0.out.c 0 rfl
  have r0 := HZ0.out.z 0
  have u1 : w1.cell? ⟨w.heap.size + 1, 1, none⟩ = some (.int .i64 0) := HZ0.out.c 1 rfl
  have r1 := HZ0.out.z 1
  have u2 : w1.cell? ⟨w.heap.size + 1, 2, none⟩ = some (.int .i64 0) := HZ0.out.c 2 rfl
  have r2 := HZ0.out.z 2
  have u3 : w1.cell? ⟨w.heap.size + 1, 3, none⟩ = some (.int .i64 0) := HZ0.out.c 3 rfl
  have r3 := HZ0.out.z 3
  have u4 : w1.cell? ⟨w.heap.size + 1, 4, none⟩ = some (.int .i64 0) := HZ0.out.c 4 rfl
  have r4 := HZ0.out.z 4
  have u5 : w1.cell? ⟨w.heap.size + 1, 5, none⟩ = some (.int .i64 0) := HZ0.out.c 5 rfl
  have r5 := HZ0.out.z 5
  have u6 : w1.cell? ⟨w.heap.size + 1, 6, none⟩ = some (.int .i64 0) := HZ0.out.c 6 rfl
  have r6 := HZ0.out.z 6
  have u7 : w1.cell? ⟨w.heap.size + 1, 7, none⟩ = some (.int .i64 0) := HZ0.out.c 7 rfl
  have r7 := HZ0.out.z 7
  go_wp2_with fail
  exact crv_ret Try.results48 (CBox.set8 HZ0.out _ _ _ _ _ _ _ _) (below_8 HB0.out (by omega) _ _ _ _ _ _ _ _) rfl
theorem mid_is (a b : Int) : dot a 1 b 1 1 = mid a b := by unfold dot mid; rw [Int.mul_one, Int.mul_one]
set_option maxHeartbeats 1000000 in
theorem middle11 (a b : Int) (w : World) (ha : In40 a) (hb : In40 b) : Calls Try.prog 47 #[.int .i64 a, .int .i64 b] w fun e w' => e = .returned (.int .i64 (mid a b)) ∧ Below w.heap.size w w' := by
  have D : Hid (∀ w : World, Calls Try.prog 55 #[.int .i64 a, .int .i64 1, .int .i64 b, .int .i64 1, .int .i64 1] w fun e w' => e = .returned (.tuple #[.int .i64 (mid a b), .bool true]) ∧ Below w.heap.size w w') := Lib.hid (fun w => by
    have k := dot_any a 1 b 1 1 w (in40_i ha) ⟨by decide, by decide⟩ (in40_i hb) ⟨by decide, by decide⟩ (by decide)
    rw [mid_is, pair_i64 (in40_i (mid40 ha hb))] at k
    exact k)
  generalize mid a b = n at *
  clear ha hb
  go_enter Try.func47, Try.ntmps47
  go_wp2_with fail
  refine (D.out _).mono ?_
  rintro e w2 ⟨rfl, b2⟩
  go_wp2_with fail
  go_ret
  exact ⟨rfl, b2⟩
end Go.Proofs.Ytgkjbmejfcijkaa
