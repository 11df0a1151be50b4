/-
  Package flat: a branch that is cut.
-/
import Derived.Test.YtgkjbmejfcijkaaFlatBr
namespace Go.Proofs.Ytgkjbmejfcijkaa
open Go.RowKit Go.Shelf
set_option linter.unusedSimpArgs false

def brOp0 : Oper := { dst := some 12, op := Go.Op.load 25 (Go.Operand.tmp 4), type := 25, pos := "stack.go:23", after := #[], guard := none }
def brOp1 : Oper := { dst := some 13, op := Go.Op.fieldAddr 53 (Go.Operand.tmp 1) 1, type := 0, pos := "stack.go:23", after := #[], guard := none }
def brOp2 : Oper := { dst := some 14, op := Go.Op.load 3 (Go.Operand.tmp 13), type := 3, pos := "stack.go:23", after := #[{ on := 1, ground := Go.Ground.data }], guard := none }
def brOp3 : Oper := { dst := some 15, op := Go.Op.binOp Go.BinOp.add 3 (Go.Operand.tmp 14) (Go.Operand.const (Go.Value.int Go.IntKind.i64 1)) 3, type := 3, pos := "stack.go:23", after := #[{ on := 2, ground := Go.Ground.data }], guard := none }
def brOp4 : Oper := { dst := some 16, op := Go.Op.build 53 #[(0, Go.Operand.tmp 12), (1, Go.Operand.tmp 15)], type := 53, pos := "stack.go:23", after := #[{ on := 0, ground := Go.Ground.data }, { on := 3, ground := Go.Ground.data }], guard := none }
def brOp5 : Oper := { dst := some 17, op := Go.Op.load 25 (Go.Operand.tmp 5), type := 25, pos := "stack.go:23", after := #[{ on := 10, ground := Go.Ground.gcOnly Go.Departure.lateStores }], guard := none }
def brOp6 : Oper := { dst := some 18, op := Go.Op.fieldAddr 53 (Go.Operand.tmp 1) 1, type := 0, pos := "stack.go:23", after := #[{ on := 10, ground := Go.Ground.gcOnly Go.Departure.lateStores }], guard := none }
def brOp7 : Oper := { dst := some 19, op := Go.Op.load 3 (Go.Operand.tmp 18), type := 3, pos := "stack.go:23", after := #[{ on := 6, ground := Go.Ground.data }, { on := 10, ground := Go.Ground.gcOnly Go.Departure.lateStores }], guard := none }
def brOp8 : Oper := { dst := some 20, op := Go.Op.binOp Go.BinOp.add 3 (Go.Operand.tmp 19) (Go.Operand.const (Go.Value.int Go.IntKind.i64 1)) 3, type := 3, pos := "stack.go:23", after := #[{ on := 7, ground := Go.Ground.data }, { on := 10, ground := Go.Ground.gcOnly Go.Departure.lateStores }], guard := none }
def brOp9 : Oper := { dst := some 21, op := Go.Op.build 53 #[(0, Go.Operand.tmp 17), (1, Go.Operand.tmp 20)], type := 53, pos := "stack.go:23", after := #[{ on := 5, ground := Go.Ground.data }, { on := 8, ground := Go.Ground.data }, { on := 10, ground := Go.Ground.gcOnly Go.Departure.lateStores }], guard := none }
def brOp10 : Oper := { dst := none, op := Go.Op.store 53 (Go.Operand.tmp 2) (Go.Operand.tmp 16), type := 0, pos := "stack.go:23", after := #[{ on := 4, ground := Go.Ground.data }, { on := 0, ground := Go.Ground.phase }, { on := 1, ground := Go.Ground.phase }, { on := 2, ground := Go.Ground.phase }, { on := 3, ground := Go.Ground.phase }, { on := 4, ground := Go.Ground.phase }, { on := 5, ground := Go.Ground.textOnly Go.Departure.lateStores }, { on := 6, ground := Go.Ground.textOnly Go.Departure.lateStores }, { on := 7, ground := Go.Ground.textOnly Go.Departure.lateStores }, { on := 8, ground := Go.Ground.textOnly Go.Departure.lateStores }, { on := 9, ground := Go.Ground.textOnly Go.Departure.lateStores }], guard := none }
def brOp11 : Oper := { dst := none, op := Go.Op.store 53 (Go.Operand.tmp 3) (Go.Operand.tmp 21), type := 0, pos := "stack.go:23", after := #[{ on := 9, ground := Go.Ground.data }, { on := 10, ground := Go.Ground.chain }, { on := 0, ground := Go.Ground.phase }, { on := 1, ground := Go.Ground.phase }, { on := 2, ground := Go.Ground.phase }, { on := 3, ground := Go.Ground.phase }, { on := 4, ground := Go.Ground.phase }, { on := 5, ground := Go.Ground.phase }, { on := 6, ground := Go.Ground.phase }, { on := 7, ground := Go.Ground.phase }, { on := 8, ground := Go.Ground.phase }, { on := 9, ground := Go.Ground.phase }, { on := 10, ground := Go.Ground.phase }], guard := none }
theorem brS {W : World} {nK : Nat} {tK : TypeId} {k0 k1 k2 k3 k4 k5 k6 k7 k8 : Value} (hK : CBox nK tK #[k0, k1, k2, k3, k4, k5, k6, k7, k8] W) {nM : Nat} {tM : TypeId} {m0 m1 m2 m3 m4 m5 m6 m7 : Value} (hM : CBox nM tM #[m0, m1, m2, m3, m4, m5, m6, m7] W) {nN : Nat} {tN : TypeId} {n0 n1 n2 n3 n4 n5 n6 n7 : Value} (hN : CBox nN tN #[n0, n1, n2, n3, n4, n5, n6, n7] W) : W.cell? ⟨nK, 8, none⟩ = some k8 ∧ W.cell? ⟨nM, 0, none⟩ = some m0 ∧ W.cell? ⟨nM, 1, none⟩ = some m1 ∧ W.cell? ⟨nM, 2, none⟩ = some m2 ∧ W.cell? ⟨nM, 3, none⟩ = some m3 ∧ W.cell? ⟨nM, 4, none⟩ = some m4 ∧ W.cell? ⟨nM, 5, none⟩ = some m5 ∧ W.cell? ⟨nM, 6, none⟩ = some m6 ∧ W.cell? ⟨nM, 7, none⟩ = some m7 ∧ W.cell? ⟨nN, 0, none⟩ = some n0 ∧ W.cell? ⟨nN, 1, none⟩ = some n1 ∧ W.cell? ⟨nN, 2, none⟩ = some n2 ∧ W.cell? ⟨nN, 3, none⟩ = some n3 ∧ W.cell? ⟨nN, 4, none⟩ = some n4 ∧ W.cell? ⟨nN, 5, none⟩ = some n5 ∧ W.cell? ⟨nN, 6, none⟩ = some n6 ∧ W.cell? ⟨nN, 7, none⟩ = some n7 := ⟨hK.c 8 rfl, hM.c 0 rfl, hM.c 1 rfl, hM.c 2 rfl, hM.c 3 rfl, hM.c 4 rfl, hM.c 5 rfl, hM.c 6 rfl, hM.c 7 rfl, hN.c 0 rfl, hN.c 1 rfl, hN.c 2 rfl, hN.c 3 rfl, hN.c 4 rfl, hN.c 5 rfl, hN.c 6 rfl, hN.c 7 rfl⟩
theorem cuts_more (n : Nat) : cutsI n = cutsI (n + 1) + 1 := by unfold cutsI; push_cast; omega
theorem cuts_wrap (n : Nat) (h : n ≤ 20) : wrap64 (cutsI (n + 1) + 1) = cutsI n := by rw [← cuts_more]; unfold cutsI wrap64; omega
theorem cuts_wrap2 (n : Nat) (h : n ≤ 20) : IntKind.i64.wrap (cutsI (n + 1) + 1) = cutsI n := by rw [IntKind.wrap_i64, ← cuts_more]; unfold cutsI; omega
theorem br2_ret {f : Func} {k l : Nat} (hres : f.results = #[ResultVar.cell k 53, ResultVar.cell l 53]) {n m : Nat} {wr : World} {PP : Ending → World → Prop} {a0 a1 a2 a3 a4 a5 a6 a7 a8 b0 b1 b2 b3 b4 b5 b6 b7 b8 : Value} {ts : Array Value} (hp : CBox n 53 #[a0, a1, a2, a3, a4, a5, a6, a7, a8] wr) (hq : CBox m 53 #[b0, b1, b2, b3, b4, b5, b6, b7, b8] wr) (hts : ts[k]? = some (.pointer (some ⟨n, 0, none⟩))) (htl : ts[l]? = some (.pointer (some ⟨m, 0, none⟩))) (hP : PP (.returned (.tuple #[.agg #[a0, a1, a2, a3, a4, a5, a6, a7, a8], .agg #[b0, b1, b2, b3, b4, b5, b6, b7, b8]])) wr) :
    bodyPost Try.prog f PP .ret { tmps := ts, defers := [] } wr := by
  have c0 : wr.cell? ⟨n, 0, none⟩ = some a0 := hp.c 0 rfl
  have c1 : wr.cell? ⟨n, 1, none⟩ = some a1 := hp.c 1 rfl
  have c2 : wr.cell? ⟨n, 2, none⟩ = some a2 := hp.c 2 rfl
  have c3 : wr.cell? ⟨n, 3, none⟩ = some a3 := hp.c 3 rfl
  have c4 : wr.cell? ⟨n, 4, none⟩ = some a4 := hp.c 4 rfl
  have c5 : wr.cell? ⟨n, 5, none⟩ = some a5 := hp.c 5 rfl
  have c6 : wr.cell? ⟨n, 6, none⟩ = some a6 := hp.c 6 rfl
  have c7 : wr.cell? ⟨n, 7, none⟩ = some a7 := hp.c 7 rfl
  have c8 : wr.cell? ⟨n, 8, none⟩ = some a8 := hp.c 8 rfl
  have d0 : wr.cell? ⟨m, 0, none⟩ = some b0 := hq.c 0 rfl
  have d1 : wr.cell? ⟨m, 1, none⟩ = some b1 := hq.c 1 rfl
  have d2 : wr.cell? ⟨m, 2, none⟩ = some b2 := hq.c 2 rfl
  have d3 : wr.cell? ⟨m, 3, none⟩ = some b3 := hq.c 3 rfl
  have d4 : wr.cell? ⟨m, 4, none⟩ = some b4 := hq.c 4 rfl
  have d5 : wr.cell? ⟨m, 5, none⟩ = some b5 := hq.c 5 rfl
  have d6 : wr.cell? ⟨m, 6, none⟩ = some b6 := hq.c 6 rfl
  have d7 : wr.cell? ⟨m, 7, none⟩ = some b7 := hq.c 7 rfl
  have d8 : wr.cell? ⟨m, 8, none⟩ = some b8 := hq.c 8 rfl
  exact bodyPost_ret (v := .tuple #[.agg #[a0, a1, a2, a3, a4, a5, a6, a7, a8], .agg #[b0, b1, b2, b3, b4, b5, b6, b7, b8]]) (by simp [results, hres, go_sem, c0, d0, c1, d1, c2, d2, c3, d3, c4, d4, c5, d5, c6, d6, c7, d7, c8, d8, hts, htl]) rfl hP
theorem below_9 {w w' : World} {n B : Nat} (h : Below B w w') (hn : B ≤ n) (b0 b1 b2 b3 b4 b5 b6 b7 b8 : Value) : Below B w (((((((((w'.setCell ⟨n, 0, none⟩ b0).setCell ⟨n, 1, none⟩ b1).setCell ⟨n, 2, none⟩ b2).setCell ⟨n, 3, none⟩ b3).setCell ⟨n, 4, none⟩ b4).setCell ⟨n, 5, none⟩ b5).setCell ⟨n, 6, none⟩ b6).setCell ⟨n, 7, none⟩ b7).setCell ⟨n, 8, none⟩ b8) :=
  Below.setCell (Below.setCell (Below.setCell (Below.setCell (Below.setCell (Below.setCell (Below.setCell (Below.setCell (Below.setCell h (by exact hn) _) (by exact hn) _) (by exact hn) _) (by exact hn) _) (by exact hn) _) (by exact hn) _) (by exact hn) _) (by exact hn) _) (by exact hn) _
set_option maxHeartbeats 8000000 in
set_option maxRecDepth 100000 in
theorem bcut_any (c : Crv) (n : Nat) (w : World) (hc : c.right) (hn : n ≤ 20) : Calls Try.prog 28 #[.agg (brX (c, n + 1))] w fun e w' => e = .returned (.tuple #[.agg (brX (c.cutA, n)), .agg (brX (c.cutB, n))]) ∧ Below w.heap.size w w' := by
  have C := Lib.hid (fun w => ccut11 c w hc)
  have hw := cuts_wrap n hn
  have hw2 := cuts_wrap2 n hn
  unfold brX brA
  dsimp only at *
  generalize cutsI (n + 1) = k at *
  generalize cutsI n = k' at *
  generalize c.cutA = A at *
  generalize c.cutB = B at *
  clear hc hn
  obtain ⟨px, py, qx, qy, rx, ry, sx, sy⟩ := c
  obtain ⟨a0, a1, a2, a3, a4, a5, a6, a7⟩ := A
  obtain ⟨b0, b1, b2, b3, b4, b5, b6, b7⟩ := B
  unfold Crv.val Crv.arr at C
  dsimp only at *
  obtain ⟨k1, k2, k3, k4⟩ := boxes_three w #[.int .i64 px, .int .i64 py, .int .i64 qx, .int .i64 qy, .int .i64 rx, .int .i64 ry, .int .i64 sx, .int .i64 sy, .int .i64 k] #[.int .i64 0, .int .i64 0, .int .i64 0, .int .i64 0, .int .i64 0, .int .i64 0, .int .i64 0, .int .i64 0, .int .i64 0] #[.int .i64 0, .int .i64 0, .int .i64 0, .int .i64 0, .int .i64 0, .int .i64 0, .int .i64 0, .int .i64 0, .int .i64 0] 53 53 53
  have HK0 := Lib.hid k1; have HP0 := Lib.hid k2; have HQ0 := Lib.hid k3; have HB0 := Lib.hid k4
  clear k1 k2 k3 k4
  go_enter Try.func28, Try.ntmps28
  go_upto_region 1 with fail
  generalize ((w.alloc (.cells #[.int .i64 px, .int .i64 py, .int .i64 qx, .int .i64 qy, .int .i64 rx, .int .i64 ry, .int .i64 sx, .int .i64 sy, .int .i64 k] 53)).alloc (.cells #[.int .i64 0, .int .i64 0, .int .i64 0, .int .i64 0, .int .i64 0, .int .i64 0, .int .i64 0, .int .i64 0, .int .i64 0] 53)).alloc (.cells #[.int .i64 0, .int .i64 0, .int .i64 0, .int .i64 0, .int .i64 0, .int .i64 0, .int .i64 0, .int .i64 0, .int .i64 0] 53) = w1 at *
  have z0 : w1.cell? ⟨w.heap.size, 0, none⟩ = some (.int .i64 px) := HK0.out.c 0 rfl
  have z1 : w1.cell? ⟨w.heap.size, 1, none⟩ = some (.int .i64 py) := HK0.out.c 1 rfl
  have z2 : w1.cell? ⟨w.heap.size, 2, none⟩ = some (.int .i64 qx) := HK0.out.c 2 rfl
  have z3 : w1.cell? ⟨w.heap.size, 3, none⟩ = some (.int .i64 qy) := HK0.out.c 3 rfl
  have z4 : w1.cell? ⟨w.heap.size, 4, none⟩ = some (.int .i64 rx) := HK0.out.c 4 rfl
  have z5 : w1.cell? ⟨w.heap.size, 5, none⟩ = some (.int .i64 ry) := HK0.out.c 5 rfl
  have z6 : w1.cell? ⟨w.heap.size, 6, none⟩ = some (.int .i64 sx) := HK0.out.c 6 rfl
  have z7 : w1.cell? ⟨w.heap.size, 7, none⟩ = some (.int .i64 sy) := HK0.out.c 7 rfl
  have z8 : w1.cell? ⟨w.heap.size, 8, none⟩ = some (.int .i64 k) := HK0.out.c 8 rfl
  go_upto_region 2 with (first | (go_at_call 36; (with_reducible refine (C.out _).mono ?_); rintro e v1 ⟨rfl, hbw⟩; obtain ⟨j1, j2, j3⟩ := boxes_two v1 #[.int .i64 a0, .int .i64 a1, .int .i64 a2, .int .i64 a3, .int .i64 a4, .int .i64 a5, .int .i64 a6, .int .i64 a7] #[.int .i64 b0, .int .i64 b1, .int .i64 b2, .int .i64 b3, .int .i64 b4, .int .i64 b5, .int .i64 b6, .int .i64 b7] 25 25; have HM1 := Lib.hid j1; have HN1 := Lib.hid j2; have HK1 := Lib.hid ((HK0.out.next hbw).next j3); have HP1 := Lib.hid ((HP0.out.next hbw).next j3); have HQ1 := Lib.hid ((HQ0.out.next hbw).next j3); have HB1 := Lib.hid (HB0.out.trans ((hbw.trans (j3.mono hbw.size)).mono HB0.out.size)); have hle := Lib.hid (Nat.le_trans (Nat.succ_le_of_lt HQ0.out.lt) hbw.size); clear z0 z1 z2 z3 z4 z5 z6 z7 z8 hbw j1 j2 j3))
  generalize (v1.alloc (.cells #[.int .i64 a0, .int .i64 a1, .int .i64 a2, .int .i64 a3, .int .i64 a4, .int .i64 a5, .int .i64 a6, .int .i64 a7] 25)).alloc (.cells #[.int .i64 b0, .int .i64 b1, .int .i64 b2, .int .i64 b3, .int .i64 b4, .int .i64 b5, .int .i64 b6, .int .i64 b7] 25) = v2 at *
  have hm1 := Lib.hid (show w.heap.size + 1 + 1 < v1.heap.size by have := hle.out; omega)
  have hm2 := Lib.hid (show w.heap.size + 1 + 1 < v1.heap.size + 1 by have := hle.out; omega)
  generalize v1.heap.size + 1 = m2 at *
  generalize v1.heap.size = m1 at *
  clear hle
  have hs_ := brS HK1.out HM1.out HN1.out
  refine wp_region_held_drew (S := (fun w' => w'.cell? ⟨w.heap.size, 8, none⟩ = some (.int .i64 k) ∧ w'.cell? ⟨m1, 0, none⟩ = some (.int .i64 a0) ∧ w'.cell? ⟨m1, 1, none⟩ = some (.int .i64 a1) ∧ w'.cell? ⟨m1, 2, none⟩ = some (.int .i64 a2) ∧ w'.cell? ⟨m1, 3, none⟩ = some (.int .i64 a3) ∧ w'.cell? ⟨m1, 4, none⟩ = some (.int .i64 a4) ∧ w'.cell? ⟨m1, 5, none⟩ = some (.int .i64 a5) ∧ w'.cell? ⟨m1, 6, none⟩ = some (.int .i64 a6) ∧ w'.cell? ⟨m1, 7, none⟩ = some (.int .i64 a7) ∧ w'.cell? ⟨m2, 0, none⟩ = some (.int .i64 b0) ∧ w'.cell? ⟨m2, 1, none⟩ = some (.int .i64 b1) ∧ w'.cell? ⟨m2, 2, none⟩ = some (.int .i64 b2) ∧ w'.cell? ⟨m2, 3, none⟩ = some (.int .i64 b3) ∧ w'.cell? ⟨m2, 4, none⟩ = some (.int .i64 b4) ∧ w'.cell? ⟨m2, 5, none⟩ = some (.int .i64 b5) ∧ w'.cell? ⟨m2, 6, none⟩ = some (.int .i64 b6) ∧ w'.cell? ⟨m2, 7, none⟩ = some (.int .i64 b7))) (by kernel_rfl) ?_ (fun hHeld => ?_)
  · (try dsimp only); first | exact hs_ | (simp [go_sem, *]; done)
  clear hs_
  have HBk1 : Hid (Below v2.heap.size v2 v2.drew) := Lib.hid (Below.refl v2.heap.size v2).drew
  have HKk1 : Hid (CBox (w.heap.size) 53 #[.int .i64 px, .int .i64 py, .int .i64 qx, .int .i64 qy, .int .i64 rx, .int .i64 ry, .int .i64 sx, .int .i64 sy, .int .i64 k] v2.drew) := Lib.hid HK1.out
  have HPk1 : Hid (CBox (w.heap.size + 1) 53 #[.int .i64 0, .int .i64 0, .int .i64 0, .int .i64 0, .int .i64 0, .int .i64 0, .int .i64 0, .int .i64 0, .int .i64 0] v2.drew) := Lib.hid HP1.out
  have HQk1 : Hid (CBox (w.heap.size + 1 + 1) 53 #[.int .i64 0, .int .i64 0, .int .i64 0, .int .i64 0, .int .i64 0, .int .i64 0, .int .i64 0, .int .i64 0, .int .i64 0] v2.drew) := Lib.hid HQ1.out
  have HMk1 : Hid (CBox (m1) 25 #[.int .i64 a0, .int .i64 a1, .int .i64 a2, .int .i64 a3, .int .i64 a4, .int .i64 a5, .int .i64 a6, .int .i64 a7] v2.drew) := Lib.hid HM1.out
  have HNk1 : Hid (CBox (m2) 25 #[.int .i64 b0, .int .i64 b1, .int .i64 b2, .int .i64 b3, .int .i64 b4, .int .i64 b5, .int .i64 b6, .int .i64 b7] v2.drew) := Lib.hid HN1.out
  have HJ_ : Hid (Below w.heap.size w v2.drew) := Lib.hid HB1.out.drew
  generalize v2.drew = dk1 at *
  have hs_ := brS HKk1.out HMk1.out HNk1.out
  refine wpAnyH_take (i := 0) (oi := brOp0) (v := ?_) rfl (by kernel_rfl) (by kernel_rfl) (by kernel_rfl) (fun _ _ _ h => h) (Or.inl ⟨by rfl, ?_⟩) (by assumption) ?_
  rotate_left
  · ((try unfold brOp0); intro w hSw; (try dsimp only at hSw); go_simp; (first | done | with_reducible rfl))
  (try unfold brOp0)
  (try simp only [Act.put, List.setIfInBounds_toArray, List.set_cons_zero, List.set_cons_succ])
  refine wpAnyH_take (i := 1) (oi := brOp1) (v := ?_) rfl (by kernel_rfl) (by kernel_rfl) (by kernel_rfl) (fun _ _ _ h => h) (Or.inl ⟨by rfl, ?_⟩) (by assumption) ?_
  rotate_left
  · ((try unfold brOp1); intro w hSw; (try dsimp only at hSw); go_simp; (first | done | with_reducible rfl))
  (try unfold brOp1)
  (try simp only [Act.put, List.setIfInBounds_toArray, List.set_cons_zero, List.set_cons_succ])
  refine wpAnyH_take (i := 2) (oi := brOp2) (v := ?_) rfl (by kernel_rfl) (by kernel_rfl) (by kernel_rfl) (fun _ _ _ h => h) (Or.inl ⟨by rfl, ?_⟩) (by assumption) ?_
  rotate_left
  · ((try unfold brOp2); intro w hSw; (try dsimp only at hSw); go_simp; (first | done | with_reducible rfl))
  (try unfold brOp2)
  (try simp only [Act.put, List.setIfInBounds_toArray, List.set_cons_zero, List.set_cons_succ])
  refine wpAnyH_take (i := 3) (oi := brOp3) (v := ?_) rfl (by kernel_rfl) (by kernel_rfl) (by kernel_rfl) (fun _ _ _ h => h) (Or.inl ⟨by rfl, ?_⟩) (by assumption) ?_
  rotate_left
  · ((try unfold brOp3); intro w hSw; (try dsimp only at hSw); go_simp; (first | done | with_reducible rfl))
  (try unfold brOp3)
  (try simp only [Act.put, List.setIfInBounds_toArray, List.set_cons_zero, List.set_cons_succ])
  refine wpAnyH_take (i := 4) (oi := brOp4) (v := ?_) rfl (by kernel_rfl) (by kernel_rfl) (by kernel_rfl) (fun _ _ _ h => h) (Or.inl ⟨by rfl, ?_⟩) (by assumption) ?_
  rotate_left
  · ((try unfold brOp4); intro w hSw; (try dsimp only at hSw); go_simp; (first | done | with_reducible rfl))
  (try unfold brOp4)
  (try simp only [Act.put, List.setIfInBounds_toArray, List.set_cons_zero, List.set_cons_succ])
  refine wpAnyH_take (i := 5) (oi := brOp5) (v := ?_) rfl (by kernel_rfl) (by kernel_rfl) (by kernel_rfl) (fun _ _ _ h => h) (Or.inl ⟨by rfl, ?_⟩) (by assumption) ?_
  rotate_left
  · ((try unfold brOp5); intro w hSw; (try dsimp only at hSw); go_simp; (first | done | with_reducible rfl))
  (try unfold brOp5)
  (try simp only [Act.put, List.setIfInBounds_toArray, List.set_cons_zero, List.set_cons_succ])
  refine wpAnyH_take (i := 6) (oi := brOp6) (v := ?_) rfl (by kernel_rfl) (by kernel_rfl) (by kernel_rfl) (fun _ _ _ h => h) (Or.inl ⟨by rfl, ?_⟩) (by assumption) ?_
  rotate_left
  · ((try unfold brOp6); intro w hSw; (try dsimp only at hSw); go_simp; (first | done | with_reducible rfl))
  (try unfold brOp6)
  (try simp only [Act.put, List.setIfInBounds_toArray, List.set_cons_zero, List.set_cons_succ])
  refine wpAnyH_take (i := 7) (oi := brOp7) (v := ?_) rfl (by kernel_rfl) (by kernel_rfl) (by kernel_rfl) (fun _ _ _ h => h) (Or.inl ⟨by rfl, ?_⟩) (by assumption) ?_
  rotate_left
  · ((try unfold brOp7); intro w hSw; (try dsimp only at hSw); go_simp; (first | done | with_reducible rfl))
  (try unfold brOp7)
  (try simp only [Act.put, List.setIfInBounds_toArray, List.set_cons_zero, List.set_cons_succ])
  refine wpAnyH_take (i := 8) (oi := brOp8) (v := ?_) rfl (by kernel_rfl) (by kernel_rfl) (by kernel_rfl) (fun _ _ _ h => h) (Or.inl ⟨by rfl, ?_⟩) (by assumption) ?_
  rotate_left
  · ((try unfold brOp8); intro w hSw; (try dsimp only at hSw); go_simp; (first | done | with_reducible rfl))
  (try unfold brOp8)
  (try simp only [Act.put, List.setIfInBounds_toArray, List.set_cons_zero, List.set_cons_succ])
  refine wpAnyH_take (i := 9) (oi := brOp9) (v := ?_) rfl (by kernel_rfl) (by kernel_rfl) (by kernel_rfl) (fun _ _ _ h => h) (Or.inl ⟨by rfl, ?_⟩) (by assumption) ?_
  rotate_left
  · ((try unfold brOp9); intro w hSw; (try dsimp only at hSw); go_simp; (first | done | with_reducible rfl))
  (try unfold brOp9)
  (try simp only [Act.put, List.setIfInBounds_toArray, List.set_cons_zero, List.set_cons_succ])
  refine wpAnyH_ready (rs := [10]) (by kernel_rfl) (by simp) ?_
  refine AllReadyH.cons (o := brOp10) rfl (fun K hK => ?_) AllReadyH.nil
  (try unfold brOp10)
  have u0_ : dk1.cell? ⟨w.heap.size + 1, 0, none⟩ = some (.int .i64 0) := HPk1.out.c 0 rfl
  have r0_ := HPk1.out.z 0
  have u1_ : dk1.cell? ⟨w.heap.size + 1, 1, none⟩ = some (.int .i64 0) := HPk1.out.c 1 rfl
  have r1_ := HPk1.out.z 1
  have u2_ : dk1.cell? ⟨w.heap.size + 1, 2, none⟩ = some (.int .i64 0) := HPk1.out.c 2 rfl
  have r2_ := HPk1.out.z 2
  have u3_ : dk1.cell? ⟨w.heap.size + 1, 3, none⟩ = some (.int .i64 0) := HPk1.out.c 3 rfl
  have r3_ := HPk1.out.z 3
  have u4_ : dk1.cell? ⟨w.heap.size + 1, 4, none⟩ = some (.int .i64 0) := HPk1.out.c 4 rfl
  have r4_ := HPk1.out.z 4
  have u5_ : dk1.cell? ⟨w.heap.size + 1, 5, none⟩ = some (.int .i64 0) := HPk1.out.c 5 rfl
  have r5_ := HPk1.out.z 5
  have u6_ : dk1.cell? ⟨w.heap.size + 1, 6, none⟩ = some (.int .i64 0) := HPk1.out.c 6 rfl
  have r6_ := HPk1.out.z 6
  have u7_ : dk1.cell? ⟨w.heap.size + 1, 7, none⟩ = some (.int .i64 0) := HPk1.out.c 7 rfl
  have r7_ := HPk1.out.z 7
  have u8_ : dk1.cell? ⟨w.heap.size + 1, 8, none⟩ = some (.int .i64 0) := HPk1.out.c 8 rfl
  have r8_ := HPk1.out.z 8
  go_simp
  clear u0_ r0_ u1_ r1_ u2_ r2_ u3_ r3_ u4_ r4_ u5_ r5_ u6_ r6_ u7_ r7_ u8_ r8_
  have HJ_ : Hid (Below w.heap.size w (((((((((dk1.setCell ⟨w.heap.size + 1, 0, none⟩ (.int .i64 a0)).setCell ⟨w.heap.size + 1, 1, none⟩ (.int .i64 a1)).setCell ⟨w.heap.size + 1, 2, none⟩ (.int .i64 a2)).setCell ⟨w.heap.size + 1, 3, none⟩ (.int .i64 a3)).setCell ⟨w.heap.size + 1, 4, none⟩ (.int .i64 a4)).setCell ⟨w.heap.size + 1, 5, none⟩ (.int .i64 a5)).setCell ⟨w.heap.size + 1, 6, none⟩ (.int .i64 a6)).setCell ⟨w.heap.size + 1, 7, none⟩ (.int .i64 a7)).setCell ⟨w.heap.size + 1, 8, none⟩ (.int .i64 k'))) := Lib.hid (below_9 HJ_.out (by omega) (.int .i64 a0) (.int .i64 a1) (.int .i64 a2) (.int .i64 a3) (.int .i64 a4) (.int .i64 a5) (.int .i64 a6) (.int .i64 a7) (.int .i64 k'))
  have HBk2 := HJ_
  have HKk2 : Hid (CBox (w.heap.size) 53 #[.int .i64 px, .int .i64 py, .int .i64 qx, .int .i64 qy, .int .i64 rx, .int .i64 ry, .int .i64 sx, .int .i64 sy, .int .i64 k] (((((((((dk1.setCell ⟨w.heap.size + 1, 0, none⟩ (.int .i64 a0)).setCell ⟨w.heap.size + 1, 1, none⟩ (.int .i64 a1)).setCell ⟨w.heap.size + 1, 2, none⟩ (.int .i64 a2)).setCell ⟨w.heap.size + 1, 3, none⟩ (.int .i64 a3)).setCell ⟨w.heap.size + 1, 4, none⟩ (.int .i64 a4)).setCell ⟨w.heap.size + 1, 5, none⟩ (.int .i64 a5)).setCell ⟨w.heap.size + 1, 6, none⟩ (.int .i64 a6)).setCell ⟨w.heap.size + 1, 7, none⟩ (.int .i64 a7)).setCell ⟨w.heap.size + 1, 8, none⟩ (.int .i64 k'))) := Lib.hid (HKk1.out.other9 (by have := hm1.out; have := hm2.out; omega) (.int .i64 a0) (.int .i64 a1) (.int .i64 a2) (.int .i64 a3) (.int .i64 a4) (.int .i64 a5) (.int .i64 a6) (.int .i64 a7) (.int .i64 k'))
  have HPk2 : Hid (CBox (w.heap.size + 1) 53 #[.int .i64 a0, .int .i64 a1, .int .i64 a2, .int .i64 a3, .int .i64 a4, .int .i64 a5, .int .i64 a6, .int .i64 a7, .int .i64 k'] (((((((((dk1.setCell ⟨w.heap.size + 1, 0, none⟩ (.int .i64 a0)).setCell ⟨w.heap.size + 1, 1, none⟩ (.int .i64 a1)).setCell ⟨w.heap.size + 1, 2, none⟩ (.int .i64 a2)).setCell ⟨w.heap.size + 1, 3, none⟩ (.int .i64 a3)).setCell ⟨w.heap.size + 1, 4, none⟩ (.int .i64 a4)).setCell ⟨w.heap.size + 1, 5, none⟩ (.int .i64 a5)).setCell ⟨w.heap.size + 1, 6, none⟩ (.int .i64 a6)).setCell ⟨w.heap.size + 1, 7, none⟩ (.int .i64 a7)).setCell ⟨w.heap.size + 1, 8, none⟩ (.int .i64 k'))) := Lib.hid (HPk1.out.set9 (.int .i64 a0) (.int .i64 a1) (.int .i64 a2) (.int .i64 a3) (.int .i64 a4) (.int .i64 a5) (.int .i64 a6) (.int .i64 a7) (.int .i64 k'))
  have HQk2 : Hid (CBox (w.heap.size + 1 + 1) 53 #[.int .i64 0, .int .i64 0, .int .i64 0, .int .i64 0, .int .i64 0, .int .i64 0, .int .i64 0, .int .i64 0, .int .i64 0] (((((((((dk1.setCell ⟨w.heap.size + 1, 0, none⟩ (.int .i64 a0)).setCell ⟨w.heap.size + 1, 1, none⟩ (.int .i64 a1)).setCell ⟨w.heap.size + 1, 2, none⟩ (.int .i64 a2)).setCell ⟨w.heap.size + 1, 3, none⟩ (.int .i64 a3)).setCell ⟨w.heap.size + 1, 4, none⟩ (.int .i64 a4)).setCell ⟨w.heap.size + 1, 5, none⟩ (.int .i64 a5)).setCell ⟨w.heap.size + 1, 6, none⟩ (.int .i64 a6)).setCell ⟨w.heap.size + 1, 7, none⟩ (.int .i64 a7)).setCell ⟨w.heap.size + 1, 8, none⟩ (.int .i64 k'))) := Lib.hid (HQk1.out.other9 (by have := hm1.out; have := hm2.out; omega) (.int .i64 a0) (.int .i64 a1) (.int .i64 a2) (.int .i64 a3) (.int .i64 a4) (.int .i64 a5) (.int .i64 a6) (.int .i64 a7) (.int .i64 k'))
  have HMk2 : Hid (CBox (m1) 25 #[.int .i64 a0, .int .i64 a1, .int .i64 a2, .int .i64 a3, .int .i64 a4, .int .i64 a5, .int .i64 a6, .int .i64 a7] (((((((((dk1.setCell ⟨w.heap.size + 1, 0, none⟩ (.int .i64 a0)).setCell ⟨w.heap.size + 1, 1, none⟩ (.int .i64 a1)).setCell ⟨w.heap.size + 1, 2, none⟩ (.int .i64 a2)).setCell ⟨w.heap.size + 1, 3, none⟩ (.int .i64 a3)).setCell ⟨w.heap.size + 1, 4, none⟩ (.int .i64 a4)).setCell ⟨w.heap.size + 1, 5, none⟩ (.int .i64 a5)).setCell ⟨w.heap.size + 1, 6, none⟩ (.int .i64 a6)).setCell ⟨w.heap.size + 1, 7, none⟩ (.int .i64 a7)).setCell ⟨w.heap.size + 1, 8, none⟩ (.int .i64 k'))) := Lib.hid (HMk1.out.other9 (by have := hm1.out; have := hm2.out; omega) (.int .i64 a0) (.int .i64 a1) (.int .i64 a2) (.int .i64 a3) (.int .i64 a4) (.int .i64 a5) (.int .i64 a6) (.int .i64 a7) (.int .i64 k'))
  have HNk2 : Hid (CBox (m2) 25 #[.int .i64 b0, .int .i64 b1, .int .i64 b2, .int .i64 b3, .int .i64 b4, .int .i64 b5, .int .i64 b6, .int .i64 b7] (((((((((dk1.setCell ⟨w.heap.size + 1, 0, none⟩ (.int .i64 a0)).setCell ⟨w.heap.size + 1, 1, none⟩ (.int .i64 a1)).setCell ⟨w.heap.size + 1, 2, none⟩ (.int .i64 a2)).setCell ⟨w.heap.size + 1, 3, none⟩ (.int .i64 a3)).setCell ⟨w.heap.size + 1, 4, none⟩ (.int .i64 a4)).setCell ⟨w.heap.size + 1, 5, none⟩ (.int .i64 a5)).setCell ⟨w.heap.size + 1, 6, none⟩ (.int .i64 a6)).setCell ⟨w.heap.size + 1, 7, none⟩ (.int .i64 a7)).setCell ⟨w.heap.size + 1, 8, none⟩ (.int .i64 k'))) := Lib.hid (HNk1.out.other9 (by have := hm1.out; have := hm2.out; omega) (.int .i64 a0) (.int .i64 a1) (.int .i64 a2) (.int .i64 a3) (.int .i64 a4) (.int .i64 a5) (.int .i64 a6) (.int .i64 a7) (.int .i64 k'))
  clear hs_
  generalize (((((((((dk1.setCell ⟨w.heap.size + 1, 0, none⟩ (.int .i64 a0)).setCell ⟨w.heap.size + 1, 1, none⟩ (.int .i64 a1)).setCell ⟨w.heap.size + 1, 2, none⟩ (.int .i64 a2)).setCell ⟨w.heap.size + 1, 3, none⟩ (.int .i64 a3)).setCell ⟨w.heap.size + 1, 4, none⟩ (.int .i64 a4)).setCell ⟨w.heap.size + 1, 5, none⟩ (.int .i64 a5)).setCell ⟨w.heap.size + 1, 6, none⟩ (.int .i64 a6)).setCell ⟨w.heap.size + 1, 7, none⟩ (.int .i64 a7)).setCell ⟨w.heap.size + 1, 8, none⟩ (.int .i64 k')) = vk2 at *
  have hs_ := brS HKk2.out HMk2.out HNk2.out
  refine hK.out _ _ (by exact hs_) (fun hHeld => ?_)
  clear hK K; (try simp only [Act.put, List.setIfInBounds_toArray, List.set_cons_zero, List.set_cons_succ])
  refine wpAnyH_ready (rs := [11]) (by kernel_rfl) (by simp) ?_
  refine AllReadyH.cons (o := brOp11) rfl (fun K hK => ?_) AllReadyH.nil
  (try unfold brOp11)
  have u0_ : vk2.cell? ⟨w.heap.size + 1 + 1, 0, none⟩ = some (.int .i64 0) := HQk2.out.c 0 rfl
  have r0_ := HQk2.out.z 0
  have u1_ : vk2.cell? ⟨w.heap.size + 1 + 1, 1, none⟩ = some (.int .i64 0) := HQk2.out.c 1 rfl
  have r1_ := HQk2.out.z 1
  have u2_ : vk2.cell? ⟨w.heap.size + 1 + 1, 2, none⟩ = some (.int .i64 0) := HQk2.out.c 2 rfl
  have r2_ := HQk2.out.z 2
  have u3_ : vk2.cell? ⟨w.heap.size + 1 + 1, 3, none⟩ = some (.int .i64 0) := HQk2.out.c 3 rfl
  have r3_ := HQk2.out.z 3
  have u4_ : vk2.cell? ⟨w.heap.size + 1 + 1, 4, none⟩ = some (.int .i64 0) := HQk2.out.c 4 rfl
  have r4_ := HQk2.out.z 4
  have u5_ : vk2.cell? ⟨w.heap.size + 1 + 1, 5, none⟩ = some (.int .i64 0) := HQk2.out.c 5 rfl
  have r5_ := HQk2.out.z 5
  have u6_ : vk2.cell? ⟨w.heap.size + 1 + 1, 6, none⟩ = some (.int .i64 0) := HQk2.out.c 6 rfl
  have r6_ := HQk2.out.z 6
  have u7_ : vk2.cell? ⟨w.heap.size + 1 + 1, 7, none⟩ = some (.int .i64 0) := HQk2.out.c 7 rfl
  have r7_ := HQk2.out.z 7
  have u8_ : vk2.cell? ⟨w.heap.size + 1 + 1, 8, none⟩ = some (.int .i64 0) := HQk2.out.c 8 rfl
  have r8_ := HQk2.out.z 8
  go_simp
  clear u0_ r0_ u1_ r1_ u2_ r2_ u3_ r3_ u4_ r4_ u5_ r5_ u6_ r6_ u7_ r7_ u8_ r8_
  have HJ_ : Hid (Below w.heap.size w (((((((((vk2.setCell ⟨w.heap.size + 1 + 1, 0, none⟩ (.int .i64 b0)).setCell ⟨w.heap.size + 1 + 1, 1, none⟩ (.int .i64 b1)).setCell ⟨w.heap.size + 1 + 1, 2, none⟩ (.int .i64 b2)).setCell ⟨w.heap.size + 1 + 1, 3, none⟩ (.int .i64 b3)).setCell ⟨w.heap.size + 1 + 1, 4, none⟩ (.int .i64 b4)).setCell ⟨w.heap.size + 1 + 1, 5, none⟩ (.int .i64 b5)).setCell ⟨w.heap.size + 1 + 1, 6, none⟩ (.int .i64 b6)).setCell ⟨w.heap.size + 1 + 1, 7, none⟩ (.int .i64 b7)).setCell ⟨w.heap.size + 1 + 1, 8, none⟩ (.int .i64 k'))) := Lib.hid (below_9 HJ_.out (by omega) (.int .i64 b0) (.int .i64 b1) (.int .i64 b2) (.int .i64 b3) (.int .i64 b4) (.int .i64 b5) (.int .i64 b6) (.int .i64 b7) (.int .i64 k'))
  have HBk3 := HJ_
  have HKk3 : Hid (CBox (w.heap.size) 53 #[.int .i64 px, .int .i64 py, .int .i64 qx, .int .i64 qy, .int .i64 rx, .int .i64 ry, .int .i64 sx, .int .i64 sy, .int .i64 k] (((((((((vk2.setCell ⟨w.heap.size + 1 + 1, 0, none⟩ (.int .i64 b0)).setCell ⟨w.heap.size + 1 + 1, 1, none⟩ (.int .i64 b1)).setCell ⟨w.heap.size + 1 + 1, 2, none⟩ (.int .i64 b2)).setCell ⟨w.heap.size + 1 + 1, 3, none⟩ (.int .i64 b3)).setCell ⟨w.heap.size + 1 + 1, 4, none⟩ (.int .i64 b4)).setCell ⟨w.heap.size + 1 + 1, 5, none⟩ (.int .i64 b5)).setCell ⟨w.heap.size + 1 + 1, 6, none⟩ (.int .i64 b6)).setCell ⟨w.heap.size + 1 + 1, 7, none⟩ (.int .i64 b7)).setCell ⟨w.heap.size + 1 + 1, 8, none⟩ (.int .i64 k'))) := Lib.hid (HKk2.out.other9 (by have := hm1.out; have := hm2.out; omega) (.int .i64 b0) (.int .i64 b1) (.int .i64 b2) (.int .i64 b3) (.int .i64 b4) (.int .i64 b5) (.int .i64 b6) (.int .i64 b7) (.int .i64 k'))
  have HPk3 : Hid (CBox (w.heap.size + 1) 53 #[.int .i64 a0, .int .i64 a1, .int .i64 a2, .int .i64 a3, .int .i64 a4, .int .i64 a5, .int .i64 a6, .int .i64 a7, .int .i64 k'] (((((((((vk2.setCell ⟨w.heap.size + 1 + 1, 0, none⟩ (.int .i64 b0)).setCell ⟨w.heap.size + 1 + 1, 1, none⟩ (.int .i64 b1)).setCell ⟨w.heap.size + 1 + 1, 2, none⟩ (.int .i64 b2)).setCell ⟨w.heap.size + 1 + 1, 3, none⟩ (.int .i64 b3)).setCell ⟨w.heap.size + 1 + 1, 4, none⟩ (.int .i64 b4)).setCell ⟨w.heap.size + 1 + 1, 5, none⟩ (.int .i64 b5)).setCell ⟨w.heap.size + 1 + 1, 6, none⟩ (.int .i64 b6)).setCell ⟨w.heap.size + 1 + 1, 7, none⟩ (.int .i64 b7)).setCell ⟨w.heap.size + 1 + 1, 8, none⟩ (.int .i64 k'))) := Lib.hid (HPk2.out.other9 (by have := hm1.out; have := hm2.out; omega) (.int .i64 b0) (.int .i64 b1) (.int .i64 b2) (.int .i64 b3) (.int .i64 b4) (.int .i64 b5) (.int .i64 b6) (.int .i64 b7) (.int .i64 k'))
  have HQk3 : Hid (CBox (w.heap.size + 1 + 1) 53 #[.int .i64 b0, .int .i64 b1, .int .i64 b2, .int .i64 b3, .int .i64 b4, .int .i64 b5, .int .i64 b6, .int .i64 b7, .int .i64 k'] (((((((((vk2.setCell ⟨w.heap.size + 1 + 1, 0, none⟩ (.int .i64 b0)).setCell ⟨w.heap.size + 1 + 1, 1, none⟩ (.int .i64 b1)).setCell ⟨w.heap.size + 1 + 1, 2, none⟩ (.int .i64 b2)).setCell ⟨w.heap.size + 1 + 1, 3, none⟩ (.int .i64 b3)).setCell ⟨w.heap.size + 1 + 1, 4, none⟩ (.int .i64 b4)).setCell ⟨w.heap.size + 1 + 1, 5, none⟩ (.int .i64 b5)).setCell ⟨w.heap.size + 1 + 1, 6, none⟩ (.int .i64 b6)).setCell ⟨w.heap.size + 1 + 1, 7, none⟩ (.int .i64 b7)).setCell ⟨w.heap.size + 1 + 1, 8, none⟩ (.int .i64 k'))) := Lib.hid (HQk2.out.set9 (.int .i64 b0) (.int .i64 b1) (.int .i64 b2) (.int .i64 b3) (.int .i64 b4) (.int .i64 b5) (.int .i64 b6) (.int .i64 b7) (.int .i64 k'))
  have HMk3 : Hid (CBox (m1) 25 #[.int .i64 a0, .int .i64 a1, .int .i64 a2, .int .i64 a3, .int .i64 a4, .int .i64 a5, .int .i64 a6, .int .i64 a7] (((((((((vk2.setCell ⟨w.heap.size + 1 + 1, 0, none⟩ (.int .i64 b0)).setCell ⟨w.heap.size + 1 + 1, 1, none⟩ (.int .i64 b1)).setCell ⟨w.heap.size + 1 + 1, 2, none⟩ (.int .i64 b2)).setCell ⟨w.heap.size + 1 + 1, 3, none⟩ (.int .i64 b3)).setCell ⟨w.heap.size + 1 + 1, 4, none⟩ (.int .i64 b4)).setCell ⟨w.heap.size + 1 + 1, 5, none⟩ (.int .i64 b5)).setCell ⟨w.heap.size + 1 + 1, 6, none⟩ (.int .i64 b6)).setCell ⟨w.heap.size + 1 + 1, 7, none⟩ (.int .i64 b7)).setCell ⟨w.heap.size + 1 + 1, 8, none⟩ (.int .i64 k'))) := Lib.hid (HMk2.out.other9 (by have := hm1.out; have := hm2.out; omega) (.int .i64 b0) (.int .i64 b1) (.int .i64 b2) (.int .i64 b3) (.int .i64 b4) (.int .i64 b5) (.int .i64 b6) (.int .i64 b7) (.int .i64 k'))
  have HNk3 : Hid (CBox (m2) 25 #[.int .i64 b0, .int .i64 b1, .int .i64 b2, .int .i64 b3, .int .i64 b4, .int .i64 b5, .int .i64 b6, .int .i64 b7] (((((((((vk2.setCell ⟨w.heap.size + 1 + 1, 0, none⟩ (.int .i64 b0)).setCell ⟨w.heap.size + 1 + 1, 1, none⟩ (.int .i64 b1)).setCell ⟨w.heap.size + 1 + 1, 2, none⟩ (.int .i64 b2)).setCell ⟨w.heap.size + 1 + 1, 3, none⟩ (.int .i64 b3)).setCell ⟨w.heap.size + 1 + 1, 4, none⟩ (.int .i64 b4)).setCell ⟨w.heap.size + 1 + 1, 5, none⟩ (.int .i64 b5)).setCell ⟨w.heap.size + 1 + 1, 6, none⟩ (.int .i64 b6)).setCell ⟨w.heap.size + 1 + 1, 7, none⟩ (.int .i64 b7)).setCell ⟨w.heap.size + 1 + 1, 8, none⟩ (.int .i64 k'))) := Lib.hid (HNk2.out.other9 (by have := hm1.out; have := hm2.out; omega) (.int .i64 b0) (.int .i64 b1) (.int .i64 b2) (.int .i64 b3) (.int .i64 b4) (.int .i64 b5) (.int .i64 b6) (.int .i64 b7) (.int .i64 k'))
  clear hs_
  generalize (((((((((vk2.setCell ⟨w.heap.size + 1 + 1, 0, none⟩ (.int .i64 b0)).setCell ⟨w.heap.size + 1 + 1, 1, none⟩ (.int .i64 b1)).setCell ⟨w.heap.size + 1 + 1, 2, none⟩ (.int .i64 b2)).setCell ⟨w.heap.size + 1 + 1, 3, none⟩ (.int .i64 b3)).setCell ⟨w.heap.size + 1 + 1, 4, none⟩ (.int .i64 b4)).setCell ⟨w.heap.size + 1 + 1, 5, none⟩ (.int .i64 b5)).setCell ⟨w.heap.size + 1 + 1, 6, none⟩ (.int .i64 b6)).setCell ⟨w.heap.size + 1 + 1, 7, none⟩ (.int .i64 b7)).setCell ⟨w.heap.size + 1 + 1, 8, none⟩ (.int .i64 k')) = vk3 at *
  have hs_ := brS HKk3.out HMk3.out HNk3.out
  refine hK.out _ _ (by exact hs_) (fun hHeld => ?_)
  clear hK K; (try simp only [Act.put, List.setIfInBounds_toArray, List.set_cons_zero, List.set_cons_succ])
  refine wpAnyH_done (by kernel_rfl) ?_ _
  go_wp2_with fail
  exact br2_ret Try.results28 HPk3.out HQk3.out rfl rfl ⟨rfl, HJ_.out⟩
end Go.Proofs.Ytgkjbmejfcijkaa
