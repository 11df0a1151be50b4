/-
  The document's answers of layer 11: Cut. (Typed by a program: wip/gen_ref11c.py.)
-/
import Derived.Test.YtgkjbmejfcijkaaRefCrvP
namespace Go.Proofs.Ytgkjbmejfcijkaa
open Go.RowKit Go.Shelf
def cutOp0 : Oper := { dst := some 34, op := Go.Op.fieldAddr 25 (Go.Operand.tmp 1) 0, type := 0, pos := "ref.go:40", after := #[], guard := none }
def cutOp1 : Oper := { dst := some 35, op := Go.Op.load 23 (Go.Operand.tmp 34), type := 23, pos := "ref.go:40", after := #[{ on := 0, ground := Go.Ground.data }], guard := none }
def cutOp2 : Oper := { dst := some 36, op := Go.Op.load 23 (Go.Operand.tmp 4), type := 23, pos := "ref.go:40", after := #[], guard := none }
def cutOp3 : Oper := { dst := some 37, op := Go.Op.load 23 (Go.Operand.tmp 6), type := 23, pos := "ref.go:40", after := #[], guard := none }
def cutOp4 : Oper := { dst := some 38, op := Go.Op.load 23 (Go.Operand.tmp 9), type := 23, pos := "ref.go:40", after := #[], guard := none }
def cutOp5 : Oper := { dst := some 39, op := Go.Op.build 25 #[(0, Go.Operand.tmp 35), (1, Go.Operand.tmp 36), (2, Go.Operand.tmp 37), (3, Go.Operand.tmp 38)], type := 25, pos := "ref.go:40", after := #[{ on := 1, ground := Go.Ground.data }, { on := 2, ground := Go.Ground.data }, { on := 3, ground := Go.Ground.data }, { on := 4, ground := Go.Ground.data }], guard := none }
def cutOp6 : Oper := { dst := some 40, op := Go.Op.load 23 (Go.Operand.tmp 9), type := 23, pos := "ref.go:40", after := #[{ on := 12, ground := Go.Ground.gcOnly Go.Departure.lateStores }], guard := none }
def cutOp7 : Oper := { dst := some 41, op := Go.Op.load 23 (Go.Operand.tmp 8), type := 23, pos := "ref.go:40", after := #[{ on := 12, ground := Go.Ground.gcOnly Go.Departure.lateStores }], guard := none }
def cutOp8 : Oper := { dst := some 42, op := Go.Op.load 23 (Go.Operand.tmp 7), type := 23, pos := "ref.go:40", after := #[{ on := 12, ground := Go.Ground.gcOnly Go.Departure.lateStores }], guard := none }
def cutOp9 : Oper := { dst := some 43, op := Go.Op.fieldAddr 25 (Go.Operand.tmp 1) 3, type := 0, pos := "ref.go:40", after := #[{ on := 12, ground := Go.Ground.gcOnly Go.Departure.lateStores }], guard := none }
def cutOp10 : Oper := { dst := some 44, op := Go.Op.load 23 (Go.Operand.tmp 43), type := 23, pos := "ref.go:40", after := #[{ on := 9, ground := Go.Ground.data }, { on := 12, ground := Go.Ground.gcOnly Go.Departure.lateStores }], guard := none }
def cutOp11 : Oper := { dst := some 45, op := Go.Op.build 25 #[(0, Go.Operand.tmp 40), (1, Go.Operand.tmp 41), (2, Go.Operand.tmp 42), (3, Go.Operand.tmp 44)], type := 25, pos := "ref.go:40", after := #[{ on := 6, ground := Go.Ground.data }, { on := 7, ground := Go.Ground.data }, { on := 8, ground := Go.Ground.data }, { on := 10, ground := Go.Ground.data }, { on := 12, ground := Go.Ground.gcOnly Go.Departure.lateStores }], guard := none }
def cutOp12 : Oper := { dst := none, op := Go.Op.store 25 (Go.Operand.tmp 2) (Go.Operand.tmp 39), type := 0, pos := "ref.go:40", after := #[{ on := 5, ground := Go.Ground.data }, { on := 0, ground := Go.Ground.phase }, { on := 1, ground := Go.Ground.phase }, { on := 2, ground := Go.Ground.phase }, { on := 3, ground := Go.Ground.phase }, { on := 4, ground := Go.Ground.phase }, { on := 5, ground := Go.Ground.phase }, { on := 6, ground := Go.Ground.textOnly Go.Departure.lateStores }, { on := 7, ground := Go.Ground.textOnly Go.Departure.lateStores }, { on := 8, ground := Go.Ground.textOnly Go.Departure.lateStores }, { on := 9, ground := Go.Ground.textOnly Go.Departure.lateStores }, { on := 10, ground := Go.Ground.textOnly Go.Departure.lateStores }, { on := 11, ground := Go.Ground.textOnly Go.Departure.lateStores }], guard := none }
def cutOp13 : Oper := { dst := none, op := Go.Op.store 25 (Go.Operand.tmp 3) (Go.Operand.tmp 45), type := 0, pos := "ref.go:40", after := #[{ on := 11, ground := Go.Ground.data }, { on := 12, ground := Go.Ground.chain }, { on := 0, ground := Go.Ground.phase }, { on := 1, ground := Go.Ground.phase }, { on := 2, ground := Go.Ground.phase }, { on := 3, ground := Go.Ground.phase }, { on := 4, ground := Go.Ground.phase }, { on := 5, ground := Go.Ground.phase }, { on := 6, ground := Go.Ground.phase }, { on := 7, ground := Go.Ground.phase }, { on := 8, ground := Go.Ground.phase }, { on := 9, ground := Go.Ground.phase }, { on := 10, ground := Go.Ground.phase }, { on := 11, ground := Go.Ground.phase }, { on := 12, ground := Go.Ground.phase }], guard := none }
theorem cutS {W : World} {nC : Nat} {tC : TypeId} {c0 c1 c2 c3 c4 c5 c6 c7 : Value} (hC : CBox nC tC #[c0, c1, c2, c3, c4, c5, c6, c7] W) {nDqa : Nat} {tDqa : TypeId} {dqa0 dqa1 : Value} (hDqa : CBox nDqa tDqa #[dqa0, dqa1] W) {nDqd : Nat} {tDqd : TypeId} {dqd0 dqd1 : Value} (hDqd : CBox nDqd tDqd #[dqd0, dqd1] W) {nDqf : Nat} {tDqf : TypeId} {dqf0 dqf1 : Value} (hDqf : CBox nDqf tDqf #[dqf0, dqf1] W) {nDqe : Nat} {tDqe : TypeId} {dqe0 dqe1 : Value} (hDqe : CBox nDqe tDqe #[dqe0, dqe1] W) {nDqx_ : Nat} {tDqx_ : TypeId} {dqx_0 dqx_1 : Value} (hDqx_ : CBox nDqx_ tDqx_ #[dqx_0, dqx_1] W) : W.cell? ⟨nC, 0, none⟩ = some c0 ∧ W.cell? ⟨nC, 1, none⟩ = some c1 ∧ W.cell? ⟨nC, 6, none⟩ = some c6 ∧ W.cell? ⟨nC, 7, none⟩ = some c7 ∧ W.cell? ⟨nDqa, 0, none⟩ = some dqa0 ∧ W.cell? ⟨nDqa, 1, none⟩ = some dqa1 ∧ W.cell? ⟨nDqd, 0, none⟩ = some dqd0 ∧ W.cell? ⟨nDqd, 1, none⟩ = some dqd1 ∧ W.cell? ⟨nDqf, 0, none⟩ = some dqf0 ∧ W.cell? ⟨nDqf, 1, none⟩ = some dqf1 ∧ W.cell? ⟨nDqe, 0, none⟩ = some dqe0 ∧ W.cell? ⟨nDqe, 1, none⟩ = some dqe1 ∧ W.cell? ⟨nDqx_, 0, none⟩ = some dqx_0 ∧ W.cell? ⟨nDqx_, 1, none⟩ = some dqx_1 := ⟨hC.c 0 rfl, hC.c 1 rfl, hC.c 6 rfl, hC.c 7 rfl, hDqa.c 0 rfl, hDqa.c 1 rfl, hDqd.c 0 rfl, hDqd.c 1 rfl, hDqf.c 0 rfl, hDqf.c 1 rfl, hDqe.c 0 rfl, hDqe.c 1 rfl, hDqx_.c 0 rfl, hDqx_.c 1 rfl⟩
theorem CBox.other8 {n q : Nat} {t : TypeId} {cs : Array Value} {W : World} (h : CBox n t cs W) (hn : n ≠ q) (b0 b1 b2 b3 b4 b5 b6 b7 : Value) : CBox n t cs ((((((((W.setCell ⟨q, 0, none⟩ b0).setCell ⟨q, 1, none⟩ b1).setCell ⟨q, 2, none⟩ b2).setCell ⟨q, 3, none⟩ b3).setCell ⟨q, 4, none⟩ b4).setCell ⟨q, 5, none⟩ b5).setCell ⟨q, 6, none⟩ b6).setCell ⟨q, 7, none⟩ b7) :=
  (((((((h.other hn 0 b0).other hn 1 b1).other hn 2 b2).other hn 3 b3).other hn 4 b4).other hn 5 b5).other hn 6 b6).other hn 7 b7
theorem crv2_ret {f : Func} {k l : Nat} (hres : f.results = #[ResultVar.cell k 25, ResultVar.cell l 25]) {n m : Nat} {w wr : World} {a0 a1 a2 a3 a4 a5 a6 a7 b0 b1 b2 b3 b4 b5 b6 b7 : Value} {ts : Array Value}
    (hp : CBox n 25 #[a0, a1, a2, a3, a4, a5, a6, a7] wr) (hq : CBox m 25 #[b0, b1, b2, b3, b4, b5, b6, b7] wr) (hb : Below w.heap.size w wr) (hts : ts[k]? = some (.pointer (some ⟨n, 0, none⟩))) (htl : ts[l]? = some (.pointer (some ⟨m, 0, none⟩))) :
    bodyPost Try.prog f (fun e w' => e = .returned (.tuple #[.agg #[a0, a1, a2, a3, a4, a5, a6, a7], .agg #[b0, b1, b2, b3, b4, b5, b6, b7]]) ∧ Below w.heap.size w w') .ret { tmps := ts, defers := [] } wr := by
  have c0 : wr.cell? ⟨n, 0, none⟩ = some a0 := hp.c 0 rfl; have c1 : wr.cell? ⟨n, 1, none⟩ = some a1 := hp.c 1 rfl; have c2 : wr.cell? ⟨n, 2, none⟩ = some a2 := hp.c 2 rfl; have c3 : wr.cell? ⟨n, 3, none⟩ = some a3 := hp.c 3 rfl
  have c4 : wr.cell? ⟨n, 4, none⟩ = some a4 := hp.c 4 rfl; have c5 : wr.cell? ⟨n, 5, none⟩ = some a5 := hp.c 5 rfl; have c6 : wr.cell? ⟨n, 6, none⟩ = some a6 := hp.c 6 rfl; have c7 : wr.cell? ⟨n, 7, none⟩ = some a7 := hp.c 7 rfl
  have d0 : wr.cell? ⟨m, 0, none⟩ = some b0 := hq.c 0 rfl; have d1 : wr.cell? ⟨m, 1, none⟩ = some b1 := hq.c 1 rfl; have d2 : wr.cell? ⟨m, 2, none⟩ = some b2 := hq.c 2 rfl; have d3 : wr.cell? ⟨m, 3, none⟩ = some b3 := hq.c 3 rfl
  have d4 : wr.cell? ⟨m, 4, none⟩ = some b4 := hq.c 4 rfl; have d5 : wr.cell? ⟨m, 5, none⟩ = some b5 := hq.c 5 rfl; have d6 : wr.cell? ⟨m, 6, none⟩ = some b6 := hq.c 6 rfl; have d7 : wr.cell? ⟨m, 7, none⟩ = some b7 := hq.c 7 rfl
  exact bodyPost_ret (v := .tuple #[.agg #[a0, a1, a2, a3, a4, a5, a6, a7], .agg #[b0, b1, b2, b3, b4, b5, b6, b7]]) (by simp [results, hres, go_sem, c0, c1, c2, c3, c4, c5, c6, c7, d0, d1, d2, d3, d4, d5, d6, d7, hts, htl]) rfl ⟨rfl, hb⟩

set_option maxHeartbeats 8000000 in
set_option maxRecDepth 100000 in
theorem rcut11 (c : Crv) (w : World) (hc : c.right) : Calls Try.prog 22 #[c.val] w fun e w' => e = .returned (.tuple #[c.cutA.val, c.cutB.val]) ∧ Below w.heap.size w w' := by
  obtain ⟨px, py, qx, qy, rx, ry, sx, sy⟩ := c
  unfold Crv.right at hc
  dsimp only at hc
  obtain ⟨⟨kpx, kpy⟩, ⟨kqx, kqy⟩, ⟨krx, kry⟩, ksx, ksy⟩ := hc
  unfold Crv.cutA Crv.cutB m4 m3 Crv.val Crv.arr
  dsimp only
  have Ma := Lib.hid (fun w => rmid11 px py qx qy w kpx kpy kqx kqy)
  have kax := mid40 kpx kqx
  generalize mid px qx = ax at *
  have kay := mid40 kpy kqy
  generalize mid py qy = ay at *
  have Mb := Lib.hid (fun w => rmid11 qx qy rx ry w kqx kqy krx kry)
  have kbx := mid40 kqx krx
  generalize mid qx rx = bx at *
  have kby1 := mid40 kqy kry
  generalize mid qy ry = by1 at *
  have Md := Lib.hid (fun w => rmid11 ax ay bx by1 w kax kay kbx kby1)
  have kdx := mid40 kax kbx
  generalize mid ax bx = dx at *
  have kdy := mid40 kay kby1
  generalize mid ay by1 = dy at *
  have Mx := Lib.hid (fun w => rmid11 rx ry sx sy w krx kry ksx ksy)
  have kxx := mid40 krx ksx
  generalize mid rx sx = xx at *
  have kxy := mid40 kry ksy
  generalize mid ry sy = xy at *
  have Me := Lib.hid (fun w => rmid11 bx by1 xx xy w kbx kby1 kxx kxy)
  have kex := mid40 kbx kxx
  generalize mid bx xx = ex at *
  have key := mid40 kby1 kxy
  generalize mid by1 xy = ey at *
  have Mf := Lib.hid (fun w => rmid11 dx dy ex ey w kdx kdy kex key)
  have kfx := mid40 kdx kex
  generalize mid dx ex = fx at *
  have kfy := mid40 kdy key
  generalize mid dy ey = fy at *
  clear kpx kpy kqx kqy krx kry ksx ksy kax kay kbx kby1 kdx kdy kxx kxy kex key kfx kfy
  obtain ⟨k1, k2, k3, k4⟩ := boxes_three w #[.int .i64 px, .int .i64 py, .int .i64 qx, .int .i64 qy, .int .i64 rx, .int .i64 ry, .int .i64 sx, .int .i64 sy] #[.int .i64 0, .int .i64 0, .int .i64 0, .int .i64 0, .int .i64 0, .int .i64 0, .int .i64 0, .int .i64 0] #[.int .i64 0, .int .i64 0, .int .i64 0, .int .i64 0, .int .i64 0, .int .i64 0, .int .i64 0, .int .i64 0] 25 25 25
  have HC0 := Lib.hid k1; have HY0 := Lib.hid k2; have HZ0 := Lib.hid k3; have HB0 := Lib.hid k4
  clear k1 k2 k3 k4
  go_enter Try.func22, Try.ntmps22
  go_upto_region 1 with fail
  generalize (((w.alloc (.cells #[.int .i64 px, .int .i64 py, .int .i64 qx, .int .i64 qy, .int .i64 rx, .int .i64 ry, .int .i64 sx, .int .i64 sy] 25)).alloc (.cells #[.int .i64 0, .int .i64 0, .int .i64 0, .int .i64 0, .int .i64 0, .int .i64 0, .int .i64 0, .int .i64 0] 25)).alloc (.cells #[.int .i64 0, .int .i64 0, .int .i64 0, .int .i64 0, .int .i64 0, .int .i64 0, .int .i64 0, .int .i64 0] 25)) = w1 at *
  have xC0 : w1.cell? ⟨w.heap.size, 0, none⟩ = some (.int .i64 px) := HC0.out.c 0 rfl
  have xC1 : w1.cell? ⟨w.heap.size, 1, none⟩ = some (.int .i64 py) := HC0.out.c 1 rfl
  have xC2 : w1.cell? ⟨w.heap.size, 2, none⟩ = some (.int .i64 qx) := HC0.out.c 2 rfl
  have xC3 : w1.cell? ⟨w.heap.size, 3, none⟩ = some (.int .i64 qy) := HC0.out.c 3 rfl
  go_wp2_with fail
  refine (Ma.out _).mono ?_
  rintro e u1 ⟨rfl, b1a⟩
  clear xC0 xC1 xC2 xC3
  have HB1a := Lib.hid (HB0.out.trans (b1a.mono HB0.out.size))
  have HC1a := Lib.hid (HC0.out.next b1a)
  have HY1a := Lib.hid (HY0.out.next b1a)
  have HZ1a := Lib.hid (HZ0.out.next b1a)
  clear b1a
  have bD := (Below.refl u1.heap.size u1).alloc (Nat.le_refl _) (.cells #[.int .i64 ax, .int .i64 ay] 23)
  have HB1b := Lib.hid (HB1a.out.trans (bD.mono HB1a.out.size))
  have HC1b := Lib.hid (HC1a.out.next bD)
  have HY1b := Lib.hid (HY1a.out.next bD)
  have HZ1b := Lib.hid (HZ1a.out.next bD)
  have HDqa1b := Lib.hid (CBox.new u1 23 #[.int .i64 ax, .int .i64 ay])
  clear bD
  have gqa : w.heap.size + 1 + 1 < u1.heap.size := HZ1a.out.lt
  go_upto_region 2 with fail
  generalize u1.alloc (.cells #[.int .i64 ax, .int .i64 ay] 23) = v1_ at *
  generalize u1.heap.size = qa at *
  have xC2 : v1_.cell? ⟨w.heap.size, 2, none⟩ = some (.int .i64 qx) := HC1b.out.c 2 rfl
  have xC3 : v1_.cell? ⟨w.heap.size, 3, none⟩ = some (.int .i64 qy) := HC1b.out.c 3 rfl
  have xC4 : v1_.cell? ⟨w.heap.size, 4, none⟩ = some (.int .i64 rx) := HC1b.out.c 4 rfl
  have xC5 : v1_.cell? ⟨w.heap.size, 5, none⟩ = some (.int .i64 ry) := HC1b.out.c 5 rfl
  go_wp2_with fail
  refine (Mb.out _).mono ?_
  rintro e u2 ⟨rfl, b2a⟩
  clear xC2 xC3 xC4 xC5
  have HB2a := Lib.hid (HB1b.out.trans (b2a.mono HB1b.out.size))
  have HC2a := Lib.hid (HC1b.out.next b2a)
  have HY2a := Lib.hid (HY1b.out.next b2a)
  have HZ2a := Lib.hid (HZ1b.out.next b2a)
  have HDqa2a := Lib.hid (HDqa1b.out.next b2a)
  clear b2a
  have bD := (Below.refl u2.heap.size u2).alloc (Nat.le_refl _) (.cells #[.int .i64 bx, .int .i64 by1] 23)
  have HB2b := Lib.hid (HB2a.out.trans (bD.mono HB2a.out.size))
  have HC2b := Lib.hid (HC2a.out.next bD)
  have HY2b := Lib.hid (HY2a.out.next bD)
  have HZ2b := Lib.hid (HZ2a.out.next bD)
  have HDqa2b := Lib.hid (HDqa2a.out.next bD)
  have HDqb2b := Lib.hid (CBox.new u2 23 #[.int .i64 bx, .int .i64 by1])
  clear bD
  have gqb : w.heap.size + 1 + 1 < u2.heap.size := HZ2a.out.lt
  go_upto_region 3 with fail
  generalize u2.alloc (.cells #[.int .i64 bx, .int .i64 by1] 23) = v2_ at *
  generalize u2.heap.size = qb at *
  have xDqa0 : v2_.cell? ⟨qa, 0, none⟩ = some (.int .i64 ax) := HDqa2b.out.c 0 rfl
  have xDqa1 : v2_.cell? ⟨qa, 1, none⟩ = some (.int .i64 ay) := HDqa2b.out.c 1 rfl
  have xDqb0 : v2_.cell? ⟨qb, 0, none⟩ = some (.int .i64 bx) := HDqb2b.out.c 0 rfl
  have xDqb1 : v2_.cell? ⟨qb, 1, none⟩ = some (.int .i64 by1) := HDqb2b.out.c 1 rfl
  go_wp2_with fail
  refine (Md.out _).mono ?_
  rintro e u3 ⟨rfl, b3a⟩
  clear xDqa0 xDqa1 xDqb0 xDqb1
  have HB3a := Lib.hid (HB2b.out.trans (b3a.mono HB2b.out.size))
  have HC3a := Lib.hid (HC2b.out.next b3a)
  have HY3a := Lib.hid (HY2b.out.next b3a)
  have HZ3a := Lib.hid (HZ2b.out.next b3a)
  have HDqa3a := Lib.hid (HDqa2b.out.next b3a)
  have HDqb3a := Lib.hid (HDqb2b.out.next b3a)
  clear b3a
  have bD := (Below.refl u3.heap.size u3).alloc (Nat.le_refl _) (.cells #[.int .i64 dx, .int .i64 dy] 23)
  have HB3b := Lib.hid (HB3a.out.trans (bD.mono HB3a.out.size))
  have HC3b := Lib.hid (HC3a.out.next bD)
  have HY3b := Lib.hid (HY3a.out.next bD)
  have HZ3b := Lib.hid (HZ3a.out.next bD)
  have HDqa3b := Lib.hid (HDqa3a.out.next bD)
  have HDqb3b := Lib.hid (HDqb3a.out.next bD)
  have HDqd3b := Lib.hid (CBox.new u3 23 #[.int .i64 dx, .int .i64 dy])
  clear bD
  have gqd : w.heap.size + 1 + 1 < u3.heap.size := HZ3a.out.lt
  go_upto_region 4 with fail
  generalize u3.alloc (.cells #[.int .i64 dx, .int .i64 dy] 23) = v3_ at *
  generalize u3.heap.size = qd at *
  have xC4 : v3_.cell? ⟨w.heap.size, 4, none⟩ = some (.int .i64 rx) := HC3b.out.c 4 rfl
  have xC5 : v3_.cell? ⟨w.heap.size, 5, none⟩ = some (.int .i64 ry) := HC3b.out.c 5 rfl
  have xC6 : v3_.cell? ⟨w.heap.size, 6, none⟩ = some (.int .i64 sx) := HC3b.out.c 6 rfl
  have xC7 : v3_.cell? ⟨w.heap.size, 7, none⟩ = some (.int .i64 sy) := HC3b.out.c 7 rfl
  go_wp2_with fail
  refine (Mx.out _).mono ?_
  rintro e u4 ⟨rfl, b4a⟩
  clear xC4 xC5 xC6 xC7
  have HB4a := Lib.hid (HB3b.out.trans (b4a.mono HB3b.out.size))
  have HC4a := Lib.hid (HC3b.out.next b4a)
  have HY4a := Lib.hid (HY3b.out.next b4a)
  have HZ4a := Lib.hid (HZ3b.out.next b4a)
  have HDqa4a := Lib.hid (HDqa3b.out.next b4a)
  have HDqb4a := Lib.hid (HDqb3b.out.next b4a)
  have HDqd4a := Lib.hid (HDqd3b.out.next b4a)
  clear b4a
  have bD := (Below.refl u4.heap.size u4).alloc (Nat.le_refl _) (.cells #[.int .i64 xx, .int .i64 xy] 23)
  have HB4b := Lib.hid (HB4a.out.trans (bD.mono HB4a.out.size))
  have HC4b := Lib.hid (HC4a.out.next bD)
  have HY4b := Lib.hid (HY4a.out.next bD)
  have HZ4b := Lib.hid (HZ4a.out.next bD)
  have HDqa4b := Lib.hid (HDqa4a.out.next bD)
  have HDqb4b := Lib.hid (HDqb4a.out.next bD)
  have HDqd4b := Lib.hid (HDqd4a.out.next bD)
  have HDqx_4b := Lib.hid (CBox.new u4 23 #[.int .i64 xx, .int .i64 xy])
  clear bD
  have gqx_ : w.heap.size + 1 + 1 < u4.heap.size := HZ4a.out.lt
  go_upto_region 5 with fail
  generalize u4.alloc (.cells #[.int .i64 xx, .int .i64 xy] 23) = v4_ at *
  generalize u4.heap.size = qx_ at *
  have xDqb0 : v4_.cell? ⟨qb, 0, none⟩ = some (.int .i64 bx) := HDqb4b.out.c 0 rfl
  have xDqb1 : v4_.cell? ⟨qb, 1, none⟩ = some (.int .i64 by1) := HDqb4b.out.c 1 rfl
  have xDqx_0 : v4_.cell? ⟨qx_, 0, none⟩ = some (.int .i64 xx) := HDqx_4b.out.c 0 rfl
  have xDqx_1 : v4_.cell? ⟨qx_, 1, none⟩ = some (.int .i64 xy) := HDqx_4b.out.c 1 rfl
  go_wp2_with fail
  refine (Me.out _).mono ?_
  rintro e u5 ⟨rfl, b5a⟩
  clear xDqb0 xDqb1 xDqx_0 xDqx_1
  have HB5a := Lib.hid (HB4b.out.trans (b5a.mono HB4b.out.size))
  have HC5a := Lib.hid (HC4b.out.next b5a)
  have HY5a := Lib.hid (HY4b.out.next b5a)
  have HZ5a := Lib.hid (HZ4b.out.next b5a)
  have HDqa5a := Lib.hid (HDqa4b.out.next b5a)
  have HDqb5a := Lib.hid (HDqb4b.out.next b5a)
  have HDqd5a := Lib.hid (HDqd4b.out.next b5a)
  have HDqx_5a := Lib.hid (HDqx_4b.out.next b5a)
  clear b5a
  have bD := (Below.refl u5.heap.size u5).alloc (Nat.le_refl _) (.cells #[.int .i64 ex, .int .i64 ey] 23)
  have HB5b := Lib.hid (HB5a.out.trans (bD.mono HB5a.out.size))
  have HC5b := Lib.hid (HC5a.out.next bD)
  have HY5b := Lib.hid (HY5a.out.next bD)
  have HZ5b := Lib.hid (HZ5a.out.next bD)
  have HDqa5b := Lib.hid (HDqa5a.out.next bD)
  have HDqb5b := Lib.hid (HDqb5a.out.next bD)
  have HDqd5b := Lib.hid (HDqd5a.out.next bD)
  have HDqx_5b := Lib.hid (HDqx_5a.out.next bD)
  have HDqe5b := Lib.hid (CBox.new u5 23 #[.int .i64 ex, .int .i64 ey])
  clear bD
  have gqe : w.heap.size + 1 + 1 < u5.heap.size := HZ5a.out.lt
  go_upto_region 6 with fail
  generalize u5.alloc (.cells #[.int .i64 ex, .int .i64 ey] 23) = v5_ at *
  generalize u5.heap.size = qe at *
  have xDqd0 : v5_.cell? ⟨qd, 0, none⟩ = some (.int .i64 dx) := HDqd5b.out.c 0 rfl
  have xDqd1 : v5_.cell? ⟨qd, 1, none⟩ = some (.int .i64 dy) := HDqd5b.out.c 1 rfl
  have xDqe0 : v5_.cell? ⟨qe, 0, none⟩ = some (.int .i64 ex) := HDqe5b.out.c 0 rfl
  have xDqe1 : v5_.cell? ⟨qe, 1, none⟩ = some (.int .i64 ey) := HDqe5b.out.c 1 rfl
  go_wp2_with fail
  refine (Mf.out _).mono ?_
  rintro e u6 ⟨rfl, b6a⟩
  clear xDqd0 xDqd1 xDqe0 xDqe1
  have HB6a := Lib.hid (HB5b.out.trans (b6a.mono HB5b.out.size))
  have HC6a := Lib.hid (HC5b.out.next b6a)
  have HY6a := Lib.hid (HY5b.out.next b6a)
  have HZ6a := Lib.hid (HZ5b.out.next b6a)
  have HDqa6a := Lib.hid (HDqa5b.out.next b6a)
  have HDqb6a := Lib.hid (HDqb5b.out.next b6a)
  have HDqd6a := Lib.hid (HDqd5b.out.next b6a)
  have HDqx_6a := Lib.hid (HDqx_5b.out.next b6a)
  have HDqe6a := Lib.hid (HDqe5b.out.next b6a)
  clear b6a
  have bD := (Below.refl u6.heap.size u6).alloc (Nat.le_refl _) (.cells #[.int .i64 fx, .int .i64 fy] 23)
  have HB6b := Lib.hid (HB6a.out.trans (bD.mono HB6a.out.size))
  have HC6b := Lib.hid (HC6a.out.next bD)
  have HY6b := Lib.hid (HY6a.out.next bD)
  have HZ6b := Lib.hid (HZ6a.out.next bD)
  have HDqa6b := Lib.hid (HDqa6a.out.next bD)
  have HDqb6b := Lib.hid (HDqb6a.out.next bD)
  have HDqd6b := Lib.hid (HDqd6a.out.next bD)
  have HDqx_6b := Lib.hid (HDqx_6a.out.next bD)
  have HDqe6b := Lib.hid (HDqe6a.out.next bD)
  have HDqf6b := Lib.hid (CBox.new u6 23 #[.int .i64 fx, .int .i64 fy])
  clear bD
  have gqf : w.heap.size + 1 + 1 < u6.heap.size := HZ6a.out.lt
  go_upto_region 7 with fail
  generalize u6.alloc (.cells #[.int .i64 fx, .int .i64 fy] 23) = v6_ at *
  generalize u6.heap.size = qf at *
  have hs_ := cutS HC6b.out HDqa6b.out HDqd6b.out HDqf6b.out HDqe6b.out HDqx_6b.out
  refine wp_region_held_drew (S := (fun w' => w'.cell? ⟨w.heap.size, 0, none⟩ = some (.int .i64 px) ∧ w'.cell? ⟨w.heap.size, 1, none⟩ = some (.int .i64 py) ∧ w'.cell? ⟨w.heap.size, 6, none⟩ = some (.int .i64 sx) ∧ w'.cell? ⟨w.heap.size, 7, none⟩ = some (.int .i64 sy) ∧ w'.cell? ⟨qa, 0, none⟩ = some (.int .i64 ax) ∧ w'.cell? ⟨qa, 1, none⟩ = some (.int .i64 ay) ∧ w'.cell? ⟨qd, 0, none⟩ = some (.int .i64 dx) ∧ w'.cell? ⟨qd, 1, none⟩ = some (.int .i64 dy) ∧ w'.cell? ⟨qf, 0, none⟩ = some (.int .i64 fx) ∧ w'.cell? ⟨qf, 1, none⟩ = some (.int .i64 fy) ∧ w'.cell? ⟨qe, 0, none⟩ = some (.int .i64 ex) ∧ w'.cell? ⟨qe, 1, none⟩ = some (.int .i64 ey) ∧ w'.cell? ⟨qx_, 0, none⟩ = some (.int .i64 xx) ∧ w'.cell? ⟨qx_, 1, none⟩ = some (.int .i64 xy))) (by kernel_rfl) ?_ (fun hHeld => ?_)
  · (try dsimp only); first | exact hs_ | (simp [go_sem, *]; done)
  clear hs_
  have HBk1 : Hid (Below v6_.heap.size v6_ v6_.drew) := Lib.hid (Below.refl v6_.heap.size v6_).drew
  have HCk1 : Hid (CBox (w.heap.size) 25 #[.int .i64 px, .int .i64 py, .int .i64 qx, .int .i64 qy, .int .i64 rx, .int .i64 ry, .int .i64 sx, .int .i64 sy] v6_.drew) := Lib.hid HC6b.out
  have HYk1 : Hid (CBox (w.heap.size + 1) 25 #[.int .i64 0, .int .i64 0, .int .i64 0, .int .i64 0, .int .i64 0, .int .i64 0, .int .i64 0, .int .i64 0] v6_.drew) := Lib.hid HY6b.out
  have HZk1 : Hid (CBox (w.heap.size + 1 + 1) 25 #[.int .i64 0, .int .i64 0, .int .i64 0, .int .i64 0, .int .i64 0, .int .i64 0, .int .i64 0, .int .i64 0] v6_.drew) := Lib.hid HZ6b.out
  have HDqak1 : Hid (CBox (qa) 23 #[.int .i64 ax, .int .i64 ay] v6_.drew) := Lib.hid HDqa6b.out
  have HDqdk1 : Hid (CBox (qd) 23 #[.int .i64 dx, .int .i64 dy] v6_.drew) := Lib.hid HDqd6b.out
  have HDqfk1 : Hid (CBox (qf) 23 #[.int .i64 fx, .int .i64 fy] v6_.drew) := Lib.hid HDqf6b.out
  have HDqek1 : Hid (CBox (qe) 23 #[.int .i64 ex, .int .i64 ey] v6_.drew) := Lib.hid HDqe6b.out
  have HDqx_k1 : Hid (CBox (qx_) 23 #[.int .i64 xx, .int .i64 xy] v6_.drew) := Lib.hid HDqx_6b.out
  have HJ_ : Hid (Below w.heap.size w v6_.drew) := Lib.hid HB6b.out.drew
  generalize v6_.drew = dk1 at *
  have hs_ := cutS HCk1.out HDqak1.out HDqdk1.out HDqfk1.out HDqek1.out HDqx_k1.out
  refine wpAnyH_take (i := 0) (oi := cutOp0) (v := ?_) rfl (by kernel_rfl) (by kernel_rfl) (by kernel_rfl) (fun _ _ _ h => h) (Or.inl ⟨by rfl, ?_⟩) (by assumption) ?_
  rotate_left
  · ((try unfold cutOp0); intro w hSw; (try dsimp only at hSw); go_simp; (first | done | with_reducible rfl))
  (try unfold cutOp0)
  (try simp only [Act.put, List.setIfInBounds_toArray, List.set_cons_zero, List.set_cons_succ])
  refine wpAnyH_take (i := 1) (oi := cutOp1) (v := ?_) rfl (by kernel_rfl) (by kernel_rfl) (by kernel_rfl) (fun _ _ _ h => h) (Or.inl ⟨by rfl, ?_⟩) (by assumption) ?_
  rotate_left
  · ((try unfold cutOp1); intro w hSw; (try dsimp only at hSw); go_simp; (first | done | with_reducible rfl))
  (try unfold cutOp1)
  (try simp only [Act.put, List.setIfInBounds_toArray, List.set_cons_zero, List.set_cons_succ])
  refine wpAnyH_take (i := 2) (oi := cutOp2) (v := ?_) rfl (by kernel_rfl) (by kernel_rfl) (by kernel_rfl) (fun _ _ _ h => h) (Or.inl ⟨by rfl, ?_⟩) (by assumption) ?_
  rotate_left
  · ((try unfold cutOp2); intro w hSw; (try dsimp only at hSw); go_simp; (first | done | with_reducible rfl))
  (try unfold cutOp2)
  (try simp only [Act.put, List.setIfInBounds_toArray, List.set_cons_zero, List.set_cons_succ])
  refine wpAnyH_take (i := 3) (oi := cutOp3) (v := ?_) rfl (by kernel_rfl) (by kernel_rfl) (by kernel_rfl) (fun _ _ _ h => h) (Or.inl ⟨by rfl, ?_⟩) (by assumption) ?_
  rotate_left
  · ((try unfold cutOp3); intro w hSw; (try dsimp only at hSw); go_simp; (first | done | with_reducible rfl))
  (try unfold cutOp3)
  (try simp only [Act.put, List.setIfInBounds_toArray, List.set_cons_zero, List.set_cons_succ])
  refine wpAnyH_take (i := 4) (oi := cutOp4) (v := ?_) rfl (by kernel_rfl) (by kernel_rfl) (by kernel_rfl) (fun _ _ _ h => h) (Or.inl ⟨by rfl, ?_⟩) (by assumption) ?_
  rotate_left
  · ((try unfold cutOp4); intro w hSw; (try dsimp only at hSw); go_simp; (first | done | with_reducible rfl))
  (try unfold cutOp4)
  (try simp only [Act.put, List.setIfInBounds_toArray, List.set_cons_zero, List.set_cons_succ])
  refine wpAnyH_take (i := 5) (oi := cutOp5) (v := ?_) rfl (by kernel_rfl) (by kernel_rfl) (by kernel_rfl) (fun _ _ _ h => h) (Or.inl ⟨by rfl, ?_⟩) (by assumption) ?_
  rotate_left
  · ((try unfold cutOp5); intro w hSw; (try dsimp only at hSw); go_simp; (first | done | with_reducible rfl))
  (try unfold cutOp5)
  (try simp only [Act.put, List.setIfInBounds_toArray, List.set_cons_zero, List.set_cons_succ])
  refine wpAnyH_take (i := 6) (oi := cutOp6) (v := ?_) rfl (by kernel_rfl) (by kernel_rfl) (by kernel_rfl) (fun _ _ _ h => h) (Or.inl ⟨by rfl, ?_⟩) (by assumption) ?_
  rotate_left
  · ((try unfold cutOp6); intro w hSw; (try dsimp only at hSw); go_simp; (first | done | with_reducible rfl))
  (try unfold cutOp6)
  (try simp only [Act.put, List.setIfInBounds_toArray, List.set_cons_zero, List.set_cons_succ])
  refine wpAnyH_take (i := 7) (oi := cutOp7) (v := ?_) rfl (by kernel_rfl) (by kernel_rfl) (by kernel_rfl) (fun _ _ _ h => h) (Or.inl ⟨by rfl, ?_⟩) (by assumption) ?_
  rotate_left
  · ((try unfold cutOp7); intro w hSw; (try dsimp only at hSw); go_simp; (first | done | with_reducible rfl))
  (try unfold cutOp7)
  (try simp only [Act.put, List.setIfInBounds_toArray, List.set_cons_zero, List.set_cons_succ])
  refine wpAnyH_take (i := 8) (oi := cutOp8) (v := ?_) rfl (by kernel_rfl) (by kernel_rfl) (by kernel_rfl) (fun _ _ _ h => h) (Or.inl ⟨by rfl, ?_⟩) (by assumption) ?_
  rotate_left
  · ((try unfold cutOp8); intro w hSw; (try dsimp only at hSw); go_simp; (first | done | with_reducible rfl))
  (try unfold cutOp8)
  (try simp only [Act.put, List.setIfInBounds_toArray, List.set_cons_zero, List.set_cons_succ])
  refine wpAnyH_take (i := 9) (oi := cutOp9) (v := ?_) rfl (by kernel_rfl) (by kernel_rfl) (by kernel_rfl) (fun _ _ _ h => h) (Or.inl ⟨by rfl, ?_⟩) (by assumption) ?_
  rotate_left
  · ((try unfold cutOp9); intro w hSw; (try dsimp only at hSw); go_simp; (first | done | with_reducible rfl))
  (try unfold cutOp9)
  (try simp only [Act.put, List.setIfInBounds_toArray, List.set_cons_zero, List.set_cons_succ])
  refine wpAnyH_take (i := 10) (oi := cutOp10) (v := ?_) rfl (by kernel_rfl) (by kernel_rfl) (by kernel_rfl) (fun _ _ _ h => h) (Or.inl ⟨by rfl, ?_⟩) (by assumption) ?_
  rotate_left
  · ((try unfold cutOp10); intro w hSw; (try dsimp only at hSw); go_simp; (first | done | with_reducible rfl))
  (try unfold cutOp10)
  (try simp only [Act.put, List.setIfInBounds_toArray, List.set_cons_zero, List.set_cons_succ])
  refine wpAnyH_take (i := 11) (oi := cutOp11) (v := ?_) rfl (by kernel_rfl) (by kernel_rfl) (by kernel_rfl) (fun _ _ _ h => h) (Or.inl ⟨by rfl, ?_⟩) (by assumption) ?_
  rotate_left
  · ((try unfold cutOp11); intro w hSw; (try dsimp only at hSw); go_simp; (first | done | with_reducible rfl))
  (try unfold cutOp11)
  (try simp only [Act.put, List.setIfInBounds_toArray, List.set_cons_zero, List.set_cons_succ])
  refine wpAnyH_ready (rs := [12]) (by kernel_rfl) (by simp) ?_
  refine AllReadyH.cons (o := cutOp12) rfl (fun K hK => ?_) AllReadyH.nil
  (try unfold cutOp12)
  have u0_ : dk1.cell? ⟨w.heap.size + 1, 0, none⟩ = some (.int .i64 0) := HYk1.out.c 0 rfl
  have r0_ := HYk1.out.z 0
  have u1_ : dk1.cell? ⟨w.heap.size + 1, 1, none⟩ = some (.int .i64 0) := HYk1.out.c 1 rfl
  have r1_ := HYk1.out.z 1
  have u2_ : dk1.cell? ⟨w.heap.size + 1, 2, none⟩ = some (.int .i64 0) := HYk1.out.c 2 rfl
  have r2_ := HYk1.out.z 2
  have u3_ : dk1.cell? ⟨w.heap.size + 1, 3, none⟩ = some (.int .i64 0) := HYk1.out.c 3 rfl
  have r3_ := HYk1.out.z 3
  have u4_ : dk1.cell? ⟨w.heap.size + 1, 4, none⟩ = some (.int .i64 0) := HYk1.out.c 4 rfl
  have r4_ := HYk1.out.z 4
  have u5_ : dk1.cell? ⟨w.heap.size + 1, 5, none⟩ = some (.int .i64 0) := HYk1.out.c 5 rfl
  have r5_ := HYk1.out.z 5
  have u6_ : dk1.cell? ⟨w.heap.size + 1, 6, none⟩ = some (.int .i64 0) := HYk1.out.c 6 rfl
  have r6_ := HYk1.out.z 6
  have u7_ : dk1.cell? ⟨w.heap.size + 1, 7, none⟩ = some (.int .i64 0) := HYk1.out.c 7 rfl
  have r7_ := HYk1.out.z 7
  go_simp
  clear u0_ r0_ u1_ r1_ u2_ r2_ u3_ r3_ u4_ r4_ u5_ r5_ u6_ r6_ u7_ r7_
  have HJ_ : Hid (Below w.heap.size w ((((((((dk1.setCell ⟨w.heap.size + 1, 0, none⟩ (.int .i64 px)).setCell ⟨w.heap.size + 1, 1, none⟩ (.int .i64 py)).setCell ⟨w.heap.size + 1, 2, none⟩ (.int .i64 ax)).setCell ⟨w.heap.size + 1, 3, none⟩ (.int .i64 ay)).setCell ⟨w.heap.size + 1, 4, none⟩ (.int .i64 dx)).setCell ⟨w.heap.size + 1, 5, none⟩ (.int .i64 dy)).setCell ⟨w.heap.size + 1, 6, none⟩ (.int .i64 fx)).setCell ⟨w.heap.size + 1, 7, none⟩ (.int .i64 fy))) := Lib.hid (below_8 HJ_.out (by omega) (.int .i64 px) (.int .i64 py) (.int .i64 ax) (.int .i64 ay) (.int .i64 dx) (.int .i64 dy) (.int .i64 fx) (.int .i64 fy))
  have HBk2 := HJ_
  have HCk2 : Hid (CBox (w.heap.size) 25 #[.int .i64 px, .int .i64 py, .int .i64 qx, .int .i64 qy, .int .i64 rx, .int .i64 ry, .int .i64 sx, .int .i64 sy] ((((((((dk1.setCell ⟨w.heap.size + 1, 0, none⟩ (.int .i64 px)).setCell ⟨w.heap.size + 1, 1, none⟩ (.int .i64 py)).setCell ⟨w.heap.size + 1, 2, none⟩ (.int .i64 ax)).setCell ⟨w.heap.size + 1, 3, none⟩ (.int .i64 ay)).setCell ⟨w.heap.size + 1, 4, none⟩ (.int .i64 dx)).setCell ⟨w.heap.size + 1, 5, none⟩ (.int .i64 dy)).setCell ⟨w.heap.size + 1, 6, none⟩ (.int .i64 fx)).setCell ⟨w.heap.size + 1, 7, none⟩ (.int .i64 fy))) := Lib.hid (HCk1.out.other8 (by omega) (.int .i64 px) (.int .i64 py) (.int .i64 ax) (.int .i64 ay) (.int .i64 dx) (.int .i64 dy) (.int .i64 fx) (.int .i64 fy))
  have HYk2 : Hid (CBox (w.heap.size + 1) 25 #[.int .i64 px, .int .i64 py, .int .i64 ax, .int .i64 ay, .int .i64 dx, .int .i64 dy, .int .i64 fx, .int .i64 fy] ((((((((dk1.setCell ⟨w.heap.size + 1, 0, none⟩ (.int .i64 px)).setCell ⟨w.heap.size + 1, 1, none⟩ (.int .i64 py)).setCell ⟨w.heap.size + 1, 2, none⟩ (.int .i64 ax)).setCell ⟨w.heap.size + 1, 3, none⟩ (.int .i64 ay)).setCell ⟨w.heap.size + 1, 4, none⟩ (.int .i64 dx)).setCell ⟨w.heap.size + 1, 5, none⟩ (.int .i64 dy)).setCell ⟨w.heap.size + 1, 6, none⟩ (.int .i64 fx)).setCell ⟨w.heap.size + 1, 7, none⟩ (.int .i64 fy))) := Lib.hid (HYk1.out.set8 (.int .i64 px) (.int .i64 py) (.int .i64 ax) (.int .i64 ay) (.int .i64 dx) (.int .i64 dy) (.int .i64 fx) (.int .i64 fy))
  have HZk2 : Hid (CBox (w.heap.size + 1 + 1) 25 #[.int .i64 0, .int .i64 0, .int .i64 0, .int .i64 0, .int .i64 0, .int .i64 0, .int .i64 0, .int .i64 0] ((((((((dk1.setCell ⟨w.heap.size + 1, 0, none⟩ (.int .i64 px)).setCell ⟨w.heap.size + 1, 1, none⟩ (.int .i64 py)).setCell ⟨w.heap.size + 1, 2, none⟩ (.int .i64 ax)).setCell ⟨w.heap.size + 1, 3, none⟩ (.int .i64 ay)).setCell ⟨w.heap.size + 1, 4, none⟩ (.int .i64 dx)).setCell ⟨w.heap.size + 1, 5, none⟩ (.int .i64 dy)).setCell ⟨w.heap.size + 1, 6, none⟩ (.int .i64 fx)).setCell ⟨w.heap.size + 1, 7, none⟩ (.int .i64 fy))) := Lib.hid (HZk1.out.other8 (by omega) (.int .i64 px) (.int .i64 py) (.int .i64 ax) (.int .i64 ay) (.int .i64 dx) (.int .i64 dy) (.int .i64 fx) (.int .i64 fy))
  have HDqak2 : Hid (CBox (qa) 23 #[.int .i64 ax, .int .i64 ay] ((((((((dk1.setCell ⟨w.heap.size + 1, 0, none⟩ (.int .i64 px)).setCell ⟨w.heap.size + 1, 1, none⟩ (.int .i64 py)).setCell ⟨w.heap.size + 1, 2, none⟩ (.int .i64 ax)).setCell ⟨w.heap.size + 1, 3, none⟩ (.int .i64 ay)).setCell ⟨w.heap.size + 1, 4, none⟩ (.int .i64 dx)).setCell ⟨w.heap.size + 1, 5, none⟩ (.int .i64 dy)).setCell ⟨w.heap.size + 1, 6, none⟩ (.int .i64 fx)).setCell ⟨w.heap.size + 1, 7, none⟩ (.int .i64 fy))) := Lib.hid (HDqak1.out.other8 (by omega) (.int .i64 px) (.int .i64 py) (.int .i64 ax) (.int .i64 ay) (.int .i64 dx) (.int .i64 dy) (.int .i64 fx) (.int .i64 fy))
  have HDqdk2 : Hid (CBox (qd) 23 #[.int .i64 dx, .int .i64 dy] ((((((((dk1.setCell ⟨w.heap.size + 1, 0, none⟩ (.int .i64 px)).setCell ⟨w.heap.size + 1, 1, none⟩ (.int .i64 py)).setCell ⟨w.heap.size + 1, 2, none⟩ (.int .i64 ax)).setCell ⟨w.heap.size + 1, 3, none⟩ (.int .i64 ay)).setCell ⟨w.heap.size + 1, 4, none⟩ (.int .i64 dx)).setCell ⟨w.heap.size + 1, 5, none⟩ (.int .i64 dy)).setCell ⟨w.heap.size + 1, 6, none⟩ (.int .i64 fx)).setCell ⟨w.heap.size + 1, 7, none⟩ (.int .i64 fy))) := Lib.hid (HDqdk1.out.other8 (by omega) (.int .i64 px) (.int .i64 py) (.int .i64 ax) (.int .i64 ay) (.int .i64 dx) (.int .i64 dy) (.int .i64 fx) (.int .i64 fy))
  have HDqfk2 : Hid (CBox (qf) 23 #[.int .i64 fx, .int .i64 fy] ((((((((dk1.setCell ⟨w.heap.size + 1, 0, none⟩ (.int .i64 px)).setCell ⟨w.heap.size + 1, 1, none⟩ (.int .i64 py)).setCell ⟨w.heap.size + 1, 2, none⟩ (.int .i64 ax)).setCell ⟨w.heap.size + 1, 3, none⟩ (.int .i64 ay)).setCell ⟨w.heap.size + 1, 4, none⟩ (.int .i64 dx)).setCell ⟨w.heap.size + 1, 5, none⟩ (.int .i64 dy)).setCell ⟨w.heap.size + 1, 6, none⟩ (.int .i64 fx)).setCell ⟨w.heap.size + 1, 7, none⟩ (.int .i64 fy))) := Lib.hid (HDqfk1.out.other8 (by omega) (.int .i64 px) (.int .i64 py) (.int .i64 ax) (.int .i64 ay) (.int .i64 dx) (.int .i64 dy) (.int .i64 fx) (.int .i64 fy))
  have HDqek2 : Hid (CBox (qe) 23 #[.int .i64 ex, .int .i64 ey] ((((((((dk1.setCell ⟨w.heap.size + 1, 0, none⟩ (.int .i64 px)).setCell ⟨w.heap.size + 1, 1, none⟩ (.int .i64 py)).setCell ⟨w.heap.size + 1, 2, none⟩ (.int .i64 ax)).setCell ⟨w.heap.size + 1, 3, none⟩ (.int .i64 ay)).setCell ⟨w.heap.size + 1, 4, none⟩ (.int .i64 dx)).setCell ⟨w.heap.size + 1, 5, none⟩ (.int .i64 dy)).setCell ⟨w.heap.size + 1, 6, none⟩ (.int .i64 fx)).setCell ⟨w.heap.size + 1, 7, none⟩ (.int .i64 fy))) := Lib.hid (HDqek1.out.other8 (by omega) (.int .i64 px) (.int .i64 py) (.int .i64 ax) (.int .i64 ay) (.int .i64 dx) (.int .i64 dy) (.int .i64 fx) (.int .i64 fy))
  have HDqx_k2 : Hid (CBox (qx_) 23 #[.int .i64 xx, .int .i64 xy] ((((((((dk1.setCell ⟨w.heap.size + 1, 0, none⟩ (.int .i64 px)).setCell ⟨w.heap.size + 1, 1, none⟩ (.int .i64 py)).setCell ⟨w.heap.size + 1, 2, none⟩ (.int .i64 ax)).setCell ⟨w.heap.size + 1, 3, none⟩ (.int .i64 ay)).setCell ⟨w.heap.size + 1, 4, none⟩ (.int .i64 dx)).setCell ⟨w.heap.size + 1, 5, none⟩ (.int .i64 dy)).setCell ⟨w.heap.size + 1, 6, none⟩ (.int .i64 fx)).setCell ⟨w.heap.size + 1, 7, none⟩ (.int .i64 fy))) := Lib.hid (HDqx_k1.out.other8 (by omega) (.int .i64 px) (.int .i64 py) (.int .i64 ax) (.int .i64 ay) (.int .i64 dx) (.int .i64 dy) (.int .i64 fx) (.int .i64 fy))
  clear hs_
  generalize ((((((((dk1.setCell ⟨w.heap.size + 1, 0, none⟩ (.int .i64 px)).setCell ⟨w.heap.size + 1, 1, none⟩ (.int .i64 py)).setCell ⟨w.heap.size + 1, 2, none⟩ (.int .i64 ax)).setCell ⟨w.heap.size + 1, 3, none⟩ (.int .i64 ay)).setCell ⟨w.heap.size + 1, 4, none⟩ (.int .i64 dx)).setCell ⟨w.heap.size + 1, 5, none⟩ (.int .i64 dy)).setCell ⟨w.heap.size + 1, 6, none⟩ (.int .i64 fx)).setCell ⟨w.heap.size + 1, 7, none⟩ (.int .i64 fy)) = vk2 at *
  have hs_ := cutS HCk2.out HDqak2.out HDqdk2.out HDqfk2.out HDqek2.out HDqx_k2.out
  refine hK.out _ _ (by exact hs_) (fun hHeld => ?_)
  clear hK K; (try simp only [Act.put, List.setIfInBounds_toArray, List.set_cons_zero, List.set_cons_succ])
  refine wpAnyH_ready (rs := [13]) (by kernel_rfl) (by simp) ?_
  refine AllReadyH.cons (o := cutOp13) rfl (fun K hK => ?_) AllReadyH.nil
  (try unfold cutOp13)
  have u0_ : vk2.cell? ⟨w.heap.size + 1 + 1, 0, none⟩ = some (.int .i64 0) := HZk2.out.c 0 rfl
  have r0_ := HZk2.out.z 0
  have u1_ : vk2.cell? ⟨w.heap.size + 1 + 1, 1, none⟩ = some (.int .i64 0) := HZk2.out.c 1 rfl
  have r1_ := HZk2.out.z 1
  have u2_ : vk2.cell? ⟨w.heap.size + 1 + 1, 2, none⟩ = some (.int .i64 0) := HZk2.out.c 2 rfl
  have r2_ := HZk2.out.z 2
  have u3_ : vk2.cell? ⟨w.heap.size + 1 + 1, 3, none⟩ = some (.int .i64 0) := HZk2.out.c 3 rfl
  have r3_ := HZk2.out.z 3
  have u4_ : vk2.cell? ⟨w.heap.size + 1 + 1, 4, none⟩ = some (.int .i64 0) := HZk2.out.c 4 rfl
  have r4_ := HZk2.out.z 4
  have u5_ : vk2.cell? ⟨w.heap.size + 1 + 1, 5, none⟩ = some (.int .i64 0) := HZk2.out.c 5 rfl
  have r5_ := HZk2.out.z 5
  have u6_ : vk2.cell? ⟨w.heap.size + 1 + 1, 6, none⟩ = some (.int .i64 0) := HZk2.out.c 6 rfl
  have r6_ := HZk2.out.z 6
  have u7_ : vk2.cell? ⟨w.heap.size + 1 + 1, 7, none⟩ = some (.int .i64 0) := HZk2.out.c 7 rfl
  have r7_ := HZk2.out.z 7
  go_simp
  clear u0_ r0_ u1_ r1_ u2_ r2_ u3_ r3_ u4_ r4_ u5_ r5_ u6_ r6_ u7_ r7_
  have HJ_ : Hid (Below w.heap.size w ((((((((vk2.setCell ⟨w.heap.size + 1 + 1, 0, none⟩ (.int .i64 fx)).setCell ⟨w.heap.size + 1 + 1, 1, none⟩ (.int .i64 fy)).setCell ⟨w.heap.size + 1 + 1, 2, none⟩ (.int .i64 ex)).setCell ⟨w.heap.size + 1 + 1, 3, none⟩ (.int .i64 ey)).setCell ⟨w.heap.size + 1 + 1, 4, none⟩ (.int .i64 xx)).setCell ⟨w.heap.size + 1 + 1, 5, none⟩ (.int .i64 xy)).setCell ⟨w.heap.size + 1 + 1, 6, none⟩ (.int .i64 sx)).setCell ⟨w.heap.size + 1 + 1, 7, none⟩ (.int .i64 sy))) := Lib.hid (below_8 HJ_.out (by omega) (.int .i64 fx) (.int .i64 fy) (.int .i64 ex) (.int .i64 ey) (.int .i64 xx) (.int .i64 xy) (.int .i64 sx) (.int .i64 sy))
  have HBk3 := HJ_
  have HCk3 : Hid (CBox (w.heap.size) 25 #[.int .i64 px, .int .i64 py, .int .i64 qx, .int .i64 qy, .int .i64 rx, .int .i64 ry, .int .i64 sx, .int .i64 sy] ((((((((vk2.setCell ⟨w.heap.size + 1 + 1, 0, none⟩ (.int .i64 fx)).setCell ⟨w.heap.size + 1 + 1, 1, none⟩ (.int .i64 fy)).setCell ⟨w.heap.size + 1 + 1, 2, none⟩ (.int .i64 ex)).setCell ⟨w.heap.size + 1 + 1, 3, none⟩ (.int .i64 ey)).setCell ⟨w.heap.size + 1 + 1, 4, none⟩ (.int .i64 xx)).setCell ⟨w.heap.size + 1 + 1, 5, none⟩ (.int .i64 xy)).setCell ⟨w.heap.size + 1 + 1, 6, none⟩ (.int .i64 sx)).setCell ⟨w.heap.size + 1 + 1, 7, none⟩ (.int .i64 sy))) := Lib.hid (HCk2.out.other8 (by omega) (.int .i64 fx) (.int .i64 fy) (.int .i64 ex) (.int .i64 ey) (.int .i64 xx) (.int .i64 xy) (.int .i64 sx) (.int .i64 sy))
  have HYk3 : Hid (CBox (w.heap.size + 1) 25 #[.int .i64 px, .int .i64 py, .int .i64 ax, .int .i64 ay, .int .i64 dx, .int .i64 dy, .int .i64 fx, .int .i64 fy] ((((((((vk2.setCell ⟨w.heap.size + 1 + 1, 0, none⟩ (.int .i64 fx)).setCell ⟨w.heap.size + 1 + 1, 1, none⟩ (.int .i64 fy)).setCell ⟨w.heap.size + 1 + 1, 2, none⟩ (.int .i64 ex)).setCell ⟨w.heap.size + 1 + 1, 3, none⟩ (.int .i64 ey)).setCell ⟨w.heap.size + 1 + 1, 4, none⟩ (.int .i64 xx)).setCell ⟨w.heap.size + 1 + 1, 5, none⟩ (.int .i64 xy)).setCell ⟨w.heap.size + 1 + 1, 6, none⟩ (.int .i64 sx)).setCell ⟨w.heap.size + 1 + 1, 7, none⟩ (.int .i64 sy))) := Lib.hid (HYk2.out.other8 (by omega) (.int .i64 fx) (.int .i64 fy) (.int .i64 ex) (.int .i64 ey) (.int .i64 xx) (.int .i64 xy) (.int .i64 sx) (.int .i64 sy))
  have HZk3 : Hid (CBox (w.heap.size + 1 + 1) 25 #[.int .i64 fx, .int .i64 fy, .int .i64 ex, .int .i64 ey, .int .i64 xx, .int .i64 xy, .int .i64 sx, .int .i64 sy] ((((((((vk2.setCell ⟨w.heap.size + 1 + 1, 0, none⟩ (.int .i64 fx)).setCell ⟨w.heap.size + 1 + 1, 1, none⟩ (.int .i64 fy)).setCell ⟨w.heap.size + 1 + 1, 2, none⟩ (.int .i64 ex)).setCell ⟨w.heap.size + 1 + 1, 3, none⟩ (.int .i64 ey)).setCell ⟨w.heap.size + 1 + 1, 4, none⟩ (.int .i64 xx)).setCell ⟨w.heap.size + 1 + 1, 5, none⟩ (.int .i64 xy)).setCell ⟨w.heap.size + 1 + 1, 6, none⟩ (.int .i64 sx)).setCell ⟨w.heap.size + 1 + 1, 7, none⟩ (.int .i64 sy))) := Lib.hid (HZk2.out.set8 (.int .i64 fx) (.int .i64 fy) (.int .i64 ex) (.int .i64 ey) (.int .i64 xx) (.int .i64 xy) (.int .i64 sx) (.int .i64 sy))
  have HDqak3 : Hid (CBox (qa) 23 #[.int .i64 ax, .int .i64 ay] ((((((((vk2.setCell ⟨w.heap.size + 1 + 1, 0, none⟩ (.int .i64 fx)).setCell ⟨w.heap.size + 1 + 1, 1, none⟩ (.int .i64 fy)).setCell ⟨w.heap.size + 1 + 1, 2, none⟩ (.int .i64 ex)).setCell ⟨w.heap.size + 1 + 1, 3, none⟩ (.int .i64 ey)).setCell ⟨w.heap.size + 1 + 1, 4, none⟩ (.int .i64 xx)).setCell ⟨w.heap.size + 1 + 1, 5, none⟩ (.int .i64 xy)).setCell ⟨w.heap.size + 1 + 1, 6, none⟩ (.int .i64 sx)).setCell ⟨w.heap.size + 1 + 1, 7, none⟩ (.int .i64 sy))) := Lib.hid (HDqak2.out.other8 (by omega) (.int .i64 fx) (.int .i64 fy) (.int .i64 ex) (.int .i64 ey) (.int .i64 xx) (.int .i64 xy) (.int .i64 sx) (.int .i64 sy))
  have HDqdk3 : Hid (CBox (qd) 23 #[.int .i64 dx, .int .i64 dy] ((((((((vk2.setCell ⟨w.heap.size + 1 + 1, 0, none⟩ (.int .i64 fx)).setCell ⟨w.heap.size + 1 + 1, 1, none⟩ (.int .i64 fy)).setCell ⟨w.heap.size + 1 + 1, 2, none⟩ (.int .i64 ex)).setCell ⟨w.heap.size + 1 + 1, 3, none⟩ (.int .i64 ey)).setCell ⟨w.heap.size + 1 + 1, 4, none⟩ (.int .i64 xx)).setCell ⟨w.heap.size + 1 + 1, 5, none⟩ (.int .i64 xy)).setCell ⟨w.heap.size + 1 + 1, 6, none⟩ (.int .i64 sx)).setCell ⟨w.heap.size + 1 + 1, 7, none⟩ (.int .i64 sy))) := Lib.hid (HDqdk2.out.other8 (by omega) (.int .i64 fx) (.int .i64 fy) (.int .i64 ex) (.int .i64 ey) (.int .i64 xx) (.int .i64 xy) (.int .i64 sx) (.int .i64 sy))
  have HDqfk3 : Hid (CBox (qf) 23 #[.int .i64 fx, .int .i64 fy] ((((((((vk2.setCell ⟨w.heap.size + 1 + 1, 0, none⟩ (.int .i64 fx)).setCell ⟨w.heap.size + 1 + 1, 1, none⟩ (.int .i64 fy)).setCell ⟨w.heap.size + 1 + 1, 2, none⟩ (.int .i64 ex)).setCell ⟨w.heap.size + 1 + 1, 3, none⟩ (.int .i64 ey)).setCell ⟨w.heap.size + 1 + 1, 4, none⟩ (.int .i64 xx)).setCell ⟨w.heap.size + 1 + 1, 5, none⟩ (.int .i64 xy)).setCell ⟨w.heap.size + 1 + 1, 6, none⟩ (.int .i64 sx)).setCell ⟨w.heap.size + 1 + 1, 7, none⟩ (.int .i64 sy))) := Lib.hid (HDqfk2.out.other8 (by omega) (.int .i64 fx) (.int .i64 fy) (.int .i64 ex) (.int .i64 ey) (.int .i64 xx) (.int .i64 xy) (.int .i64 sx) (.int .i64 sy))
  have HDqek3 : Hid (CBox (qe) 23 #[.int .i64 ex, .int .i64 ey] ((((((((vk2.setCell ⟨w.heap.size + 1 + 1, 0, none⟩ (.int .i64 fx)).setCell ⟨w.heap.size + 1 + 1, 1, none⟩ (.int .i64 fy)).setCell ⟨w.heap.size + 1 + 1, 2, none⟩ (.int .i64 ex)).setCell ⟨w.heap.size + 1 + 1, 3, none⟩ (.int .i64 ey)).setCell ⟨w.heap.size + 1 + 1, 4, none⟩ (.int .i64 xx)).setCell ⟨w.heap.size + 1 + 1, 5, none⟩ (.int .i64 xy)).setCell ⟨w.heap.size + 1 + 1, 6, none⟩ (.int .i64 sx)).setCell ⟨w.heap.size + 1 + 1, 7, none⟩ (.int .i64 sy))) := Lib.hid (HDqek2.out.other8 (by omega) (.int .i64 fx) (.int .i64 fy) (.int .i64 ex) (.int .i64 ey) (.int .i64 xx) (.int .i64 xy) (.int .i64 sx) (.int .i64 sy))
  have HDqx_k3 : Hid (CBox (qx_) 23 #[.int .i64 xx, .int .i64 xy] ((((((((vk2.setCell ⟨w.heap.size + 1 + 1, 0, none⟩ (.int .i64 fx)).setCell ⟨w.heap.size + 1 + 1, 1, none⟩ (.int .i64 fy)).setCell ⟨w.heap.size + 1 + 1, 2, none⟩ (.int .i64 ex)).setCell ⟨w.heap.size + 1 + 1, 3, none⟩ (.int .i64 ey)).setCell ⟨w.heap.size + 1 + 1, 4, none⟩ (.int .i64 xx)).setCell ⟨w.heap.size + 1 + 1, 5, none⟩ (.int .i64 xy)).setCell ⟨w.heap.size + 1 + 1, 6, none⟩ (.int .i64 sx)).setCell ⟨w.heap.size + 1 + 1, 7, none⟩ (.int .i64 sy))) := Lib.hid (HDqx_k2.out.other8 (by omega) (.int .i64 fx) (.int .i64 fy) (.int .i64 ex) (.int .i64 ey) (.int .i64 xx) (.int .i64 xy) (.int .i64 sx) (.int .i64 sy))
  clear hs_
  generalize ((((((((vk2.setCell ⟨w.heap.size + 1 + 1, 0, none⟩ (.int .i64 fx)).setCell ⟨w.heap.size + 1 + 1, 1, none⟩ (.int .i64 fy)).setCell ⟨w.heap.size + 1 + 1, 2, none⟩ (.int .i64 ex)).setCell ⟨w.heap.size + 1 + 1, 3, none⟩ (.int .i64 ey)).setCell ⟨w.heap.size + 1 + 1, 4, none⟩ (.int .i64 xx)).setCell ⟨w.heap.size + 1 + 1, 5, none⟩ (.int .i64 xy)).setCell ⟨w.heap.size + 1 + 1, 6, none⟩ (.int .i64 sx)).setCell ⟨w.heap.size + 1 + 1, 7, none⟩ (.int .i64 sy)) = vk3 at *
  have hs_ := cutS HCk3.out HDqak3.out HDqdk3.out HDqfk3.out HDqek3.out HDqx_k3.out
  refine hK.out _ _ (by exact hs_) (fun hHeld => ?_)
  clear hK K; (try simp only [Act.put, List.setIfInBounds_toArray, List.set_cons_zero, List.set_cons_succ])
  refine wpAnyH_done (by kernel_rfl) ?_ _
  go_wp2_with fail
  exact crv2_ret Try.results22 HYk3.out HZk3.out HJ_.out rfl rfl
end Go.Proofs.Ytgkjbmejfcijkaa
