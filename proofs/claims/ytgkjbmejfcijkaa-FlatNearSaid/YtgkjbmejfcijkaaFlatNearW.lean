/-
  FlatNear, whatever tells the pieces, and counts them. (Typed by a program: wip/gen_nearw12.py.)
-/
import Derived.Test.YtgkjbmejfcijkaaFlatJoinsW
import Derived.Test.YtgkjbmejfcijkaaNear12
import Derived.Test.YtgkjbmejfcijkaaRefCrvA
import Derived.Test.YtgkjbmejfcijkaaRegRound
namespace Go.Proofs.Ytgkjbmejfcijkaa
open Go.RowKit Go.Shelf
attribute [local go_sem] Oper.semAt_some

theorem inB_mono33 {c : Crv} (h : c.inB 33554432) : c.inB 8589934592 := by unfold Crv.inB at *; omega
/-- The round's number, so that nothing is reckoned of it. -/
def nx12 (t : Nat) : Int := (t : Int)
theorem cap16 (k : Nat) (hk : k < 16) : capT (4096 * (k : Int)) = 4096 * (k : Int) := by unfold capT; (repeat' split) <;> omega
def fnrOp0 : Oper := { dst := some 54, op := Go.Op.fieldAddr 25 (Go.Operand.tmp 7) 0, type := 0, pos := "law.go:116", after := #[], guard := none }
def fnrOp1 : Oper := { dst := some 55, op := Go.Op.load 23 (Go.Operand.tmp 54), type := 23, pos := "law.go:116", after := #[{ on := 0, ground := Go.Ground.data }], guard := none }
def fnrOp2 : Oper := { dst := some 56, op := Go.Op.fieldAddr 25 (Go.Operand.tmp 7) 3, type := 0, pos := "law.go:116", after := #[], guard := none }
def fnrOp3 : Oper := { dst := some 57, op := Go.Op.load 23 (Go.Operand.tmp 56), type := 23, pos := "law.go:116", after := #[{ on := 2, ground := Go.Ground.data }], guard := none }
def fnrOp4 : Oper := { dst := some 58, op := Go.Op.load 25 (Go.Operand.tmp 7), type := 25, pos := "law.go:116", after := #[], guard := none }
def fnrOp5 : Oper := { dst := some 59, op := Go.Op.move (Go.Operand.tmp 8), type := 2, pos := "law.go:116", after := #[], guard := none }
def fnrOp6 : Oper := { dst := some 60, op := Go.Op.binOp Go.BinOp.shl 2 (Go.Operand.tmp 59) (Go.Operand.const (Go.Value.int Go.IntKind.u64 12)) 46, type := 2, pos := "law.go:116", after := #[{ on := 5, ground := Go.Ground.data }], guard := none }
def fnrOp7 : Oper := { dst := some 61, op := Go.Op.call { callee := Go.Callee.value (Go.Operand.func 20), args := #[Go.Operand.tmp 58, Go.Operand.tmp 60], argTypes := #[25, 2] }, type := 23, pos := "law.go:116", after := #[{ on := 4, ground := Go.Ground.data }, { on := 6, ground := Go.Ground.data }], guard := none }
def fnrOp8 : Oper := { dst := some 62, op := Go.Op.call { callee := Go.Callee.value (Go.Operand.func 19), args := #[Go.Operand.tmp 55, Go.Operand.tmp 57, Go.Operand.tmp 61], argTypes := #[23, 23, 23] }, type := 4, pos := "law.go:116", after := #[{ on := 1, ground := Go.Ground.data }, { on := 3, ground := Go.Ground.data }, { on := 7, ground := Go.Ground.data }, { on := 7, ground := Go.Ground.chain }], guard := none }
def fnrOp9 : Oper := { dst := some 63, op := Go.Op.unOp Go.UnOp.not 4 (Go.Operand.tmp 62), type := 4, pos := "law.go:116", after := #[{ on := 8, ground := Go.Ground.data }], guard := none }
theorem fnrS {W : World} {nE : Nat} {tE : TypeId} {e0 e1 e2 e3 e4 e5 e6 e7 : Value} (hE : CBox nE tE #[e0, e1, e2, e3, e4, e5, e6, e7] W) : W.cell? ⟨nE, 0, none⟩ = some e0 ∧ W.cell? ⟨nE, 1, none⟩ = some e1 ∧ W.cell? ⟨nE, 2, none⟩ = some e2 ∧ W.cell? ⟨nE, 3, none⟩ = some e3 ∧ W.cell? ⟨nE, 4, none⟩ = some e4 ∧ W.cell? ⟨nE, 5, none⟩ = some e5 ∧ W.cell? ⟨nE, 6, none⟩ = some e6 ∧ W.cell? ⟨nE, 7, none⟩ = some e7 := ⟨hE.c 0 rfl, hE.c 1 rfl, hE.c 2 rfl, hE.c 3 rfl, hE.c 4 rfl, hE.c 5 rfl, hE.c 6 rfl, hE.c 7 rfl⟩
set_option maxHeartbeats 8000000 in
set_option maxRecDepth 100000 in
theorem flatnear_walk (PI : PiecesOk) (CO : CountOk) (c : Crv) (w : World) : Calls Try.prog 6 #[c.val] w fun e w' => e = .returned (.bool true) ∧ Below w.heap.size w w' := by
  refine (callsIn_wide (n := 6)).1 ?_
  have K := Lib.hid (fun w => wakes12 PI CO w)
  have PI0 := Lib.hid PI
  obtain ⟨px, py, qx, qy, rx, ry, sx, sy⟩ := c
  unfold Crv.val Crv.arr at *
  dsimp only at *
  obtain ⟨k1, k2, k3⟩ := boxes_two w #[.int .i64 px, .int .i64 py, .int .i64 qx, .int .i64 qy, .int .i64 rx, .int .i64 ry, .int .i64 sx, .int .i64 sy] #[.bool false] 25 4
  have HC0 := Lib.hid k1; have HZ0 := Lib.hid k2; have HB0 := Lib.hid k3
  clear k1 k2 k3
  refine callsIn_of_wp_marks Try.func6 rfl trivial ?_ rfl
  simp only [Try.ntmps6, List.size_toArray, List.length_cons, List.length_nil, Nat.reduceAdd, Nat.reduceSub, Array.replicate_succ, Array.replicate_zero, List.push_toArray, List.append_toArray, List.nil_append, List.cons_append]
  refine wpIn_wide.2 ?_
  go_upto_region 1 with fail
  generalize ((w.alloc (.cells #[.int .i64 px, .int .i64 py, .int .i64 qx, .int .i64 qy, .int .i64 rx, .int .i64 ry, .int .i64 sx, .int .i64 sy] 25)).alloc (.cells #[.bool false] 4)) = w1 at *
  go_wp2_with fail
  refine (K.out _).mono ?_
  rintro e w2 ⟨rfl, b1⟩
  have HZ1 := Lib.hid (HZ0.out.next b1)
  have HB1 := Lib.hid (HB0.out.trans (b1.mono HB0.out.size))
  have HC1 := Lib.hid (HC0.out.next b1)
  clear b1
  go_upto_region 3 with fail
  have xC0 : w2.cell? ⟨w.heap.size, 0, none⟩ = some (.int .i64 px) := HC1.out.c 0 rfl
  have xC1 : w2.cell? ⟨w.heap.size, 1, none⟩ = some (.int .i64 py) := HC1.out.c 1 rfl
  have xC2 : w2.cell? ⟨w.heap.size, 2, none⟩ = some (.int .i64 qx) := HC1.out.c 2 rfl
  have xC3 : w2.cell? ⟨w.heap.size, 3, none⟩ = some (.int .i64 qy) := HC1.out.c 3 rfl
  have xC4 : w2.cell? ⟨w.heap.size, 4, none⟩ = some (.int .i64 rx) := HC1.out.c 4 rfl
  have xC5 : w2.cell? ⟨w.heap.size, 5, none⟩ = some (.int .i64 ry) := HC1.out.c 5 rfl
  have xC6 : w2.cell? ⟨w.heap.size, 6, none⟩ = some (.int .i64 sx) := HC1.out.c 6 rfl
  have xC7 : w2.cell? ⟨w.heap.size, 7, none⟩ = some (.int .i64 sy) := HC1.out.c 7 rfl
  have k1 := CBox.new w2 23 #[.int .i64 px, .int .i64 py, .int .i64 qx, .int .i64 qy, .int .i64 rx, .int .i64 ry, .int .i64 sx, .int .i64 sy]
  have k2 := (Below.refl w2.heap.size w2).alloc (Nat.le_refl _) (.cells #[.int .i64 px, .int .i64 py, .int .i64 qx, .int .i64 qy, .int .i64 rx, .int .i64 ry, .int .i64 sx, .int .i64 sy] 23)
  have HY := Lib.hid k1; have HB := Lib.hid (HB1.out.trans (k2.mono HB1.out.size)); have HC := Lib.hid (HC1.out.next k2); have HZ := Lib.hid (HZ1.out.next k2)
  clear k1 k2
  go_wp2_with fail
  generalize w2.alloc (.cells #[.int .i64 px, .int .i64 py, .int .i64 qx, .int .i64 qy, .int .i64 rx, .int .i64 ry, .int .i64 sx, .int .i64 sy] 23) = w3 at *
  generalize w2.heap.size = y at *
  clear xC0 xC1 xC2 xC3 xC4 xC5 xC6 xC7
  clear HC0 HZ0 HB0 HC1 HZ1 HB1 K
  go_loopw [21] (fun iv wr => (Below w.heap.size w wr ∧ CBox w.heap.size 25 #[.int .i64 px, .int .i64 py, .int .i64 qx, .int .i64 qy, .int .i64 rx, .int .i64 ry, .int .i64 sx, .int .i64 sy] wr ∧ CBox (w.heap.size + 1) 4 #[.bool false] wr ∧ CBox y 23 #[.int .i64 px, .int .i64 py, .int .i64 qx, .int .i64 qy, .int .i64 rx, .int .i64 ry, .int .i64 sx, .int .i64 sy] wr) ∧ ((iv = .int .i64 0 ∧ Hid (True)) ∨ (iv = .int .i64 1 ∧ Hid (PtB 33554432 px py)) ∨ (iv = .int .i64 2 ∧ Hid (PtB 33554432 px py ∧ PtB 33554432 qx qy)) ∨ (iv = .int .i64 3 ∧ Hid (PtB 33554432 px py ∧ PtB 33554432 qx qy ∧ PtB 33554432 rx ry)) ∨ (iv = .int .i64 4 ∧ Hid (PtB 33554432 px py ∧ PtB 33554432 qx qy ∧ PtB 33554432 rx ry ∧ PtB 33554432 sx sy)))) (fun iv _ => (4 - intOf iv).toNat)
  case atStart => exact ⟨⟨HB.out, HC.out, HZ.out, HY.out⟩, Or.inl ⟨rfl, Lib.hid trivial⟩⟩
  case round =>
    obtain ⟨⟨hb, hc, hz, hy⟩, hrel⟩ := hrel
    have HBr := Lib.hid hb; have HCr := Lib.hid hc; have HZr := Lib.hid hz; have HYr := Lib.hid hy
    clear hb hc hz hy HB HC HZ HY
    rcases hrel with ⟨rfl, hin⟩ | ⟨rfl, hin⟩ | ⟨rfl, hin⟩ | ⟨rfl, hin⟩ | ⟨rfl, hin⟩
    ·
      have z0 : wr.cell? ⟨y, 0, none⟩ = some (.int .i64 px) := HYr.out.c 0 rfl; have z1 : wr.cell? ⟨y, 1, none⟩ = some (.int .i64 py) := HYr.out.c 1 rfl
      have r0 : wr.cell? ⟨w.heap.size + 1, 0, none⟩ = some (.bool false) := HZr.out.c 0 rfl; have q0 := HZr.out.z 0
      have ha := (Below.refl wr.heap.size wr).alloc (Nat.le_refl _) (.cells #[.int .i64 px, .int .i64 py] 23)
      have HBa := Lib.hid (HBr.out.trans (ha.mono HBr.out.size)); have HZa := Lib.hid (HZr.out.next ha); have HCa := Lib.hid (HCr.out.next ha); have HYa := Lib.hid (HYr.out.next ha)
      clear ha
      by_cases t0 : px < -33554432
      ·
        have rz : (wr.alloc (.cells #[.int .i64 px, .int .i64 py] 23)).cell? ⟨w.heap.size + 1, 0, none⟩ = some (.bool false) := HZa.out.c 0 rfl; have qz := HZa.out.z 0
        go_wp2_with fail
        exact boxM_ret Try.results6 (HZa.out.set 0 (.bool true) (show (0 : Nat) < 1 by decide)) (Below.setCell HBa.out (by exact Nat.le_succ _) _) rfl rfl
      by_cases t1 : 33554432 < px
      ·
        have rz : (wr.alloc (.cells #[.int .i64 px, .int .i64 py] 23)).cell? ⟨w.heap.size + 1, 0, none⟩ = some (.bool false) := HZa.out.c 0 rfl; have qz := HZa.out.z 0
        go_wp2_with fail
        exact boxM_ret Try.results6 (HZa.out.set 0 (.bool true) (show (0 : Nat) < 1 by decide)) (Below.setCell HBa.out (by exact Nat.le_succ _) _) rfl rfl
      by_cases t2 : py < -33554432
      ·
        have rz : (wr.alloc (.cells #[.int .i64 px, .int .i64 py] 23)).cell? ⟨w.heap.size + 1, 0, none⟩ = some (.bool false) := HZa.out.c 0 rfl; have qz := HZa.out.z 0
        go_wp2_with fail
        exact boxM_ret Try.results6 (HZa.out.set 0 (.bool true) (show (0 : Nat) < 1 by decide)) (Below.setCell HBa.out (by exact Nat.le_succ _) _) rfl rfl
      by_cases t3 : 33554432 < py
      ·
        have rz : (wr.alloc (.cells #[.int .i64 px, .int .i64 py] 23)).cell? ⟨w.heap.size + 1, 0, none⟩ = some (.bool false) := HZa.out.c 0 rfl; have qz := HZa.out.z 0
        go_wp2_with fail
        exact boxM_ret Try.results6 (HZa.out.set 0 (.bool true) (show (0 : Nat) < 1 by decide)) (Below.setCell HBa.out (by exact Nat.le_succ _) _) rfl rfl
      have hin2 : Hid (PtB 33554432 px py) := Lib.hid (by unfold PtB; omega)
      go_wp2_with fail
      go_roundw
      case rel => exact ⟨⟨HBa.out, HCa.out, HZa.out, HYa.out⟩, Or.inr (Or.inl ⟨by go_num, hin2⟩)⟩
      case measure => simp [intOf]
    ·
      have z0 : wr.cell? ⟨y, 2, none⟩ = some (.int .i64 qx) := HYr.out.c 2 rfl; have z1 : wr.cell? ⟨y, 3, none⟩ = some (.int .i64 qy) := HYr.out.c 3 rfl
      have r0 : wr.cell? ⟨w.heap.size + 1, 0, none⟩ = some (.bool false) := HZr.out.c 0 rfl; have q0 := HZr.out.z 0
      have ha := (Below.refl wr.heap.size wr).alloc (Nat.le_refl _) (.cells #[.int .i64 qx, .int .i64 qy] 23)
      have HBa := Lib.hid (HBr.out.trans (ha.mono HBr.out.size)); have HZa := Lib.hid (HZr.out.next ha); have HCa := Lib.hid (HCr.out.next ha); have HYa := Lib.hid (HYr.out.next ha)
      clear ha
      by_cases t0 : qx < -33554432
      ·
        have rz : (wr.alloc (.cells #[.int .i64 qx, .int .i64 qy] 23)).cell? ⟨w.heap.size + 1, 0, none⟩ = some (.bool false) := HZa.out.c 0 rfl; have qz := HZa.out.z 0
        go_wp2_with fail
        exact boxM_ret Try.results6 (HZa.out.set 0 (.bool true) (show (0 : Nat) < 1 by decide)) (Below.setCell HBa.out (by exact Nat.le_succ _) _) rfl rfl
      by_cases t1 : 33554432 < qx
      ·
        have rz : (wr.alloc (.cells #[.int .i64 qx, .int .i64 qy] 23)).cell? ⟨w.heap.size + 1, 0, none⟩ = some (.bool false) := HZa.out.c 0 rfl; have qz := HZa.out.z 0
        go_wp2_with fail
        exact boxM_ret Try.results6 (HZa.out.set 0 (.bool true) (show (0 : Nat) < 1 by decide)) (Below.setCell HBa.out (by exact Nat.le_succ _) _) rfl rfl
      by_cases t2 : qy < -33554432
      ·
        have rz : (wr.alloc (.cells #[.int .i64 qx, .int .i64 qy] 23)).cell? ⟨w.heap.size + 1, 0, none⟩ = some (.bool false) := HZa.out.c 0 rfl; have qz := HZa.out.z 0
        go_wp2_with fail
        exact boxM_ret Try.results6 (HZa.out.set 0 (.bool true) (show (0 : Nat) < 1 by decide)) (Below.setCell HBa.out (by exact Nat.le_succ _) _) rfl rfl
      by_cases t3 : 33554432 < qy
      ·
        have rz : (wr.alloc (.cells #[.int .i64 qx, .int .i64 qy] 23)).cell? ⟨w.heap.size + 1, 0, none⟩ = some (.bool false) := HZa.out.c 0 rfl; have qz := HZa.out.z 0
        go_wp2_with fail
        exact boxM_ret Try.results6 (HZa.out.set 0 (.bool true) (show (0 : Nat) < 1 by decide)) (Below.setCell HBa.out (by exact Nat.le_succ _) _) rfl rfl
      have hin2 : Hid (PtB 33554432 px py ∧ PtB 33554432 qx qy) := Lib.hid (⟨hin.out, by unfold PtB; omega⟩)
      go_wp2_with fail
      go_roundw
      case rel => exact ⟨⟨HBa.out, HCa.out, HZa.out, HYa.out⟩, Or.inr (Or.inr (Or.inl ⟨by go_num, hin2⟩))⟩
      case measure => simp [intOf]
    ·
      have z0 : wr.cell? ⟨y, 4, none⟩ = some (.int .i64 rx) := HYr.out.c 4 rfl; have z1 : wr.cell? ⟨y, 5, none⟩ = some (.int .i64 ry) := HYr.out.c 5 rfl
      have r0 : wr.cell? ⟨w.heap.size + 1, 0, none⟩ = some (.bool false) := HZr.out.c 0 rfl; have q0 := HZr.out.z 0
      have ha := (Below.refl wr.heap.size wr).alloc (Nat.le_refl _) (.cells #[.int .i64 rx, .int .i64 ry] 23)
      have HBa := Lib.hid (HBr.out.trans (ha.mono HBr.out.size)); have HZa := Lib.hid (HZr.out.next ha); have HCa := Lib.hid (HCr.out.next ha); have HYa := Lib.hid (HYr.out.next ha)
      clear ha
      by_cases t0 : rx < -33554432
      ·
        have rz : (wr.alloc (.cells #[.int .i64 rx, .int .i64 ry] 23)).cell? ⟨w.heap.size + 1, 0, none⟩ = some (.bool false) := HZa.out.c 0 rfl; have qz := HZa.out.z 0
        go_wp2_with fail
        exact boxM_ret Try.results6 (HZa.out.set 0 (.bool true) (show (0 : Nat) < 1 by decide)) (Below.setCell HBa.out (by exact Nat.le_succ _) _) rfl rfl
      by_cases t1 : 33554432 < rx
      ·
        have rz : (wr.alloc (.cells #[.int .i64 rx, .int .i64 ry] 23)).cell? ⟨w.heap.size + 1, 0, none⟩ = some (.bool false) := HZa.out.c 0 rfl; have qz := HZa.out.z 0
        go_wp2_with fail
        exact boxM_ret Try.results6 (HZa.out.set 0 (.bool true) (show (0 : Nat) < 1 by decide)) (Below.setCell HBa.out (by exact Nat.le_succ _) _) rfl rfl
      by_cases t2 : ry < -33554432
      ·
        have rz : (wr.alloc (.cells #[.int .i64 rx, .int .i64 ry] 23)).cell? ⟨w.heap.size + 1, 0, none⟩ = some (.bool false) := HZa.out.c 0 rfl; have qz := HZa.out.z 0
        go_wp2_with fail
        exact boxM_ret Try.results6 (HZa.out.set 0 (.bool true) (show (0 : Nat) < 1 by decide)) (Below.setCell HBa.out (by exact Nat.le_succ _) _) rfl rfl
      by_cases t3 : 33554432 < ry
      ·
        have rz : (wr.alloc (.cells #[.int .i64 rx, .int .i64 ry] 23)).cell? ⟨w.heap.size + 1, 0, none⟩ = some (.bool false) := HZa.out.c 0 rfl; have qz := HZa.out.z 0
        go_wp2_with fail
        exact boxM_ret Try.results6 (HZa.out.set 0 (.bool true) (show (0 : Nat) < 1 by decide)) (Below.setCell HBa.out (by exact Nat.le_succ _) _) rfl rfl
      have hin2 : Hid (PtB 33554432 px py ∧ PtB 33554432 qx qy ∧ PtB 33554432 rx ry) := Lib.hid (⟨hin.out.1, hin.out.2, by unfold PtB; omega⟩)
      go_wp2_with fail
      go_roundw
      case rel => exact ⟨⟨HBa.out, HCa.out, HZa.out, HYa.out⟩, Or.inr (Or.inr (Or.inr (Or.inl ⟨by go_num, hin2⟩)))⟩
      case measure => simp [intOf]
    ·
      have z0 : wr.cell? ⟨y, 6, none⟩ = some (.int .i64 sx) := HYr.out.c 6 rfl; have z1 : wr.cell? ⟨y, 7, none⟩ = some (.int .i64 sy) := HYr.out.c 7 rfl
      have r0 : wr.cell? ⟨w.heap.size + 1, 0, none⟩ = some (.bool false) := HZr.out.c 0 rfl; have q0 := HZr.out.z 0
      have ha := (Below.refl wr.heap.size wr).alloc (Nat.le_refl _) (.cells #[.int .i64 sx, .int .i64 sy] 23)
      have HBa := Lib.hid (HBr.out.trans (ha.mono HBr.out.size)); have HZa := Lib.hid (HZr.out.next ha); have HCa := Lib.hid (HCr.out.next ha); have HYa := Lib.hid (HYr.out.next ha)
      clear ha
      by_cases t0 : sx < -33554432
      ·
        have rz : (wr.alloc (.cells #[.int .i64 sx, .int .i64 sy] 23)).cell? ⟨w.heap.size + 1, 0, none⟩ = some (.bool false) := HZa.out.c 0 rfl; have qz := HZa.out.z 0
        go_wp2_with fail
        exact boxM_ret Try.results6 (HZa.out.set 0 (.bool true) (show (0 : Nat) < 1 by decide)) (Below.setCell HBa.out (by exact Nat.le_succ _) _) rfl rfl
      by_cases t1 : 33554432 < sx
      ·
        have rz : (wr.alloc (.cells #[.int .i64 sx, .int .i64 sy] 23)).cell? ⟨w.heap.size + 1, 0, none⟩ = some (.bool false) := HZa.out.c 0 rfl; have qz := HZa.out.z 0
        go_wp2_with fail
        exact boxM_ret Try.results6 (HZa.out.set 0 (.bool true) (show (0 : Nat) < 1 by decide)) (Below.setCell HBa.out (by exact Nat.le_succ _) _) rfl rfl
      by_cases t2 : sy < -33554432
      ·
        have rz : (wr.alloc (.cells #[.int .i64 sx, .int .i64 sy] 23)).cell? ⟨w.heap.size + 1, 0, none⟩ = some (.bool false) := HZa.out.c 0 rfl; have qz := HZa.out.z 0
        go_wp2_with fail
        exact boxM_ret Try.results6 (HZa.out.set 0 (.bool true) (show (0 : Nat) < 1 by decide)) (Below.setCell HBa.out (by exact Nat.le_succ _) _) rfl rfl
      by_cases t3 : 33554432 < sy
      ·
        have rz : (wr.alloc (.cells #[.int .i64 sx, .int .i64 sy] 23)).cell? ⟨w.heap.size + 1, 0, none⟩ = some (.bool false) := HZa.out.c 0 rfl; have qz := HZa.out.z 0
        go_wp2_with fail
        exact boxM_ret Try.results6 (HZa.out.set 0 (.bool true) (show (0 : Nat) < 1 by decide)) (Below.setCell HBa.out (by exact Nat.le_succ _) _) rfl rfl
      have hin2 : Hid (PtB 33554432 px py ∧ PtB 33554432 qx qy ∧ PtB 33554432 rx ry ∧ PtB 33554432 sx sy) := Lib.hid (⟨hin.out.1, hin.out.2.1, hin.out.2.2, by unfold PtB; omega⟩)
      go_wp2_with fail
      go_roundw
      case rel => exact ⟨⟨HBa.out, HCa.out, HZa.out, HYa.out⟩, Or.inr (Or.inr (Or.inr (Or.inr (⟨by go_num, hin2⟩))))⟩
      case measure => simp [intOf]
    ·
      have hB : Crv.inB ⟨px, py, qx, qy, rx, ry, sx, sy⟩ 33554432 := by
        obtain ⟨i1, i2, i3, i4⟩ := hin.out
        unfold PtB at i1 i2 i3 i4
        exact ⟨i1, i2, i3, i4⟩
      clear hin HYr
      have hr := inB_right hB (by decide)
      have hB3 := inB_mono33 hB
      have PC := Lib.hid (fun w => PI0.out ⟨px, py, qx, qy, rx, ry, sx, sy⟩ w hr)
      have hfl := pieces12_inB hB3
      have hib := pieces12_all (p := fun x => x.inB 33554432) (fun _ h => inB_cutA h) (fun _ h => inB_cutB h) 20 ⟨px, py, qx, qy, rx, ry, sx, sy⟩ hB
      have hrt := pieces12_right 20 hr
      have hpos := pieces12_pos 20 ⟨px, py, qx, qy, rx, ry, sx, sy⟩
      unfold Crv.val Crv.arr at PC
      dsimp only at PC
      generalize hRES : pieces12 20 ⟨px, py, qx, qy, rx, ry, sx, sy⟩ = RES at *
      clear PI0 PI CO hB hB3 hr hRES
      have k1 := CBox.new wr 3 #[.int .i64 0]
      have k3 := (Below.refl wr.heap.size wr).alloc (Nat.le_refl _) (.cells #[.int .i64 0] 3)
      have HN4 := Lib.hid k1; have HB4 := Lib.hid (HBr.out.trans (k3.mono HBr.out.size)); have HC4 := Lib.hid (HCr.out.next k3); have HZ4 := Lib.hid (HZr.out.next k3)
      clear k1 k3
      go_upto_region 10 with fail
      generalize (wr.alloc (.cells #[.int .i64 0] 3)) = w4 at *
      have gz : w.heap.size + 1 < wr.heap.size := HZr.out.lt
      generalize wr.heap.size = q at *
      have xC0 : w4.cell? ⟨w.heap.size, 0, none⟩ = some (.int .i64 px) := HC4.out.c 0 rfl
      have xC1 : w4.cell? ⟨w.heap.size, 1, none⟩ = some (.int .i64 py) := HC4.out.c 1 rfl
      have xC2 : w4.cell? ⟨w.heap.size, 2, none⟩ = some (.int .i64 qx) := HC4.out.c 2 rfl
      have xC3 : w4.cell? ⟨w.heap.size, 3, none⟩ = some (.int .i64 qy) := HC4.out.c 3 rfl
      have xC4 : w4.cell? ⟨w.heap.size, 4, none⟩ = some (.int .i64 rx) := HC4.out.c 4 rfl
      have xC5 : w4.cell? ⟨w.heap.size, 5, none⟩ = some (.int .i64 ry) := HC4.out.c 5 rfl
      have xC6 : w4.cell? ⟨w.heap.size, 6, none⟩ = some (.int .i64 sx) := HC4.out.c 6 rfl
      have xC7 : w4.cell? ⟨w.heap.size, 7, none⟩ = some (.int .i64 sy) := HC4.out.c 7 rfl
      go_wp2_with fail
      refine (PC.out _).mono ?_
      clear xC0 xC1 xC2 xC3 xC4 xC5 xC6 xC7
      rintro o W0 ⟨gf, lb, a, b, rfl, eg, b2, ha, hb, hca, hfe⟩
      have HN5 := Lib.hid (HN4.out.next b2); have HB5 := Lib.hid (HB4.out.trans (b2.mono HB4.out.size)); have HC5 := Lib.hid (HC4.out.next b2); have HZ5 := Lib.hid (HZ4.out.next b2)
      have hlt : q < W0.heap.size := HN5.out.lt
      have hqa : q < a := Nat.lt_of_lt_of_le HN4.out.lt ha
      have hfe5 := FeedsO.wideAny (n := 5) hfe
      have hrun := nil_neq gf lb W0
      clear hfe PC HC4 HZ4 HN4 HB4 b2 HBr HCr HZr HC5
      go_wp2
      refine (wpIn_wide (n := 6)).1 ?_
      
      have AB : AbideO T12 W0.heap.size (fun (pre : List Crv) X => (CBox (w.heap.size + 1) 4 #[.bool false] X ∧ CBox q 3 #[.int .i64 (pre.length : Int)] X) ∧ (Below w.heap.size w X ∧ W0.heap.size ≤ X.heap.size) ∧ pre.length < 500) := ((abideO_box (by omega)).and (abideO_boxP (by omega) (fun pre => #[.int .i64 (pre.length : Int)]))).and ((abideO_below (by omega)).and (abideO_pre (fun pre => pre.length < 500)))
      have HAB := Lib.hid AB
      refine wpIn_feedsO (T := T12) (ca := a) (cb := b) (enc := encC) (RES := RES) rfl (by decide) (gf := gf) (lb := lb) rfl trivial eg
        hfe5 (Mid.refl _ _ _) hb (fun _ => rfl) (fun pre X => (CBox (w.heap.size + 1) 4 #[.bool false] X ∧ CBox q 3 #[.int .i64 (pre.length : Int)] X) ∧ (Below w.heap.size w X ∧ W0.heap.size ≤ X.heap.size) ∧ pre.length < 500) (fun c _ X => c = .ret ∧ CBox (w.heap.size + 1) 4 #[.bool true] X ∧ (Below w.heap.size w X ∧ W0.heap.size ≤ X.heap.size))
        AB (fun c => (abideO_pre (fun _ => c = .ret)).and ((abideO_box (by omega)).and (abideO_below (by omega)))) ⟨⟨HZ5.out, HN5.out⟩, ⟨HB5.out, Nat.le_refl _⟩, by decide⟩
        (fun x a' X => ∃ Bx, W0.heap.size ≤ Bx ∧ CBox Bx 25 x.arr X ∧ a' = { tmps := #[.agg #[.int .i64 px, .int .i64 py, .int .i64 qx, .int .i64 qy, .int .i64 rx, .int .i64 ry, .int .i64 sx, .int .i64 sy], .pointer (some ⟨w.heap.size, 0, none⟩), .pointer (some ⟨w.heap.size + 1, 0, none⟩), undef, u4, .pointer (some ⟨q, 0, none⟩), .func (.func gf) #[] lb, .pointer (some ⟨Bx, 0, none⟩), undef, .bool true, .bool false, .pointer (some ⟨w.heap.size, 0, none⟩), .agg #[.int .i64 px, .int .i64 py], .pointer (some ⟨w.heap.size, 2, none⟩), .agg #[.int .i64 qx, .int .i64 qy], .pointer (some ⟨w.heap.size, 4, none⟩), .agg #[.int .i64 rx, .int .i64 ry], .pointer (some ⟨w.heap.size, 6, none⟩), .agg #[.int .i64 sx, .int .i64 sy], .slice (some ⟨y, 0, none⟩) 4 4, .int .i64 4, .int .i64 4, .bool false, u23, u24, u25, u26, u27, u28, u29, u30, u31, u32, u33, u34, u35, u36, u37, u38, u39, u40, u41, u42, u43, .agg #[.int .i64 px, .int .i64 py, .int .i64 qx, .int .i64 qy, .int .i64 rx, .int .i64 ry, .int .i64 sx, .int .i64 sy], .func (.func gf) #[] lb, .func (.func gf) #[] lb, .bool true, .func (.func gf) #[] lb, x.val, undef, undef, undef, undef, undef, undef, undef, undef, undef, undef, undef, undef, undef, undef, undef, undef, undef, undef, undef, undef], defers := [] }) ?own ?assign ?body ?done ?stop
      case own =>
        rintro x a' _ X X' row ⟨Bx, h0, h1, h3⟩ hg hr
        exact ⟨Bx, h0, h1.free hg (fun r e => (hr r e).2), h3⟩
      case assign =>
        rintro l' pre x X K hj hws hpx hK
        have z2 := (Below.refl X.heap.size X).alloc (Nat.le_refl _) (.cells x.arr 25)
        have hj' := HAB.out.abide.new _ _ _ hj z2
        have HJ3 := Lib.hid hj'
        have HZ1 := Lib.hid (CBox.new X 25 x.arr); have HZ2 := Lib.hid z2; have HK := Lib.hid hK
        clear z2 hj hK hj' AB
        unfold encC
        obtain ⟨ax, ay, bx, by1, cx, cy, dx, dy⟩ := x
        unfold Crv.val at *
        unfold Crv.arr at *
        dsimp only at *
        gi_wp2
        exact HK.out _ _ ((KeepsOthers.alloc _ _).from _) (KeepsT.below HZ2.out (by omega)) HJ3.out ⟨_, hws, HZ1.out, rfl⟩
      case done =>
        rintro D X hD ⟨⟨hz, hn⟩, ⟨hbe, hsz⟩, hl5⟩ hK
        have hl0 : (1 : Int) ≤ (RES.length : Int) := by omega
        have HZD := Lib.hid hz; have HBD := Lib.hid hbe; have HKD := Lib.hid hK
        have n0 : X.cell? ⟨q, 0, none⟩ = some (.int .i64 (RES.length : Int)) := hn.c 0 rfl
        have r0 : X.cell? ⟨w.heap.size + 1, 0, none⟩ = some (.bool false) := hz.c 0 rfl; have q0 := hz.z 0
        clear hz hn hbe hK HAB AB
        go_wp2_with fail
        exact boxM_done Try.results6 (HZD.out.set 0 (.bool true) (show (0 : Nat) < 1 by decide)) (Below.setCell HBD.out (by exact Nat.le_succ _) _) rfl rfl ((Below.heap_setCell _ _ _ _ (by exact fun e => by have e2 : D = w.heap.size + 1 := e; omega)).trans HKD.out) (by omega)
      case stop =>
        rintro D c pre X hD hpre ⟨rfl, hz, hbe, hsz⟩ hK
        have r0 : X.cell? ⟨w.heap.size + 1, 0, none⟩ = some (.bool true) := hz.c 0 rfl
        have HZD := Lib.hid hz; have HBD := Lib.hid hbe; have HKD := Lib.hid hK
        clear hz hbe hK HAB AB
        gi_wp2_with fail
        exact boxM_done Try.results6 HZD.out HBD.out rfl rfl HKD.out (by omega)
      case body =>
        rintro l' pre x a' X ⟨⟨hz, hn⟩, ⟨hbe, hsz⟩, hl5⟩ ⟨Bx, hBx, hbx, rfl⟩ hws hpx
        obtain ⟨rr, hpr⟩ := hpx
        have hx : x ∈ RES := by rw [← hpr]; simp
        have RA := Lib.hid (fun k w => rat11 x k w (hrt x hx))
        have NR := Lib.hid (fun (k : Nat) (hk : k < 16) w => near12 x k hk (hib x hx) (hfl x hx) w)
        have HLN := Lib.hid (show ((pre ++ [x]).length : Int) = (pre.length : Int) + 1 by simp)
        have HLM := Lib.hid (show (pre ++ [x]).length = pre.length + 1 by simp)
        clear hx hpr hrt hfl hib hpos HAB AB
        obtain ⟨ax, ay, bx, by1, cx, cy, dx, dy⟩ := x
        unfold Crv.val Crv.arr at *
        dsimp only at *
        have HZ := Lib.hid hz; have HN := Lib.hid hn; have HB := Lib.hid hbe; have HBX := Lib.hid hbx
        clear hz hn hbe hbx
        gi_wp2
        gi_loopw [8] (fun iv wr => ∃ t : Nat, iv = .int .i64 (nx12 t) ∧ (1 ≤ t ∧ t ≤ 16) ∧ Hid (Below X.heap.size X wr)) (fun iv _ => (16 - intOf iv).toNat)
        case atStart => exact ⟨1, rfl, ⟨by decide, by decide⟩, Lib.hid (Below.refl _ _)⟩
        case round =>
          obtain ⟨t, rfl, ⟨ht1, ht2⟩, H3⟩ := hrel
          have HZ0 := Lib.hid (HZ.out.next H3.out); have HN0 := Lib.hid (HN.out.next H3.out); have HE0 := Lib.hid (HBX.out.next H3.out); have HB0 := Lib.hid (HB.out.trans (H3.out.mono HB.out.size))
          by_cases ht : t < 16
          · have d2 : nx12 t < 16 := by unfold nx12; omega
            have d1 : decide (nx12 t < 16) = true := decide_eq_true d2
            have RT := Lib.hid (fun w => RA.out (4096 * (t : Int)) w)
            rw [cap16 t ht] at RT
            have NT := Lib.hid (NR.out t ht)
            (try dsimp only at RT NT)
            generalize (Crv.at ⟨ax, ay, bx, by1, cx, cy, dx, dy⟩ (4096 * (t : Int))).1 = ex at *
            generalize (Crv.at ⟨ax, ay, bx, by1, cx, cy, dx, dy⟩ (4096 * (t : Int))).2 = ey at *
            clear RA NR
            have hsh : IntKind.i64.wrap (nx12 t * 4096) = 4096 * (t : Int) := (IntWalk.i64_in _ (by unfold nx12; omega)).trans (by unfold nx12; omega)
            have hwi : IntKind.i64.wrap (nx12 t + 1) = nx12 (t + 1) := (IntWalk.i64_in _ (by unfold nx12; omega)).trans (by unfold nx12; omega)
            have hwj : wrap64 (nx12 t + 1) = nx12 (t + 1) := (w64 (by unfold nx12; omega)).trans (by unfold nx12; omega)
            gi_wp2
            have hs_ := fnrS HE0.out
            refine wpIn_round_held (S := (fun w' => w'.cell? ⟨Bx, 0, none⟩ = some (.int .i64 ax) ∧ w'.cell? ⟨Bx, 1, none⟩ = some (.int .i64 ay) ∧ w'.cell? ⟨Bx, 2, none⟩ = some (.int .i64 bx) ∧ w'.cell? ⟨Bx, 3, none⟩ = some (.int .i64 by1) ∧ w'.cell? ⟨Bx, 4, none⟩ = some (.int .i64 cx) ∧ w'.cell? ⟨Bx, 5, none⟩ = some (.int .i64 cy) ∧ w'.cell? ⟨Bx, 6, none⟩ = some (.int .i64 dx) ∧ w'.cell? ⟨Bx, 7, none⟩ = some (.int .i64 dy))) (by kernel_rfl) (by kernel_rfl) (fun ⟨_, _, h⟩ => h) ?_ (fun hHeld => ?_)
            · (try dsimp only); first | exact hs_ | (simp [go_sem, *]; done)
            clear hs_
            have HBk1 : Hid (Below wr.heap.size wr wr.drew) := Lib.hid (Below.refl wr.heap.size wr).drew
            have HEk1 : Hid (CBox (Bx) 25 #[.int .i64 ax, .int .i64 ay, .int .i64 bx, .int .i64 by1, .int .i64 cx, .int .i64 cy, .int .i64 dx, .int .i64 dy] wr.drew) := Lib.hid HE0.out
            generalize wr.drew = dk1 at *
            have hs_ := fnrS HEk1.out
            refine wpAnyH_take (i := 0) (oi := fnrOp0) (v := ?_) rfl (by kernel_rfl) (by kernel_rfl) (by kernel_rfl) (fun _ _ _ h => h) (Or.inl ⟨by rfl, ?_⟩) (by assumption) ?_
            rotate_left
            · ((try unfold fnrOp0); intro w hSw; (try dsimp only at hSw); go_simp; (first | done | with_reducible rfl))
            (try unfold fnrOp0)
            (try simp only [Act.put, List.setIfInBounds_toArray, List.set_cons_zero, List.set_cons_succ])
            refine wpAnyH_take (i := 1) (oi := fnrOp1) (v := ?_) rfl (by kernel_rfl) (by kernel_rfl) (by kernel_rfl) (fun _ _ _ h => h) (Or.inl ⟨by rfl, ?_⟩) (by assumption) ?_
            rotate_left
            · ((try unfold fnrOp1); intro w hSw; (try dsimp only at hSw); go_simp; (first | done | with_reducible rfl))
            (try unfold fnrOp1)
            (try simp only [Act.put, List.setIfInBounds_toArray, List.set_cons_zero, List.set_cons_succ])
            refine wpAnyH_take (i := 2) (oi := fnrOp2) (v := ?_) rfl (by kernel_rfl) (by kernel_rfl) (by kernel_rfl) (fun _ _ _ h => h) (Or.inl ⟨by rfl, ?_⟩) (by assumption) ?_
            rotate_left
            · ((try unfold fnrOp2); intro w hSw; (try dsimp only at hSw); go_simp; (first | done | with_reducible rfl))
            (try unfold fnrOp2)
            (try simp only [Act.put, List.setIfInBounds_toArray, List.set_cons_zero, List.set_cons_succ])
            refine wpAnyH_take (i := 3) (oi := fnrOp3) (v := ?_) rfl (by kernel_rfl) (by kernel_rfl) (by kernel_rfl) (fun _ _ _ h => h) (Or.inl ⟨by rfl, ?_⟩) (by assumption) ?_
            rotate_left
            · ((try unfold fnrOp3); intro w hSw; (try dsimp only at hSw); go_simp; (first | done | with_reducible rfl))
            (try unfold fnrOp3)
            (try simp only [Act.put, List.setIfInBounds_toArray, List.set_cons_zero, List.set_cons_succ])
            refine wpAnyH_take (i := 4) (oi := fnrOp4) (v := ?_) rfl (by kernel_rfl) (by kernel_rfl) (by kernel_rfl) (fun _ _ _ h => h) (Or.inl ⟨by rfl, ?_⟩) (by assumption) ?_
            rotate_left
            · ((try unfold fnrOp4); intro w hSw; (try dsimp only at hSw); go_simp; (first | done | with_reducible rfl))
            (try unfold fnrOp4)
            (try simp only [Act.put, List.setIfInBounds_toArray, List.set_cons_zero, List.set_cons_succ])
            refine wpAnyH_take (i := 5) (oi := fnrOp5) (v := ?_) rfl (by kernel_rfl) (by kernel_rfl) (by kernel_rfl) (fun _ _ _ h => h) (Or.inl ⟨by rfl, ?_⟩) (by assumption) ?_
            rotate_left
            · ((try unfold fnrOp5); intro w hSw; (try dsimp only at hSw); go_simp; (first | done | with_reducible rfl))
            (try unfold fnrOp5)
            (try simp only [Act.put, List.setIfInBounds_toArray, List.set_cons_zero, List.set_cons_succ])
            refine wpAnyH_take (i := 6) (oi := fnrOp6) (v := ?_) rfl (by kernel_rfl) (by kernel_rfl) (by kernel_rfl) (fun _ _ _ h => h) (Or.inl ⟨by rfl, ?_⟩) (by assumption) ?_
            rotate_left
            · ((try unfold fnrOp6); intro w hSw; (try dsimp only at hSw); go_simp; (first | done | with_reducible rfl))
            (try unfold fnrOp6)
            (try simp only [Act.put, List.setIfInBounds_toArray, List.set_cons_zero, List.set_cons_succ])
            refine wpAnyH_ready (rs := [7]) (by kernel_rfl) (by simp) ?_
            refine AllReadyH.cons (o := fnrOp7) rfl (fun K hK => ?_) AllReadyH.nil
            (try unfold fnrOp7)
            go_simp
            (go_at_call 20; (with_reducible refine (RT.out _).mono ?_); rintro e vk2 ⟨rfl, bq⟩)
            have HBk2 := Lib.hid (HBk1.out.trans (bq.mono HBk1.out.size)); have HEk2 := Lib.hid (HEk1.out.next bq); clear bq
            clear hs_
            have hs_ := fnrS HEk2.out
            refine hK.out _ _ (by exact hs_) (fun hHeld => ?_)
            clear hK K; (try simp only [Act.put, List.setIfInBounds_toArray, List.set_cons_zero, List.set_cons_succ])
            refine wpAnyH_ready (rs := [8]) (by kernel_rfl) (by simp) ?_
            refine AllReadyH.cons (o := fnrOp8) rfl (fun K hK => ?_) AllReadyH.nil
            (try unfold fnrOp8)
            go_simp
            (go_at_call 19; (with_reducible refine (NT.out _).mono ?_); rintro e vk3 ⟨rfl, bq⟩)
            have HBk3 := Lib.hid (HBk2.out.trans (bq.mono HBk2.out.size)); have HEk3 := Lib.hid (HEk2.out.next bq); clear bq
            clear hs_
            have hs_ := fnrS HEk3.out
            refine hK.out _ _ (by exact hs_) (fun hHeld => ?_)
            clear hK K; (try simp only [Act.put, List.setIfInBounds_toArray, List.set_cons_zero, List.set_cons_succ])
            refine wpAnyH_take (i := 9) (oi := fnrOp9) (v := ?_) rfl (by kernel_rfl) (by kernel_rfl) (by kernel_rfl) (fun _ _ _ h => h) (Or.inl ⟨by rfl, ?_⟩) (by assumption) ?_
            rotate_left
            · ((try unfold fnrOp9); intro w hSw; (try dsimp only at hSw); go_simp; (first | done | with_reducible rfl))
            (try unfold fnrOp9)
            (try simp only [Act.put, List.setIfInBounds_toArray, List.set_cons_zero, List.set_cons_succ])
            refine wpAnyH_done (by kernel_rfl) ?_ _
            have BB := Lib.hid (H3.out.trans (HBk3.out.mono H3.out.size))
            clear hs_
            rename_i hh1 hh2
            clear hh1 hh2 hHeld RT NT hsh
            gi_wp2_with fail
            go_roundw
            case rel => exact ⟨t + 1, rfl, ⟨by omega, by omega⟩, BB⟩
            case measure => simp only [intOf, nx12]; omega
          · obtain rfl : t = 16 := by omega
            have d1 : decide (nx12 16 < 16) = false := by decide
            have d2 : ¬ nx12 16 < 16 := by decide
            have n0 : wr.cell? ⟨q, 0, none⟩ = some (.int .i64 (pre.length : Int)) := HN0.out.c 0 rfl; have n1 := HN0.out.z 0
            have r0 : wr.cell? ⟨w.heap.size + 1, 0, none⟩ = some (.bool false) := HZ0.out.c 0 rfl; have r1 := HZ0.out.z 0
            have hm0 := Lib.hid (show w.heap.size + 1 ∈ [w.heap.size + 1, q] by simp)
            have hm1 := Lib.hid (show q ∈ [w.heap.size + 1, q] by simp)
            have he12 := Lib.hid (show ∀ k ∈ [w.heap.size + 1, q], k < W0.heap.size ∧ (k < a ∨ b ≤ k) by
              intro k hk
              simp only [List.mem_cons, List.not_mem_nil, or_false] at hk
              omega)
            have SM := Lib.hid (((Small12.refl W0.heap.size [w.heap.size + 1, q] X).below H3.out).set (o := 0) hm1.out (.int .i64 ((pre.length : Int) + 1)))
            have BE := Lib.hid (Below.setCell HB0.out (p := ⟨q, 0, none⟩) (show w.heap.size ≤ q by omega) (.int .i64 ((pre.length : Int) + 1)))
            have ZZ := Lib.hid (HZ0.out.other (show w.heap.size + 1 ≠ q by omega) 0 (.int .i64 ((pre.length : Int) + 1)))
            clear RA NR
            by_cases h5 : ((pre.length : Int) + 1 == 500) = true
            · gi_wp2_with fail
              have SM2 := SM.out.set (o := 0) hm0.out (.bool true)
              have hk := SM2.keeps (T := T12) hsz hb he12.out
              exact ⟨hk.1, rfl, ZZ.out.set 0 (.bool true) (show (0 : Nat) < 1 by decide), Below.setCell BE.out (by exact Nat.le_succ _) _, Nat.le_trans hsz SM2.size⟩
            · have h6 : ((pre.length : Int) + 1 == 500) = false := by simpa using h5
              have h7 := Lib.hid (show (pre.length : Int) + 1 ≠ 500 by simpa using h5)
              have NN := Lib.hid (HN0.out.set 0 (.int .i64 ((pre.length : Int) + 1)) (show (0 : Nat) < 1 by decide))
              gi_wp2_with fail
              have hk := SM.out.keeps (T := T12) hsz hb he12.out
              exact ⟨hk.1, hk.2, ⟨ZZ.out, by rw [HLN.out]; exact NN.out⟩, ⟨BE.out, Nat.le_trans hsz SM.out.size⟩, by rw [HLM.out]; have := h7.out; omega⟩
end Go.Proofs.Ytgkjbmejfcijkaa
