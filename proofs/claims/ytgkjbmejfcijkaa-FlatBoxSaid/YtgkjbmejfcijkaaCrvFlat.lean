/-
  Package curve: Flat. (Typed by a program: wip/gen_crv5.py.)
-/
import Derived.Test.YtgkjbmejfcijkaaCrvPut
import Derived.Test.YtgkjbmejfcijkaaRefCrvC
import Derived.Deep.DeepCutAuto
namespace Go.Proofs.Ytgkjbmejfcijkaa
open Go.RowKit Go.Shelf
def flatOp0 : Oper := { dst := some 5, op := Go.Op.fieldAddr 25 (Go.Operand.tmp 1) 0, type := 0, pos := "curve.go:25", after := #[], guard := none }
def flatOp1 : Oper := { dst := some 6, op := Go.Op.load 23 (Go.Operand.tmp 5), type := 23, pos := "curve.go:25", after := #[{ on := 0, ground := Go.Ground.data }], guard := none }
def flatOp2 : Oper := { dst := some 7, op := Go.Op.fieldAddr 25 (Go.Operand.tmp 1) 1, type := 0, pos := "curve.go:25", after := #[], guard := none }
def flatOp3 : Oper := { dst := some 8, op := Go.Op.load 23 (Go.Operand.tmp 7), type := 23, pos := "curve.go:25", after := #[{ on := 2, ground := Go.Ground.data }], guard := none }
def flatOp4 : Oper := { dst := some 9, op := Go.Op.fieldAddr 25 (Go.Operand.tmp 1) 2, type := 0, pos := "curve.go:25", after := #[], guard := none }
def flatOp5 : Oper := { dst := some 10, op := Go.Op.load 23 (Go.Operand.tmp 9), type := 23, pos := "curve.go:25", after := #[{ on := 4, ground := Go.Ground.data }], guard := none }
def flatOp6 : Oper := { dst := some 11, op := Go.Op.call { callee := Go.Callee.value (Go.Operand.func 43), args := #[Go.Operand.tmp 6, Go.Operand.tmp 8, Go.Operand.tmp 10], argTypes := #[23, 23, 23] }, type := 23, pos := "curve.go:25", after := #[{ on := 1, ground := Go.Ground.data }, { on := 3, ground := Go.Ground.data }, { on := 5, ground := Go.Ground.data }], guard := none }
def flatOp7 : Oper := { dst := some 12, op := Go.Op.fieldAddr 25 (Go.Operand.tmp 1) 1, type := 0, pos := "curve.go:25", after := #[], guard := none }
def flatOp8 : Oper := { dst := some 13, op := Go.Op.load 23 (Go.Operand.tmp 12), type := 23, pos := "curve.go:25", after := #[{ on := 7, ground := Go.Ground.data }], guard := none }
def flatOp9 : Oper := { dst := some 14, op := Go.Op.fieldAddr 25 (Go.Operand.tmp 1) 2, type := 0, pos := "curve.go:25", after := #[], guard := none }
def flatOp10 : Oper := { dst := some 15, op := Go.Op.load 23 (Go.Operand.tmp 14), type := 23, pos := "curve.go:25", after := #[{ on := 9, ground := Go.Ground.data }], guard := none }
def flatOp11 : Oper := { dst := some 16, op := Go.Op.fieldAddr 25 (Go.Operand.tmp 1) 3, type := 0, pos := "curve.go:25", after := #[], guard := none }
def flatOp12 : Oper := { dst := some 17, op := Go.Op.load 23 (Go.Operand.tmp 16), type := 23, pos := "curve.go:25", after := #[{ on := 11, ground := Go.Ground.data }], guard := none }
def flatOp13 : Oper := { dst := some 18, op := Go.Op.call { callee := Go.Callee.value (Go.Operand.func 43), args := #[Go.Operand.tmp 13, Go.Operand.tmp 15, Go.Operand.tmp 17], argTypes := #[23, 23, 23] }, type := 23, pos := "curve.go:25", after := #[{ on := 8, ground := Go.Ground.data }, { on := 10, ground := Go.Ground.data }, { on := 12, ground := Go.Ground.data }, { on := 6, ground := Go.Ground.chain }], guard := none }
def flatOp14 : Oper := { dst := some 3, op := Go.Op.alloc 23, type := 0, pos := "curve.go:25", after := #[], guard := none }
def flatOp15 : Oper := { dst := some 4, op := Go.Op.alloc 23, type := 0, pos := "curve.go:25", after := #[], guard := none }
def flatOp16 : Oper := { dst := none, op := Go.Op.store 23 (Go.Operand.tmp 3) (Go.Operand.tmp 11), type := 0, pos := "curve.go:25", after := #[{ on := 14, ground := Go.Ground.data }, { on := 6, ground := Go.Ground.data }, { on := 13, ground := Go.Ground.chain }, { on := 0, ground := Go.Ground.phase }, { on := 1, ground := Go.Ground.phase }, { on := 2, ground := Go.Ground.phase }, { on := 3, ground := Go.Ground.phase }, { on := 4, ground := Go.Ground.phase }, { on := 5, ground := Go.Ground.phase }, { on := 6, ground := Go.Ground.phase }, { on := 7, ground := Go.Ground.textOnly Go.Departure.lateStores }, { on := 8, ground := Go.Ground.textOnly Go.Departure.lateStores }, { on := 9, ground := Go.Ground.textOnly Go.Departure.lateStores }, { on := 10, ground := Go.Ground.textOnly Go.Departure.lateStores }, { on := 11, ground := Go.Ground.textOnly Go.Departure.lateStores }, { on := 12, ground := Go.Ground.textOnly Go.Departure.lateStores }, { on := 13, ground := Go.Ground.textOnly Go.Departure.lateStoresUnsure }, { on := 14, ground := Go.Ground.phase }, { on := 15, ground := Go.Ground.phase }], guard := none }
def flatOp17 : Oper := { dst := none, op := Go.Op.store 23 (Go.Operand.tmp 4) (Go.Operand.tmp 18), type := 0, pos := "curve.go:25", after := #[{ on := 15, ground := Go.Ground.data }, { on := 13, ground := Go.Ground.data }, { on := 16, ground := Go.Ground.chain }, { on := 0, ground := Go.Ground.phase }, { on := 1, ground := Go.Ground.phase }, { on := 2, ground := Go.Ground.phase }, { on := 3, ground := Go.Ground.phase }, { on := 4, ground := Go.Ground.phase }, { on := 5, ground := Go.Ground.phase }, { on := 6, ground := Go.Ground.phase }, { on := 7, ground := Go.Ground.phase }, { on := 8, ground := Go.Ground.phase }, { on := 9, ground := Go.Ground.phase }, { on := 10, ground := Go.Ground.phase }, { on := 11, ground := Go.Ground.phase }, { on := 12, ground := Go.Ground.phase }, { on := 13, ground := Go.Ground.phase }, { on := 14, ground := Go.Ground.phase }, { on := 15, ground := Go.Ground.phase }, { on := 16, ground := Go.Ground.phase }], guard := none }
theorem flatS {W : World} {nC : Nat} {tC : TypeId} {c0 c1 c2 c3 c4 c5 c6 c7 : Value} (hC : CBox nC tC #[c0, c1, c2, c3, c4, c5, c6, c7] W) : W.cell? ⟨nC, 0, none⟩ = some c0 ∧ W.cell? ⟨nC, 1, none⟩ = some c1 ∧ W.cell? ⟨nC, 2, none⟩ = some c2 ∧ W.cell? ⟨nC, 3, none⟩ = some c3 ∧ W.cell? ⟨nC, 4, none⟩ = some c4 ∧ W.cell? ⟨nC, 5, none⟩ = some c5 ∧ W.cell? ⟨nC, 6, none⟩ = some c6 ∧ W.cell? ⟨nC, 7, none⟩ = some c7 := ⟨hC.c 0 rfl, hC.c 1 rfl, hC.c 2 rfl, hC.c 3 rfl, hC.c 4 rfl, hC.c 5 rfl, hC.c 6 rfl, hC.c 7 rfl⟩

theorem in40_bend {p q r : Int} (hp : In40 p) (hq : In40 q) (hr : In40 r) : wrap64 (2 * q) = 2 * q ∧ wrap64 (p - 2 * q) = p - 2 * q ∧ wrap64 (p - 2 * q + r) = p - 2 * q + r := by
  unfold In40 at *; unfold wrap64; omega
set_option maxHeartbeats 2000000 in
set_option maxRecDepth 100000 in
theorem bend11 (px py qx qy rx ry : Int) (w : World) (hpx : In40 px) (hpy : In40 py) (hqx : In40 qx) (hqy : In40 qy) (hrx : In40 rx) (hry : In40 ry) :
    Calls Try.prog 43 #[.agg #[.int .i64 px, .int .i64 py], .agg #[.int .i64 qx, .int .i64 qy], .agg #[.int .i64 rx, .int .i64 ry]] w fun e w' => e = .returned (.agg #[.int .i64 (px - 2 * qx + rx), .int .i64 (py - 2 * qy + ry)]) ∧ Below w.heap.size w w' := by
  obtain ⟨e1, e2, e3⟩ := in40_bend hpx hqx hrx
  obtain ⟨f1, f2, f3⟩ := in40_bend hpy hqy hry
  clear hpx hpy hqx hqy hrx hry
  obtain ⟨k1, k2, k3, k4, k5⟩ := boxes_four w #[.int .i64 px, .int .i64 py] #[.int .i64 qx, .int .i64 qy] #[.int .i64 rx, .int .i64 ry] #[.int .i64 0, .int .i64 0] 23 23 23 23
  have HP0 := Lib.hid k1; have HQ0 := Lib.hid k2; have HR0 := Lib.hid k3; have HZ0 := Lib.hid k4; have HB0 := Lib.hid k5
  clear k1 k2 k3 k4 k5
  go_enter Try.func43, Try.ntmps43
  go_upto_region 1 with fail
  generalize ((((w.alloc (.cells #[.int .i64 px, .int .i64 py] 23)).alloc (.cells #[.int .i64 qx, .int .i64 qy] 23)).alloc (.cells #[.int .i64 rx, .int .i64 ry] 23)).alloc (.cells #[.int .i64 0, .int .i64 0] 23)) = w1 at *
  have xP0 : w1.cell? ⟨w.heap.size, 0, none⟩ = some (.int .i64 px) := HP0.out.c 0 rfl
  have xP1 : w1.cell? ⟨w.heap.size, 1, none⟩ = some (.int .i64 py) := HP0.out.c 1 rfl
  have xQ0 : w1.cell? ⟨w.heap.size + 1, 0, none⟩ = some (.int .i64 qx) := HQ0.out.c 0 rfl
  have xQ1 : w1.cell? ⟨w.heap.size + 1, 1, none⟩ = some (.int .i64 qy) := HQ0.out.c 1 rfl
  have xR0 : w1.cell? ⟨w.heap.size + 1 + 1, 0, none⟩ = some (.int .i64 rx) := HR0.out.c 0 rfl
  have xR1 : w1.cell? ⟨w.heap.size + 1 + 1, 1, none⟩ = some (.int .i64 ry) := HR0.out.c 1 rfl
  have xZ0 : w1.cell? ⟨w.heap.size + 1 + 1 + 1, 0, none⟩ = some (.int .i64 0) := HZ0.out.c 0 rfl
  have xZ1 : w1.cell? ⟨w.heap.size + 1 + 1 + 1, 1, none⟩ = some (.int .i64 0) := HZ0.out.c 1 rfl
  have rZ0 := HZ0.out.z 0; have rZ1 := HZ0.out.z 1
  go_wp2_with fail
  exact pe_ret Try.results43 (PBox.set HZ0.out _ _) (below_pt8 HB0.out (by omega) _ _) rfl
theorem flat_all (c : Crv) : [c.px - 2 * c.qx + c.rx, c.py - 2 * c.qy + c.ry, c.qx - 2 * c.rx + c.sx, c.qy - 2 * c.ry + c.sy].all (wiB 513) = decide c.flat := by
  simp only [List.all_cons, List.all_nil, wi_513, Bool.and_true]
  rw [Bool.eq_iff_iff]
  simp only [Bool.and_eq_true, decide_eq_true_iff]
  unfold Crv.flat bentF
  exact Iff.rfl
theorem bend_i64 {p q r : Int} (hp : In40 p) (hq : In40 q) (hr : In40 r) : I64 (p - 2 * q + r) := by unfold In40 at *; unfold I64; omega
set_option maxHeartbeats 8000000 in
set_option maxRecDepth 100000 in
theorem cflat11 (c : Crv) (w : World) (hc : c.right) : Calls Try.prog 35 #[c.val] w fun e w' => e = .returned (.bool (decide c.flat)) ∧ Below w.heap.size w w' := by
  have ed := flat_all c
  obtain ⟨⟨kpx, kpy⟩, ⟨kqx, kqy⟩, ⟨krx, kry⟩, ksx, ksy⟩ := hc
  have B1 := Lib.hid (fun w => bend11 _ _ _ _ _ _ w kpx kpy kqx kqy krx kry)
  have B2 := Lib.hid (fun w => bend11 _ _ _ _ _ _ w kqx kqy krx kry ksx ksy)
  have i1 := bend_i64 kpx kqx krx; have i2 := bend_i64 kpy kqy kry; have i3 := bend_i64 kqx krx ksx; have i4 := bend_i64 kqy kry ksy
  generalize decide c.flat = D at *
  clear kpx kpy kqx kqy krx kry ksx ksy
  obtain ⟨px, py, qx, qy, rx, ry, sx, sy⟩ := c
  unfold Crv.val Crv.arr
  dsimp only at *
  generalize px - 2 * qx + rx = u0 at *
  generalize py - 2 * qy + ry = u1 at *
  generalize qx - 2 * rx + sx = v0 at *
  generalize qy - 2 * ry + sy = v1 at *
  have hl4 : [u0, u1, v0, v1].length = 4 := rfl
  have WI := Lib.hid (show ∀ (w : World) (n : Nat), IntsK .i64 (some ⟨n, 0, none⟩) [u0, u1, v0, v1] w → Calls Try.prog 44 #[.int .i64 513, .slice (some ⟨n, 0, none⟩) 4 4] w fun e w' => e = .returned (.bool D) ∧ w = w' from fun w n h => by
    have := within_any 513 (some ⟨n, 0, none⟩) [u0, u1, v0, v1] 4 w ⟨by decide, by decide⟩ (by intro z hz; simp only [List.mem_cons, List.not_mem_nil, or_false] at hz; rcases hz with rfl | rfl | rfl | rfl <;> assumption) (by rw [hl4]; unfold maxLen; omega) h
    rw [ed, hl4] at this; exact this)
  clear ed hl4 i1 i2 i3 i4
  have k1 := CBox.new w 25 #[.int .i64 px, .int .i64 py, .int .i64 qx, .int .i64 qy, .int .i64 rx, .int .i64 ry, .int .i64 sx, .int .i64 sy]
  have HC0 := Lib.hid k1
  have HB0 := Lib.hid ((Below.refl w.heap.size w).alloc (Nat.le_refl _) (.cells #[.int .i64 px, .int .i64 py, .int .i64 qx, .int .i64 qy, .int .i64 rx, .int .i64 ry, .int .i64 sx, .int .i64 sy] 25))
  clear k1
  go_enter Try.func35, Try.ntmps35
  go_upto_region 1 with fail
  generalize w.alloc (.cells #[.int .i64 px, .int .i64 py, .int .i64 qx, .int .i64 qy, .int .i64 rx, .int .i64 ry, .int .i64 sx, .int .i64 sy] 25) = w1 at *
  go_cut [3, 4] (fun s3 s4 wc => ∃ q3 q4 : Nat, s3 = .pointer (some ⟨q3, 0, none⟩) ∧ s4 = .pointer (some ⟨q4, 0, none⟩) ∧ CBox q3 23 #[.int .i64 u0, .int .i64 u1] wc ∧ CBox q4 23 #[.int .i64 v0, .int .i64 v1] wc ∧ Below w1.heap.size w1 wc)
  case first =>
    have hs_ := flatS HC0.out
    refine wp_region_held_drew (S := (fun w' => w'.cell? ⟨w.heap.size, 0, none⟩ = some (.int .i64 px) ∧ w'.cell? ⟨w.heap.size, 1, none⟩ = some (.int .i64 py) ∧ w'.cell? ⟨w.heap.size, 2, none⟩ = some (.int .i64 qx) ∧ w'.cell? ⟨w.heap.size, 3, none⟩ = some (.int .i64 qy) ∧ w'.cell? ⟨w.heap.size, 4, none⟩ = some (.int .i64 rx) ∧ w'.cell? ⟨w.heap.size, 5, none⟩ = some (.int .i64 ry) ∧ w'.cell? ⟨w.heap.size, 6, none⟩ = some (.int .i64 sx) ∧ w'.cell? ⟨w.heap.size, 7, none⟩ = some (.int .i64 sy))) (by kernel_rfl) ?_ (fun hHeld => ?_)
    · (try dsimp only); first | exact hs_ | (simp [go_sem, *]; done)
    clear hs_
    have HBk1 : Hid (Below w1.heap.size w1 w1.drew) := Lib.hid (Below.refl w1.heap.size w1).drew
    have HCk1 : Hid (CBox (w.heap.size) 25 #[.int .i64 px, .int .i64 py, .int .i64 qx, .int .i64 qy, .int .i64 rx, .int .i64 ry, .int .i64 sx, .int .i64 sy] w1.drew) := Lib.hid HC0.out
    generalize w1.drew = dk1 at *
    have hs_ := flatS HCk1.out
    refine wpAnyH_take (i := 0) (oi := flatOp0) (v := ?_) rfl (by kernel_rfl) (by kernel_rfl) (by kernel_rfl) (fun _ _ _ h => h) (Or.inl ⟨by rfl, ?_⟩) (by assumption) ?_
    rotate_left
    · ((try unfold flatOp0); intro w hSw; (try dsimp only at hSw); go_simp; (first | done | with_reducible rfl))
    (try unfold flatOp0)
    (try simp only [Act.put, List.setIfInBounds_toArray, List.set_cons_zero, List.set_cons_succ])
    refine wpAnyH_take (i := 1) (oi := flatOp1) (v := ?_) rfl (by kernel_rfl) (by kernel_rfl) (by kernel_rfl) (fun _ _ _ h => h) (Or.inl ⟨by rfl, ?_⟩) (by assumption) ?_
    rotate_left
    · ((try unfold flatOp1); intro w hSw; (try dsimp only at hSw); go_simp; (first | done | with_reducible rfl))
    (try unfold flatOp1)
    (try simp only [Act.put, List.setIfInBounds_toArray, List.set_cons_zero, List.set_cons_succ])
    refine wpAnyH_take (i := 2) (oi := flatOp2) (v := ?_) rfl (by kernel_rfl) (by kernel_rfl) (by kernel_rfl) (fun _ _ _ h => h) (Or.inl ⟨by rfl, ?_⟩) (by assumption) ?_
    rotate_left
    · ((try unfold flatOp2); intro w hSw; (try dsimp only at hSw); go_simp; (first | done | with_reducible rfl))
    (try unfold flatOp2)
    (try simp only [Act.put, List.setIfInBounds_toArray, List.set_cons_zero, List.set_cons_succ])
    refine wpAnyH_take (i := 3) (oi := flatOp3) (v := ?_) rfl (by kernel_rfl) (by kernel_rfl) (by kernel_rfl) (fun _ _ _ h => h) (Or.inl ⟨by rfl, ?_⟩) (by assumption) ?_
    rotate_left
    · ((try unfold flatOp3); intro w hSw; (try dsimp only at hSw); go_simp; (first | done | with_reducible rfl))
    (try unfold flatOp3)
    (try simp only [Act.put, List.setIfInBounds_toArray, List.set_cons_zero, List.set_cons_succ])
    refine wpAnyH_take (i := 4) (oi := flatOp4) (v := ?_) rfl (by kernel_rfl) (by kernel_rfl) (by kernel_rfl) (fun _ _ _ h => h) (Or.inl ⟨by rfl, ?_⟩) (by assumption) ?_
    rotate_left
    · ((try unfold flatOp4); intro w hSw; (try dsimp only at hSw); go_simp; (first | done | with_reducible rfl))
    (try unfold flatOp4)
    (try simp only [Act.put, List.setIfInBounds_toArray, List.set_cons_zero, List.set_cons_succ])
    refine wpAnyH_take (i := 5) (oi := flatOp5) (v := ?_) rfl (by kernel_rfl) (by kernel_rfl) (by kernel_rfl) (fun _ _ _ h => h) (Or.inl ⟨by rfl, ?_⟩) (by assumption) ?_
    rotate_left
    · ((try unfold flatOp5); intro w hSw; (try dsimp only at hSw); go_simp; (first | done | with_reducible rfl))
    (try unfold flatOp5)
    (try simp only [Act.put, List.setIfInBounds_toArray, List.set_cons_zero, List.set_cons_succ])
    refine wpAnyH_take (i := 7) (oi := flatOp7) (v := ?_) rfl (by kernel_rfl) (by kernel_rfl) (by kernel_rfl) (fun _ _ _ h => h) (Or.inl ⟨by rfl, ?_⟩) (by assumption) ?_
    rotate_left
    · ((try unfold flatOp7); intro w hSw; (try dsimp only at hSw); go_simp; (first | done | with_reducible rfl))
    (try unfold flatOp7)
    (try simp only [Act.put, List.setIfInBounds_toArray, List.set_cons_zero, List.set_cons_succ])
    refine wpAnyH_take (i := 8) (oi := flatOp8) (v := ?_) rfl (by kernel_rfl) (by kernel_rfl) (by kernel_rfl) (fun _ _ _ h => h) (Or.inl ⟨by rfl, ?_⟩) (by assumption) ?_
    rotate_left
    · ((try unfold flatOp8); intro w hSw; (try dsimp only at hSw); go_simp; (first | done | with_reducible rfl))
    (try unfold flatOp8)
    (try simp only [Act.put, List.setIfInBounds_toArray, List.set_cons_zero, List.set_cons_succ])
    refine wpAnyH_take (i := 9) (oi := flatOp9) (v := ?_) rfl (by kernel_rfl) (by kernel_rfl) (by kernel_rfl) (fun _ _ _ h => h) (Or.inl ⟨by rfl, ?_⟩) (by assumption) ?_
    rotate_left
    · ((try unfold flatOp9); intro w hSw; (try dsimp only at hSw); go_simp; (first | done | with_reducible rfl))
    (try unfold flatOp9)
    (try simp only [Act.put, List.setIfInBounds_toArray, List.set_cons_zero, List.set_cons_succ])
    refine wpAnyH_take (i := 10) (oi := flatOp10) (v := ?_) rfl (by kernel_rfl) (by kernel_rfl) (by kernel_rfl) (fun _ _ _ h => h) (Or.inl ⟨by rfl, ?_⟩) (by assumption) ?_
    rotate_left
    · ((try unfold flatOp10); intro w hSw; (try dsimp only at hSw); go_simp; (first | done | with_reducible rfl))
    (try unfold flatOp10)
    (try simp only [Act.put, List.setIfInBounds_toArray, List.set_cons_zero, List.set_cons_succ])
    refine wpAnyH_take (i := 11) (oi := flatOp11) (v := ?_) rfl (by kernel_rfl) (by kernel_rfl) (by kernel_rfl) (fun _ _ _ h => h) (Or.inl ⟨by rfl, ?_⟩) (by assumption) ?_
    rotate_left
    · ((try unfold flatOp11); intro w hSw; (try dsimp only at hSw); go_simp; (first | done | with_reducible rfl))
    (try unfold flatOp11)
    (try simp only [Act.put, List.setIfInBounds_toArray, List.set_cons_zero, List.set_cons_succ])
    refine wpAnyH_take (i := 12) (oi := flatOp12) (v := ?_) rfl (by kernel_rfl) (by kernel_rfl) (by kernel_rfl) (fun _ _ _ h => h) (Or.inl ⟨by rfl, ?_⟩) (by assumption) ?_
    rotate_left
    · ((try unfold flatOp12); intro w hSw; (try dsimp only at hSw); go_simp; (first | done | with_reducible rfl))
    (try unfold flatOp12)
    (try simp only [Act.put, List.setIfInBounds_toArray, List.set_cons_zero, List.set_cons_succ])
    refine wpAnyH_ready (rs := [6, 14, 15]) (by kernel_rfl) (by simp) ?_
    refine AllReadyH.cons (o := flatOp6) rfl (fun K hK => ?_) (AllReadyH.cons (o := flatOp14) rfl (fun K hK => ?_) (AllReadyH.cons (o := flatOp15) rfl (fun K hK => ?_) AllReadyH.nil))
    ·
      (try unfold flatOp6)
      go_simp
      (go_at_call 43; (with_reducible refine (B1.out _).mono ?_); rintro e vk2 ⟨rfl, bq⟩)
      have HBk2 := Lib.hid (HBk1.out.trans (bq.mono HBk1.out.size)); have HCk2 := Lib.hid (HCk1.out.next bq); clear bq
      clear hs_
      have hs_ := flatS HCk2.out
      refine hK.out _ _ (by exact hs_) (fun hHeld => ?_)
      clear hK K; (try simp only [Act.put, List.setIfInBounds_toArray, List.set_cons_zero, List.set_cons_succ])
      refine wpAnyH_ready (rs := [13, 14, 15]) (by kernel_rfl) (by simp) ?_
      refine AllReadyH.cons (o := flatOp13) rfl (fun K hK => ?_) (AllReadyH.cons (o := flatOp14) rfl (fun K hK => ?_) (AllReadyH.cons (o := flatOp15) rfl (fun K hK => ?_) AllReadyH.nil))
      ·
        (try unfold flatOp13)
        go_simp
        (go_at_call 43; (with_reducible refine (B2.out _).mono ?_); rintro e vk3 ⟨rfl, bq⟩)
        have HBk3 := Lib.hid (HBk2.out.trans (bq.mono HBk2.out.size)); have HCk3 := Lib.hid (HCk2.out.next bq); clear bq
        clear hs_
        have hs_ := flatS HCk3.out
        refine hK.out _ _ (by exact hs_) (fun hHeld => ?_)
        clear hK K; (try simp only [Act.put, List.setIfInBounds_toArray, List.set_cons_zero, List.set_cons_succ])
        refine wpAnyH_ready (rs := [14, 15]) (by kernel_rfl) (by simp) ?_
        refine AllReadyH.cons (o := flatOp14) rfl (fun K hK => ?_) (AllReadyH.cons (o := flatOp15) rfl (fun K hK => ?_) AllReadyH.nil)
        ·
          (try unfold flatOp14)
          go_simp
          have bq := (Below.refl vk3.heap.size (vk3)).alloc (Nat.le_refl _) (.cells #[.int .i64 0, .int .i64 0] 23)
          have HBk4 := Lib.hid (HBk3.out.trans (bq.mono HBk3.out.size))
          have HCk4 := Lib.hid (HCk3.out.next bq)
          have HOk4 := Lib.hid (CBox.new (vk3) 23 #[.int .i64 0, .int .i64 0])
          have gO := HBk3.out.size
          have ne_C_O := Nat.ne_of_lt HCk3.out.lt
          have en_C_O := Nat.ne_of_gt HCk3.out.lt
          clear bq
          clear hs_
          clear HBk3 HCk3
          generalize (vk3.alloc (.cells #[.int .i64 0, .int .i64 0] 23)) = vk4 at *
          generalize (vk3).heap.size = qOk4 at *
          have hs_ := flatS HCk4.out
          refine hK.out _ _ (by exact hs_) (fun hHeld => ?_)
          clear hK K; (try simp only [Act.put, List.setIfInBounds_toArray, List.set_cons_zero, List.set_cons_succ])
          refine wpAnyH_ready (rs := [15]) (by kernel_rfl) (by simp) ?_
          refine AllReadyH.cons (o := flatOp15) rfl (fun K hK => ?_) AllReadyH.nil
          (try unfold flatOp15)
          go_simp
          have bq := (Below.refl vk4.heap.size (vk4)).alloc (Nat.le_refl _) (.cells #[.int .i64 0, .int .i64 0] 23)
          have HBk5 := Lib.hid (HBk4.out.trans (bq.mono HBk4.out.size))
          have HCk5 := Lib.hid (HCk4.out.next bq)
          have HOk5 := Lib.hid (HOk4.out.next bq)
          have HNk5 := Lib.hid (CBox.new (vk4) 23 #[.int .i64 0, .int .i64 0])
          have gN := HBk4.out.size
          have ne_C_N := Nat.ne_of_lt HCk4.out.lt
          have en_C_N := Nat.ne_of_gt HCk4.out.lt
          have ne_O_N := Nat.ne_of_lt HOk4.out.lt
          have en_O_N := Nat.ne_of_gt HOk4.out.lt
          clear bq
          clear hs_
          clear HBk4 HCk4 HOk4
          generalize (vk4.alloc (.cells #[.int .i64 0, .int .i64 0] 23)) = vk5 at *
          generalize (vk4).heap.size = qNk5 at *
          have hs_ := flatS HCk5.out
          refine hK.out _ _ (by exact hs_) (fun hHeld => ?_)
          clear hK K; (try simp only [Act.put, List.setIfInBounds_toArray, List.set_cons_zero, List.set_cons_succ])
          refine wpAnyH_ready (rs := [16]) (by kernel_rfl) (by simp) ?_
          refine AllReadyH.cons (o := flatOp16) rfl (fun K hK => ?_) AllReadyH.nil
          (try unfold flatOp16)
          have u0_ : vk5.cell? ⟨qOk4, 0, none⟩ = some (.int .i64 0) := HOk5.out.c 0 rfl
          have r0_ := HOk5.out.z 0
          have u1_ : vk5.cell? ⟨qOk4, 1, none⟩ = some (.int .i64 0) := HOk5.out.c 1 rfl
          have r1_ := HOk5.out.z 1
          go_simp
          clear u0_ r0_ u1_ r1_
          have HBk6 : Hid (Below w1.heap.size w1 ((vk5.setCell ⟨qOk4, 0, none⟩ (.int .i64 u0)).setCell ⟨qOk4, 1, none⟩ (.int .i64 u1))) := Lib.hid (Below.setCell (Below.setCell HBk5.out gO (.int .i64 u0)) gO (.int .i64 u1))
          have HCk6 := Lib.hid (CBox.other (CBox.other HCk5.out (by first | exact ne_C_O | exact en_O_C) 0 (.int .i64 u0)) (by first | exact ne_C_O | exact en_O_C) 1 (.int .i64 u1))
          have HOk6 : Hid (CBox (qOk4) 23 #[.int .i64 u0, .int .i64 u1] ((vk5.setCell ⟨qOk4, 0, none⟩ (.int .i64 u0)).setCell ⟨qOk4, 1, none⟩ (.int .i64 u1))) := Lib.hid (CBox.set (CBox.set HOk5.out 0 (.int .i64 u0) (show (0 : Nat) < 2 by decide)) 1 (.int .i64 u1) (show (1 : Nat) < 2 by decide))
          have HNk6 := Lib.hid (CBox.other (CBox.other HNk5.out (by first | exact ne_N_O | exact en_O_N) 0 (.int .i64 u0)) (by first | exact ne_N_O | exact en_O_N) 1 (.int .i64 u1))
          clear hs_
          generalize ((vk5.setCell ⟨qOk4, 0, none⟩ (.int .i64 u0)).setCell ⟨qOk4, 1, none⟩ (.int .i64 u1)) = vk6 at *
          have hs_ := flatS HCk6.out
          refine hK.out _ _ (by exact hs_) (fun hHeld => ?_)
          clear hK K; (try simp only [Act.put, List.setIfInBounds_toArray, List.set_cons_zero, List.set_cons_succ])
          refine wpAnyH_ready (rs := [17]) (by kernel_rfl) (by simp) ?_
          refine AllReadyH.cons (o := flatOp17) rfl (fun K hK => ?_) AllReadyH.nil
          (try unfold flatOp17)
          have u0_ : vk6.cell? ⟨qNk5, 0, none⟩ = some (.int .i64 0) := HNk6.out.c 0 rfl
          have r0_ := HNk6.out.z 0
          have u1_ : vk6.cell? ⟨qNk5, 1, none⟩ = some (.int .i64 0) := HNk6.out.c 1 rfl
          have r1_ := HNk6.out.z 1
          go_simp
          clear u0_ r0_ u1_ r1_
          have HBk7 : Hid (Below w1.heap.size w1 ((vk6.setCell ⟨qNk5, 0, none⟩ (.int .i64 v0)).setCell ⟨qNk5, 1, none⟩ (.int .i64 v1))) := Lib.hid (Below.setCell (Below.setCell HBk6.out gN (.int .i64 v0)) gN (.int .i64 v1))
          have HCk7 := Lib.hid (CBox.other (CBox.other HCk6.out (by first | exact ne_C_N | exact en_N_C) 0 (.int .i64 v0)) (by first | exact ne_C_N | exact en_N_C) 1 (.int .i64 v1))
          have HOk7 := Lib.hid (CBox.other (CBox.other HOk6.out (by first | exact ne_O_N | exact en_N_O) 0 (.int .i64 v0)) (by first | exact ne_O_N | exact en_N_O) 1 (.int .i64 v1))
          have HNk7 : Hid (CBox (qNk5) 23 #[.int .i64 v0, .int .i64 v1] ((vk6.setCell ⟨qNk5, 0, none⟩ (.int .i64 v0)).setCell ⟨qNk5, 1, none⟩ (.int .i64 v1))) := Lib.hid (CBox.set (CBox.set HNk6.out 0 (.int .i64 v0) (show (0 : Nat) < 2 by decide)) 1 (.int .i64 v1) (show (1 : Nat) < 2 by decide))
          clear hs_
          generalize ((vk6.setCell ⟨qNk5, 0, none⟩ (.int .i64 v0)).setCell ⟨qNk5, 1, none⟩ (.int .i64 v1)) = vk7 at *
          have hs_ := flatS HCk7.out
          refine hK.out _ _ (by exact hs_) (fun hHeld => ?_)
          clear hK K; (try simp only [Act.put, List.setIfInBounds_toArray, List.set_cons_zero, List.set_cons_succ])
          refine wpAnyH_done (by kernel_rfl) ?_ _
          go_wp2_with fail
          go_meet
          exact ⟨_, _, rfl, rfl, HOk7.out, HNk7.out, HBk7.out⟩
        ·
          (try unfold flatOp15)
          go_simp
          have bq := (Below.refl vk3.heap.size (vk3)).alloc (Nat.le_refl _) (.cells #[.int .i64 0, .int .i64 0] 23)
          have HBk8 := Lib.hid (HBk3.out.trans (bq.mono HBk3.out.size))
          have HCk8 := Lib.hid (HCk3.out.next bq)
          have HNk8 := Lib.hid (CBox.new (vk3) 23 #[.int .i64 0, .int .i64 0])
          have gN := HBk3.out.size
          have ne_C_N := Nat.ne_of_lt HCk3.out.lt
          have en_C_N := Nat.ne_of_gt HCk3.out.lt
          clear bq
          clear hs_
          clear HBk3 HCk3
          generalize (vk3.alloc (.cells #[.int .i64 0, .int .i64 0] 23)) = vk8 at *
          generalize (vk3).heap.size = qNk8 at *
          have hs_ := flatS HCk8.out
          refine hK.out _ _ (by exact hs_) (fun hHeld => ?_)
          clear hK K; (try simp only [Act.put, List.setIfInBounds_toArray, List.set_cons_zero, List.set_cons_succ])
          refine wpAnyH_ready (rs := [14]) (by kernel_rfl) (by simp) ?_
          refine AllReadyH.cons (o := flatOp14) rfl (fun K hK => ?_) AllReadyH.nil
          (try unfold flatOp14)
          go_simp
          have bq := (Below.refl vk8.heap.size (vk8)).alloc (Nat.le_refl _) (.cells #[.int .i64 0, .int .i64 0] 23)
          have HBk9 := Lib.hid (HBk8.out.trans (bq.mono HBk8.out.size))
          have HCk9 := Lib.hid (HCk8.out.next bq)
          have HNk9 := Lib.hid (HNk8.out.next bq)
          have HOk9 := Lib.hid (CBox.new (vk8) 23 #[.int .i64 0, .int .i64 0])
          have gO := HBk8.out.size
          have ne_C_O := Nat.ne_of_lt HCk8.out.lt
          have en_C_O := Nat.ne_of_gt HCk8.out.lt
          have ne_N_O := Nat.ne_of_lt HNk8.out.lt
          have en_N_O := Nat.ne_of_gt HNk8.out.lt
          clear bq
          clear hs_
          clear HBk8 HCk8 HNk8
          generalize (vk8.alloc (.cells #[.int .i64 0, .int .i64 0] 23)) = vk9 at *
          generalize (vk8).heap.size = qOk9 at *
          have hs_ := flatS HCk9.out
          refine hK.out _ _ (by exact hs_) (fun hHeld => ?_)
          clear hK K; (try simp only [Act.put, List.setIfInBounds_toArray, List.set_cons_zero, List.set_cons_succ])
          refine wpAnyH_ready (rs := [16]) (by kernel_rfl) (by simp) ?_
          refine AllReadyH.cons (o := flatOp16) rfl (fun K hK => ?_) AllReadyH.nil
          (try unfold flatOp16)
          have u0_ : vk9.cell? ⟨qOk9, 0, none⟩ = some (.int .i64 0) := HOk9.out.c 0 rfl
          have r0_ := HOk9.out.z 0
          have u1_ : vk9.cell? ⟨qOk9, 1, none⟩ = some (.int .i64 0) := HOk9.out.c 1 rfl
          have r1_ := HOk9.out.z 1
          go_simp
          clear u0_ r0_ u1_ r1_
          have HBk10 : Hid (Below w1.heap.size w1 ((vk9.setCell ⟨qOk9, 0, none⟩ (.int .i64 u0)).setCell ⟨qOk9, 1, none⟩ (.int .i64 u1))) := Lib.hid (Below.setCell (Below.setCell HBk9.out gO (.int .i64 u0)) gO (.int .i64 u1))
          have HCk10 := Lib.hid (CBox.other (CBox.other HCk9.out (by first | exact ne_C_O | exact en_O_C) 0 (.int .i64 u0)) (by first | exact ne_C_O | exact en_O_C) 1 (.int .i64 u1))
          have HNk10 := Lib.hid (CBox.other (CBox.other HNk9.out (by first | exact ne_N_O | exact en_O_N) 0 (.int .i64 u0)) (by first | exact ne_N_O | exact en_O_N) 1 (.int .i64 u1))
          have HOk10 : Hid (CBox (qOk9) 23 #[.int .i64 u0, .int .i64 u1] ((vk9.setCell ⟨qOk9, 0, none⟩ (.int .i64 u0)).setCell ⟨qOk9, 1, none⟩ (.int .i64 u1))) := Lib.hid (CBox.set (CBox.set HOk9.out 0 (.int .i64 u0) (show (0 : Nat) < 2 by decide)) 1 (.int .i64 u1) (show (1 : Nat) < 2 by decide))
          clear hs_
          generalize ((vk9.setCell ⟨qOk9, 0, none⟩ (.int .i64 u0)).setCell ⟨qOk9, 1, none⟩ (.int .i64 u1)) = vk10 at *
          have hs_ := flatS HCk10.out
          refine hK.out _ _ (by exact hs_) (fun hHeld => ?_)
          clear hK K; (try simp only [Act.put, List.setIfInBounds_toArray, List.set_cons_zero, List.set_cons_succ])
          refine wpAnyH_ready (rs := [17]) (by kernel_rfl) (by simp) ?_
          refine AllReadyH.cons (o := flatOp17) rfl (fun K hK => ?_) AllReadyH.nil
          (try unfold flatOp17)
          have u0_ : vk10.cell? ⟨qNk8, 0, none⟩ = some (.int .i64 0) := HNk10.out.c 0 rfl
          have r0_ := HNk10.out.z 0
          have u1_ : vk10.cell? ⟨qNk8, 1, none⟩ = some (.int .i64 0) := HNk10.out.c 1 rfl
          have r1_ := HNk10.out.z 1
          go_simp
          clear u0_ r0_ u1_ r1_
          have HBk11 : Hid (Below w1.heap.size w1 ((vk10.setCell ⟨qNk8, 0, none⟩ (.int .i64 v0)).setCell ⟨qNk8, 1, none⟩ (.int .i64 v1))) := Lib.hid (Below.setCell (Below.setCell HBk10.out gN (.int .i64 v0)) gN (.int .i64 v1))
          have HCk11 := Lib.hid (CBox.other (CBox.other HCk10.out (by first | exact ne_C_N | exact en_N_C) 0 (.int .i64 v0)) (by first | exact ne_C_N | exact en_N_C) 1 (.int .i64 v1))
          have HNk11 : Hid (CBox (qNk8) 23 #[.int .i64 v0, .int .i64 v1] ((vk10.setCell ⟨qNk8, 0, none⟩ (.int .i64 v0)).setCell ⟨qNk8, 1, none⟩ (.int .i64 v1))) := Lib.hid (CBox.set (CBox.set HNk10.out 0 (.int .i64 v0) (show (0 : Nat) < 2 by decide)) 1 (.int .i64 v1) (show (1 : Nat) < 2 by decide))
          have HOk11 := Lib.hid (CBox.other (CBox.other HOk10.out (by first | exact ne_O_N | exact en_N_O) 0 (.int .i64 v0)) (by first | exact ne_O_N | exact en_N_O) 1 (.int .i64 v1))
          clear hs_
          generalize ((vk10.setCell ⟨qNk8, 0, none⟩ (.int .i64 v0)).setCell ⟨qNk8, 1, none⟩ (.int .i64 v1)) = vk11 at *
          have hs_ := flatS HCk11.out
          refine hK.out _ _ (by exact hs_) (fun hHeld => ?_)
          clear hK K; (try simp only [Act.put, List.setIfInBounds_toArray, List.set_cons_zero, List.set_cons_succ])
          refine wpAnyH_done (by kernel_rfl) ?_ _
          go_wp2_with fail
          go_meet
          exact ⟨_, _, rfl, rfl, HOk11.out, HNk11.out, HBk11.out⟩
      ·
        (try unfold flatOp14)
        go_simp
        have bq := (Below.refl vk2.heap.size (vk2)).alloc (Nat.le_refl _) (.cells #[.int .i64 0, .int .i64 0] 23)
        have HBk12 := Lib.hid (HBk2.out.trans (bq.mono HBk2.out.size))
        have HCk12 := Lib.hid (HCk2.out.next bq)
        have HOk12 := Lib.hid (CBox.new (vk2) 23 #[.int .i64 0, .int .i64 0])
        have gO := HBk2.out.size
        have ne_C_O := Nat.ne_of_lt HCk2.out.lt
        have en_C_O := Nat.ne_of_gt HCk2.out.lt
        clear bq
        clear hs_
        clear HBk2 HCk2
        generalize (vk2.alloc (.cells #[.int .i64 0, .int .i64 0] 23)) = vk12 at *
        generalize (vk2).heap.size = qOk12 at *
        have hs_ := flatS HCk12.out
        refine hK.out _ _ (by exact hs_) (fun hHeld => ?_)
        clear hK K; (try simp only [Act.put, List.setIfInBounds_toArray, List.set_cons_zero, List.set_cons_succ])
        refine wpAnyH_ready (rs := [13, 15]) (by kernel_rfl) (by simp) ?_
        refine AllReadyH.cons (o := flatOp13) rfl (fun K hK => ?_) (AllReadyH.cons (o := flatOp15) rfl (fun K hK => ?_) AllReadyH.nil)
        ·
          (try unfold flatOp13)
          go_simp
          (go_at_call 43; (with_reducible refine (B2.out _).mono ?_); rintro e vk13 ⟨rfl, bq⟩)
          have HBk13 := Lib.hid (HBk12.out.trans (bq.mono HBk12.out.size)); have HCk13 := Lib.hid (HCk12.out.next bq); have HOk13 := Lib.hid (HOk12.out.next bq); clear bq
          clear hs_
          have hs_ := flatS HCk13.out
          refine hK.out _ _ (by exact hs_) (fun hHeld => ?_)
          clear hK K; (try simp only [Act.put, List.setIfInBounds_toArray, List.set_cons_zero, List.set_cons_succ])
          refine wpAnyH_ready (rs := [15]) (by kernel_rfl) (by simp) ?_
          refine AllReadyH.cons (o := flatOp15) rfl (fun K hK => ?_) AllReadyH.nil
          (try unfold flatOp15)
          go_simp
          have bq := (Below.refl vk13.heap.size (vk13)).alloc (Nat.le_refl _) (.cells #[.int .i64 0, .int .i64 0] 23)
          have HBk14 := Lib.hid (HBk13.out.trans (bq.mono HBk13.out.size))
          have HCk14 := Lib.hid (HCk13.out.next bq)
          have HOk14 := Lib.hid (HOk13.out.next bq)
          have HNk14 := Lib.hid (CBox.new (vk13) 23 #[.int .i64 0, .int .i64 0])
          have gN := HBk13.out.size
          have ne_C_N := Nat.ne_of_lt HCk13.out.lt
          have en_C_N := Nat.ne_of_gt HCk13.out.lt
          have ne_O_N := Nat.ne_of_lt HOk13.out.lt
          have en_O_N := Nat.ne_of_gt HOk13.out.lt
          clear bq
          clear hs_
          clear HBk13 HCk13 HOk13
          generalize (vk13.alloc (.cells #[.int .i64 0, .int .i64 0] 23)) = vk14 at *
          generalize (vk13).heap.size = qNk14 at *
          have hs_ := flatS HCk14.out
          refine hK.out _ _ (by exact hs_) (fun hHeld => ?_)
          clear hK K; (try simp only [Act.put, List.setIfInBounds_toArray, List.set_cons_zero, List.set_cons_succ])
          refine wpAnyH_ready (rs := [16]) (by kernel_rfl) (by simp) ?_
          refine AllReadyH.cons (o := flatOp16) rfl (fun K hK => ?_) AllReadyH.nil
          (try unfold flatOp16)
          have u0_ : vk14.cell? ⟨qOk12, 0, none⟩ = some (.int .i64 0) := HOk14.out.c 0 rfl
          have r0_ := HOk14.out.z 0
          have u1_ : vk14.cell? ⟨qOk12, 1, none⟩ = some (.int .i64 0) := HOk14.out.c 1 rfl
          have r1_ := HOk14.out.z 1
          go_simp
          clear u0_ r0_ u1_ r1_
          have HBk15 : Hid (Below w1.heap.size w1 ((vk14.setCell ⟨qOk12, 0, none⟩ (.int .i64 u0)).setCell ⟨qOk12, 1, none⟩ (.int .i64 u1))) := Lib.hid (Below.setCell (Below.setCell HBk14.out gO (.int .i64 u0)) gO (.int .i64 u1))
          have HCk15 := Lib.hid (CBox.other (CBox.other HCk14.out (by first | exact ne_C_O | exact en_O_C) 0 (.int .i64 u0)) (by first | exact ne_C_O | exact en_O_C) 1 (.int .i64 u1))
          have HOk15 : Hid (CBox (qOk12) 23 #[.int .i64 u0, .int .i64 u1] ((vk14.setCell ⟨qOk12, 0, none⟩ (.int .i64 u0)).setCell ⟨qOk12, 1, none⟩ (.int .i64 u1))) := Lib.hid (CBox.set (CBox.set HOk14.out 0 (.int .i64 u0) (show (0 : Nat) < 2 by decide)) 1 (.int .i64 u1) (show (1 : Nat) < 2 by decide))
          have HNk15 := Lib.hid (CBox.other (CBox.other HNk14.out (by first | exact ne_N_O | exact en_O_N) 0 (.int .i64 u0)) (by first | exact ne_N_O | exact en_O_N) 1 (.int .i64 u1))
          clear hs_
          generalize ((vk14.setCell ⟨qOk12, 0, none⟩ (.int .i64 u0)).setCell ⟨qOk12, 1, none⟩ (.int .i64 u1)) = vk15 at *
          have hs_ := flatS HCk15.out
          refine hK.out _ _ (by exact hs_) (fun hHeld => ?_)
          clear hK K; (try simp only [Act.put, List.setIfInBounds_toArray, List.set_cons_zero, List.set_cons_succ])
          refine wpAnyH_ready (rs := [17]) (by kernel_rfl) (by simp) ?_
          refine AllReadyH.cons (o := flatOp17) rfl (fun K hK => ?_) AllReadyH.nil
          (try unfold flatOp17)
          have u0_ : vk15.cell? ⟨qNk14, 0, none⟩ = some (.int .i64 0) := HNk15.out.c 0 rfl
          have r0_ := HNk15.out.z 0
          have u1_ : vk15.cell? ⟨qNk14, 1, none⟩ = some (.int .i64 0) := HNk15.out.c 1 rfl
          have r1_ := HNk15.out.z 1
          go_simp
          clear u0_ r0_ u1_ r1_
          have HBk16 : Hid (Below w1.heap.size w1 ((vk15.setCell ⟨qNk14, 0, none⟩ (.int .i64 v0)).setCell ⟨qNk14, 1, none⟩ (.int .i64 v1))) := Lib.hid (Below.setCell (Below.setCell HBk15.out gN (.int .i64 v0)) gN (.int .i64 v1))
          have HCk16 := Lib.hid (CBox.other (CBox.other HCk15.out (by first | exact ne_C_N | exact en_N_C) 0 (.int .i64 v0)) (by first | exact ne_C_N | exact en_N_C) 1 (.int .i64 v1))
          have HOk16 := Lib.hid (CBox.other (CBox.other HOk15.out (by first | exact ne_O_N | exact en_N_O) 0 (.int .i64 v0)) (by first | exact ne_O_N | exact en_N_O) 1 (.int .i64 v1))
          have HNk16 : Hid (CBox (qNk14) 23 #[.int .i64 v0, .int .i64 v1] ((vk15.setCell ⟨qNk14, 0, none⟩ (.int .i64 v0)).setCell ⟨qNk14, 1, none⟩ (.int .i64 v1))) := Lib.hid (CBox.set (CBox.set HNk15.out 0 (.int .i64 v0) (show (0 : Nat) < 2 by decide)) 1 (.int .i64 v1) (show (1 : Nat) < 2 by decide))
          clear hs_
          generalize ((vk15.setCell ⟨qNk14, 0, none⟩ (.int .i64 v0)).setCell ⟨qNk14, 1, none⟩ (.int .i64 v1)) = vk16 at *
          have hs_ := flatS HCk16.out
          refine hK.out _ _ (by exact hs_) (fun hHeld => ?_)
          clear hK K; (try simp only [Act.put, List.setIfInBounds_toArray, List.set_cons_zero, List.set_cons_succ])
          refine wpAnyH_done (by kernel_rfl) ?_ _
          go_wp2_with fail
          go_meet
          exact ⟨_, _, rfl, rfl, HOk16.out, HNk16.out, HBk16.out⟩
        ·
          (try unfold flatOp15)
          go_simp
          have bq := (Below.refl vk12.heap.size (vk12)).alloc (Nat.le_refl _) (.cells #[.int .i64 0, .int .i64 0] 23)
          have HBk17 := Lib.hid (HBk12.out.trans (bq.mono HBk12.out.size))
          have HCk17 := Lib.hid (HCk12.out.next bq)
          have HOk17 := Lib.hid (HOk12.out.next bq)
          have HNk17 := Lib.hid (CBox.new (vk12) 23 #[.int .i64 0, .int .i64 0])
          have gN := HBk12.out.size
          have ne_C_N := Nat.ne_of_lt HCk12.out.lt
          have en_C_N := Nat.ne_of_gt HCk12.out.lt
          have ne_O_N := Nat.ne_of_lt HOk12.out.lt
          have en_O_N := Nat.ne_of_gt HOk12.out.lt
          clear bq
          clear hs_
          clear HBk12 HCk12 HOk12
          generalize (vk12.alloc (.cells #[.int .i64 0, .int .i64 0] 23)) = vk17 at *
          generalize (vk12).heap.size = qNk17 at *
          have hs_ := flatS HCk17.out
          refine hK.out _ _ (by exact hs_) (fun hHeld => ?_)
          clear hK K; (try simp only [Act.put, List.setIfInBounds_toArray, List.set_cons_zero, List.set_cons_succ])
          refine wpAnyH_ready (rs := [13]) (by kernel_rfl) (by simp) ?_
          refine AllReadyH.cons (o := flatOp13) rfl (fun K hK => ?_) AllReadyH.nil
          (try unfold flatOp13)
          go_simp
          (go_at_call 43; (with_reducible refine (B2.out _).mono ?_); rintro e vk18 ⟨rfl, bq⟩)
          have HBk18 := Lib.hid (HBk17.out.trans (bq.mono HBk17.out.size)); have HCk18 := Lib.hid (HCk17.out.next bq); have HOk18 := Lib.hid (HOk17.out.next bq); have HNk18 := Lib.hid (HNk17.out.next bq); clear bq
          clear hs_
          have hs_ := flatS HCk18.out
          refine hK.out _ _ (by exact hs_) (fun hHeld => ?_)
          clear hK K; (try simp only [Act.put, List.setIfInBounds_toArray, List.set_cons_zero, List.set_cons_succ])
          refine wpAnyH_ready (rs := [16]) (by kernel_rfl) (by simp) ?_
          refine AllReadyH.cons (o := flatOp16) rfl (fun K hK => ?_) AllReadyH.nil
          (try unfold flatOp16)
          have u0_ : vk18.cell? ⟨qOk12, 0, none⟩ = some (.int .i64 0) := HOk18.out.c 0 rfl
          have r0_ := HOk18.out.z 0
          have u1_ : vk18.cell? ⟨qOk12, 1, none⟩ = some (.int .i64 0) := HOk18.out.c 1 rfl
          have r1_ := HOk18.out.z 1
          go_simp
          clear u0_ r0_ u1_ r1_
          have HBk19 : Hid (Below w1.heap.size w1 ((vk18.setCell ⟨qOk12, 0, none⟩ (.int .i64 u0)).setCell ⟨qOk12, 1, none⟩ (.int .i64 u1))) := Lib.hid (Below.setCell (Below.setCell HBk18.out gO (.int .i64 u0)) gO (.int .i64 u1))
          have HCk19 := Lib.hid (CBox.other (CBox.other HCk18.out (by first | exact ne_C_O | exact en_O_C) 0 (.int .i64 u0)) (by first | exact ne_C_O | exact en_O_C) 1 (.int .i64 u1))
          have HOk19 : Hid (CBox (qOk12) 23 #[.int .i64 u0, .int .i64 u1] ((vk18.setCell ⟨qOk12, 0, none⟩ (.int .i64 u0)).setCell ⟨qOk12, 1, none⟩ (.int .i64 u1))) := Lib.hid (CBox.set (CBox.set HOk18.out 0 (.int .i64 u0) (show (0 : Nat) < 2 by decide)) 1 (.int .i64 u1) (show (1 : Nat) < 2 by decide))
          have HNk19 := Lib.hid (CBox.other (CBox.other HNk18.out (by first | exact ne_N_O | exact en_O_N) 0 (.int .i64 u0)) (by first | exact ne_N_O | exact en_O_N) 1 (.int .i64 u1))
          clear hs_
          generalize ((vk18.setCell ⟨qOk12, 0, none⟩ (.int .i64 u0)).setCell ⟨qOk12, 1, none⟩ (.int .i64 u1)) = vk19 at *
          have hs_ := flatS HCk19.out
          refine hK.out _ _ (by exact hs_) (fun hHeld => ?_)
          clear hK K; (try simp only [Act.put, List.setIfInBounds_toArray, List.set_cons_zero, List.set_cons_succ])
          refine wpAnyH_ready (rs := [17]) (by kernel_rfl) (by simp) ?_
          refine AllReadyH.cons (o := flatOp17) rfl (fun K hK => ?_) AllReadyH.nil
          (try unfold flatOp17)
          have u0_ : vk19.cell? ⟨qNk17, 0, none⟩ = some (.int .i64 0) := HNk19.out.c 0 rfl
          have r0_ := HNk19.out.z 0
          have u1_ : vk19.cell? ⟨qNk17, 1, none⟩ = some (.int .i64 0) := HNk19.out.c 1 rfl
          have r1_ := HNk19.out.z 1
          go_simp
          clear u0_ r0_ u1_ r1_
          have HBk20 : Hid (Below w1.heap.size w1 ((vk19.setCell ⟨qNk17, 0, none⟩ (.int .i64 v0)).setCell ⟨qNk17, 1, none⟩ (.int .i64 v1))) := Lib.hid (Below.setCell (Below.setCell HBk19.out gN (.int .i64 v0)) gN (.int .i64 v1))
          have HCk20 := Lib.hid (CBox.other (CBox.other HCk19.out (by first | exact ne_C_N | exact en_N_C) 0 (.int .i64 v0)) (by first | exact ne_C_N | exact en_N_C) 1 (.int .i64 v1))
          have HOk20 := Lib.hid (CBox.other (CBox.other HOk19.out (by first | exact ne_O_N | exact en_N_O) 0 (.int .i64 v0)) (by first | exact ne_O_N | exact en_N_O) 1 (.int .i64 v1))
          have HNk20 : Hid (CBox (qNk17) 23 #[.int .i64 v0, .int .i64 v1] ((vk19.setCell ⟨qNk17, 0, none⟩ (.int .i64 v0)).setCell ⟨qNk17, 1, none⟩ (.int .i64 v1))) := Lib.hid (CBox.set (CBox.set HNk19.out 0 (.int .i64 v0) (show (0 : Nat) < 2 by decide)) 1 (.int .i64 v1) (show (1 : Nat) < 2 by decide))
          clear hs_
          generalize ((vk19.setCell ⟨qNk17, 0, none⟩ (.int .i64 v0)).setCell ⟨qNk17, 1, none⟩ (.int .i64 v1)) = vk20 at *
          have hs_ := flatS HCk20.out
          refine hK.out _ _ (by exact hs_) (fun hHeld => ?_)
          clear hK K; (try simp only [Act.put, List.setIfInBounds_toArray, List.set_cons_zero, List.set_cons_succ])
          refine wpAnyH_done (by kernel_rfl) ?_ _
          go_wp2_with fail
          go_meet
          exact ⟨_, _, rfl, rfl, HOk20.out, HNk20.out, HBk20.out⟩
      ·
        (try unfold flatOp15)
        go_simp
        have bq := (Below.refl vk2.heap.size (vk2)).alloc (Nat.le_refl _) (.cells #[.int .i64 0, .int .i64 0] 23)
        have HBk21 := Lib.hid (HBk2.out.trans (bq.mono HBk2.out.size))
        have HCk21 := Lib.hid (HCk2.out.next bq)
        have HNk21 := Lib.hid (CBox.new (vk2) 23 #[.int .i64 0, .int .i64 0])
        have gN := HBk2.out.size
        have ne_C_N := Nat.ne_of_lt HCk2.out.lt
        have en_C_N := Nat.ne_of_gt HCk2.out.lt
        clear bq
        clear hs_
        clear HBk2 HCk2
        generalize (vk2.alloc (.cells #[.int .i64 0, .int .i64 0] 23)) = vk21 at *
        generalize (vk2).heap.size = qNk21 at *
        have hs_ := flatS HCk21.out
        refine hK.out _ _ (by exact hs_) (fun hHeld => ?_)
        clear hK K; (try simp only [Act.put, List.setIfInBounds_toArray, List.set_cons_zero, List.set_cons_succ])
        refine wpAnyH_ready (rs := [13, 14]) (by kernel_rfl) (by simp) ?_
        refine AllReadyH.cons (o := flatOp13) rfl (fun K hK => ?_) (AllReadyH.cons (o := flatOp14) rfl (fun K hK => ?_) AllReadyH.nil)
        ·
          (try unfold flatOp13)
          go_simp
          (go_at_call 43; (with_reducible refine (B2.out _).mono ?_); rintro e vk22 ⟨rfl, bq⟩)
          have HBk22 := Lib.hid (HBk21.out.trans (bq.mono HBk21.out.size)); have HCk22 := Lib.hid (HCk21.out.next bq); have HNk22 := Lib.hid (HNk21.out.next bq); clear bq
          clear hs_
          have hs_ := flatS HCk22.out
          refine hK.out _ _ (by exact hs_) (fun hHeld => ?_)
          clear hK K; (try simp only [Act.put, List.setIfInBounds_toArray, List.set_cons_zero, List.set_cons_succ])
          refine wpAnyH_ready (rs := [14]) (by kernel_rfl) (by simp) ?_
          refine AllReadyH.cons (o := flatOp14) rfl (fun K hK => ?_) AllReadyH.nil
          (try unfold flatOp14)
          go_simp
          have bq := (Below.refl vk22.heap.size (vk22)).alloc (Nat.le_refl _) (.cells #[.int .i64 0, .int .i64 0] 23)
          have HBk23 := Lib.hid (HBk22.out.trans (bq.mono HBk22.out.size))
          have HCk23 := Lib.hid (HCk22.out.next bq)
          have HNk23 := Lib.hid (HNk22.out.next bq)
          have HOk23 := Lib.hid (CBox.new (vk22) 23 #[.int .i64 0, .int .i64 0])
          have gO := HBk22.out.size
          have ne_C_O := Nat.ne_of_lt HCk22.out.lt
          have en_C_O := Nat.ne_of_gt HCk22.out.lt
          have ne_N_O := Nat.ne_of_lt HNk22.out.lt
          have en_N_O := Nat.ne_of_gt HNk22.out.lt
          clear bq
          clear hs_
          clear HBk22 HCk22 HNk22
          generalize (vk22.alloc (.cells #[.int .i64 0, .int .i64 0] 23)) = vk23 at *
          generalize (vk22).heap.size = qOk23 at *
          have hs_ := flatS HCk23.out
          refine hK.out _ _ (by exact hs_) (fun hHeld => ?_)
          clear hK K; (try simp only [Act.put, List.setIfInBounds_toArray, List.set_cons_zero, List.set_cons_succ])
          refine wpAnyH_ready (rs := [16]) (by kernel_rfl) (by simp) ?_
          refine AllReadyH.cons (o := flatOp16) rfl (fun K hK => ?_) AllReadyH.nil
          (try unfold flatOp16)
          have u0_ : vk23.cell? ⟨qOk23, 0, none⟩ = some (.int .i64 0) := HOk23.out.c 0 rfl
          have r0_ := HOk23.out.z 0
          have u1_ : vk23.cell? ⟨qOk23, 1, none⟩ = some (.int .i64 0) := HOk23.out.c 1 rfl
          have r1_ := HOk23.out.z 1
          go_simp
          clear u0_ r0_ u1_ r1_
          have HBk24 : Hid (Below w1.heap.size w1 ((vk23.setCell ⟨qOk23, 0, none⟩ (.int .i64 u0)).setCell ⟨qOk23, 1, none⟩ (.int .i64 u1))) := Lib.hid (Below.setCell (Below.setCell HBk23.out gO (.int .i64 u0)) gO (.int .i64 u1))
          have HCk24 := Lib.hid (CBox.other (CBox.other HCk23.out (by first | exact ne_C_O | exact en_O_C) 0 (.int .i64 u0)) (by first | exact ne_C_O | exact en_O_C) 1 (.int .i64 u1))
          have HNk24 := Lib.hid (CBox.other (CBox.other HNk23.out (by first | exact ne_N_O | exact en_O_N) 0 (.int .i64 u0)) (by first | exact ne_N_O | exact en_O_N) 1 (.int .i64 u1))
          have HOk24 : Hid (CBox (qOk23) 23 #[.int .i64 u0, .int .i64 u1] ((vk23.setCell ⟨qOk23, 0, none⟩ (.int .i64 u0)).setCell ⟨qOk23, 1, none⟩ (.int .i64 u1))) := Lib.hid (CBox.set (CBox.set HOk23.out 0 (.int .i64 u0) (show (0 : Nat) < 2 by decide)) 1 (.int .i64 u1) (show (1 : Nat) < 2 by decide))
          clear hs_
          generalize ((vk23.setCell ⟨qOk23, 0, none⟩ (.int .i64 u0)).setCell ⟨qOk23, 1, none⟩ (.int .i64 u1)) = vk24 at *
          have hs_ := flatS HCk24.out
          refine hK.out _ _ (by exact hs_) (fun hHeld => ?_)
          clear hK K; (try simp only [Act.put, List.setIfInBounds_toArray, List.set_cons_zero, List.set_cons_succ])
          refine wpAnyH_ready (rs := [17]) (by kernel_rfl) (by simp) ?_
          refine AllReadyH.cons (o := flatOp17) rfl (fun K hK => ?_) AllReadyH.nil
          (try unfold flatOp17)
          have u0_ : vk24.cell? ⟨qNk21, 0, none⟩ = some (.int .i64 0) := HNk24.out.c 0 rfl
          have r0_ := HNk24.out.z 0
          have u1_ : vk24.cell? ⟨qNk21, 1, none⟩ = some (.int .i64 0) := HNk24.out.c 1 rfl
          have r1_ := HNk24.out.z 1
          go_simp
          clear u0_ r0_ u1_ r1_
          have HBk25 : Hid (Below w1.heap.size w1 ((vk24.setCell ⟨qNk21, 0, none⟩ (.int .i64 v0)).setCell ⟨qNk21, 1, none⟩ (.int .i64 v1))) := Lib.hid (Below.setCell (Below.setCell HBk24.out gN (.int .i64 v0)) gN (.int .i64 v1))
          have HCk25 := Lib.hid (CBox.other (CBox.other HCk24.out (by first | exact ne_C_N | exact en_N_C) 0 (.int .i64 v0)) (by first | exact ne_C_N | exact en_N_C) 1 (.int .i64 v1))
          have HNk25 : Hid (CBox (qNk21) 23 #[.int .i64 v0, .int .i64 v1] ((vk24.setCell ⟨qNk21, 0, none⟩ (.int .i64 v0)).setCell ⟨qNk21, 1, none⟩ (.int .i64 v1))) := Lib.hid (CBox.set (CBox.set HNk24.out 0 (.int .i64 v0) (show (0 : Nat) < 2 by decide)) 1 (.int .i64 v1) (show (1 : Nat) < 2 by decide))
          have HOk25 := Lib.hid (CBox.other (CBox.other HOk24.out (by first | exact ne_O_N | exact en_N_O) 0 (.int .i64 v0)) (by first | exact ne_O_N | exact en_N_O) 1 (.int .i64 v1))
          clear hs_
          generalize ((vk24.setCell ⟨qNk21, 0, none⟩ (.int .i64 v0)).setCell ⟨qNk21, 1, none⟩ (.int .i64 v1)) = vk25 at *
          have hs_ := flatS HCk25.out
          refine hK.out _ _ (by exact hs_) (fun hHeld => ?_)
          clear hK K; (try simp only [Act.put, List.setIfInBounds_toArray, List.set_cons_zero, List.set_cons_succ])
          refine wpAnyH_done (by kernel_rfl) ?_ _
          go_wp2_with fail
          go_meet
          exact ⟨_, _, rfl, rfl, HOk25.out, HNk25.out, HBk25.out⟩
        ·
          (try unfold flatOp14)
          go_simp
          have bq := (Below.refl vk21.heap.size (vk21)).alloc (Nat.le_refl _) (.cells #[.int .i64 0, .int .i64 0] 23)
          have HBk26 := Lib.hid (HBk21.out.trans (bq.mono HBk21.out.size))
          have HCk26 := Lib.hid (HCk21.out.next bq)
          have HNk26 := Lib.hid (HNk21.out.next bq)
          have HOk26 := Lib.hid (CBox.new (vk21) 23 #[.int .i64 0, .int .i64 0])
          have gO := HBk21.out.size
          have ne_C_O := Nat.ne_of_lt HCk21.out.lt
          have en_C_O := Nat.ne_of_gt HCk21.out.lt
          have ne_N_O := Nat.ne_of_lt HNk21.out.lt
          have en_N_O := Nat.ne_of_gt HNk21.out.lt
          clear bq
          clear hs_
          clear HBk21 HCk21 HNk21
          generalize (vk21.alloc (.cells #[.int .i64 0, .int .i64 0] 23)) = vk26 at *
          generalize (vk21).heap.size = qOk26 at *
          have hs_ := flatS HCk26.out
          refine hK.out _ _ (by exact hs_) (fun hHeld => ?_)
          clear hK K; (try simp only [Act.put, List.setIfInBounds_toArray, List.set_cons_zero, List.set_cons_succ])
          refine wpAnyH_ready (rs := [13]) (by kernel_rfl) (by simp) ?_
          refine AllReadyH.cons (o := flatOp13) rfl (fun K hK => ?_) AllReadyH.nil
          (try unfold flatOp13)
          go_simp
          (go_at_call 43; (with_reducible refine (B2.out _).mono ?_); rintro e vk27 ⟨rfl, bq⟩)
          have HBk27 := Lib.hid (HBk26.out.trans (bq.mono HBk26.out.size)); have HCk27 := Lib.hid (HCk26.out.next bq); have HNk27 := Lib.hid (HNk26.out.next bq); have HOk27 := Lib.hid (HOk26.out.next bq); clear bq
          clear hs_
          have hs_ := flatS HCk27.out
          refine hK.out _ _ (by exact hs_) (fun hHeld => ?_)
          clear hK K; (try simp only [Act.put, List.setIfInBounds_toArray, List.set_cons_zero, List.set_cons_succ])
          refine wpAnyH_ready (rs := [16]) (by kernel_rfl) (by simp) ?_
          refine AllReadyH.cons (o := flatOp16) rfl (fun K hK => ?_) AllReadyH.nil
          (try unfold flatOp16)
          have u0_ : vk27.cell? ⟨qOk26, 0, none⟩ = some (.int .i64 0) := HOk27.out.c 0 rfl
          have r0_ := HOk27.out.z 0
          have u1_ : vk27.cell? ⟨qOk26, 1, none⟩ = some (.int .i64 0) := HOk27.out.c 1 rfl
          have r1_ := HOk27.out.z 1
          go_simp
          clear u0_ r0_ u1_ r1_
          have HBk28 : Hid (Below w1.heap.size w1 ((vk27.setCell ⟨qOk26, 0, none⟩ (.int .i64 u0)).setCell ⟨qOk26, 1, none⟩ (.int .i64 u1))) := Lib.hid (Below.setCell (Below.setCell HBk27.out gO (.int .i64 u0)) gO (.int .i64 u1))
          have HCk28 := Lib.hid (CBox.other (CBox.other HCk27.out (by first | exact ne_C_O | exact en_O_C) 0 (.int .i64 u0)) (by first | exact ne_C_O | exact en_O_C) 1 (.int .i64 u1))
          have HNk28 := Lib.hid (CBox.other (CBox.other HNk27.out (by first | exact ne_N_O | exact en_O_N) 0 (.int .i64 u0)) (by first | exact ne_N_O | exact en_O_N) 1 (.int .i64 u1))
          have HOk28 : Hid (CBox (qOk26) 23 #[.int .i64 u0, .int .i64 u1] ((vk27.setCell ⟨qOk26, 0, none⟩ (.int .i64 u0)).setCell ⟨qOk26, 1, none⟩ (.int .i64 u1))) := Lib.hid (CBox.set (CBox.set HOk27.out 0 (.int .i64 u0) (show (0 : Nat) < 2 by decide)) 1 (.int .i64 u1) (show (1 : Nat) < 2 by decide))
          clear hs_
          generalize ((vk27.setCell ⟨qOk26, 0, none⟩ (.int .i64 u0)).setCell ⟨qOk26, 1, none⟩ (.int .i64 u1)) = vk28 at *
          have hs_ := flatS HCk28.out
          refine hK.out _ _ (by exact hs_) (fun hHeld => ?_)
          clear hK K; (try simp only [Act.put, List.setIfInBounds_toArray, List.set_cons_zero, List.set_cons_succ])
          refine wpAnyH_ready (rs := [17]) (by kernel_rfl) (by simp) ?_
          refine AllReadyH.cons (o := flatOp17) rfl (fun K hK => ?_) AllReadyH.nil
          (try unfold flatOp17)
          have u0_ : vk28.cell? ⟨qNk21, 0, none⟩ = some (.int .i64 0) := HNk28.out.c 0 rfl
          have r0_ := HNk28.out.z 0
          have u1_ : vk28.cell? ⟨qNk21, 1, none⟩ = some (.int .i64 0) := HNk28.out.c 1 rfl
          have r1_ := HNk28.out.z 1
          go_simp
          clear u0_ r0_ u1_ r1_
          have HBk29 : Hid (Below w1.heap.size w1 ((vk28.setCell ⟨qNk21, 0, none⟩ (.int .i64 v0)).setCell ⟨qNk21, 1, none⟩ (.int .i64 v1))) := Lib.hid (Below.setCell (Below.setCell HBk28.out gN (.int .i64 v0)) gN (.int .i64 v1))
          have HCk29 := Lib.hid (CBox.other (CBox.other HCk28.out (by first | exact ne_C_N | exact en_N_C) 0 (.int .i64 v0)) (by first | exact ne_C_N | exact en_N_C) 1 (.int .i64 v1))
          have HNk29 : Hid (CBox (qNk21) 23 #[.int .i64 v0, .int .i64 v1] ((vk28.setCell ⟨qNk21, 0, none⟩ (.int .i64 v0)).setCell ⟨qNk21, 1, none⟩ (.int .i64 v1))) := Lib.hid (CBox.set (CBox.set HNk28.out 0 (.int .i64 v0) (show (0 : Nat) < 2 by decide)) 1 (.int .i64 v1) (show (1 : Nat) < 2 by decide))
          have HOk29 := Lib.hid (CBox.other (CBox.other HOk28.out (by first | exact ne_O_N | exact en_N_O) 0 (.int .i64 v0)) (by first | exact ne_O_N | exact en_N_O) 1 (.int .i64 v1))
          clear hs_
          generalize ((vk28.setCell ⟨qNk21, 0, none⟩ (.int .i64 v0)).setCell ⟨qNk21, 1, none⟩ (.int .i64 v1)) = vk29 at *
          have hs_ := flatS HCk29.out
          refine hK.out _ _ (by exact hs_) (fun hHeld => ?_)
          clear hK K; (try simp only [Act.put, List.setIfInBounds_toArray, List.set_cons_zero, List.set_cons_succ])
          refine wpAnyH_done (by kernel_rfl) ?_ _
          go_wp2_with fail
          go_meet
          exact ⟨_, _, rfl, rfl, HOk29.out, HNk29.out, HBk29.out⟩
    ·
      (try unfold flatOp14)
      go_simp
      have bq := (Below.refl dk1.heap.size (dk1)).alloc (Nat.le_refl _) (.cells #[.int .i64 0, .int .i64 0] 23)
      have HBk30 := Lib.hid (HBk1.out.trans (bq.mono HBk1.out.size))
      have HCk30 := Lib.hid (HCk1.out.next bq)
      have HOk30 := Lib.hid (CBox.new (dk1) 23 #[.int .i64 0, .int .i64 0])
      have gO := HBk1.out.size
      have ne_C_O := Nat.ne_of_lt HCk1.out.lt
      have en_C_O := Nat.ne_of_gt HCk1.out.lt
      clear bq
      clear hs_
      clear HBk1 HCk1
      generalize (dk1.alloc (.cells #[.int .i64 0, .int .i64 0] 23)) = vk30 at *
      generalize (dk1).heap.size = qOk30 at *
      have hs_ := flatS HCk30.out
      refine hK.out _ _ (by exact hs_) (fun hHeld => ?_)
      clear hK K; (try simp only [Act.put, List.setIfInBounds_toArray, List.set_cons_zero, List.set_cons_succ])
      refine wpAnyH_ready (rs := [6, 15]) (by kernel_rfl) (by simp) ?_
      refine AllReadyH.cons (o := flatOp6) rfl (fun K hK => ?_) (AllReadyH.cons (o := flatOp15) rfl (fun K hK => ?_) AllReadyH.nil)
      ·
        (try unfold flatOp6)
        go_simp
        (go_at_call 43; (with_reducible refine (B1.out _).mono ?_); rintro e vk31 ⟨rfl, bq⟩)
        have HBk31 := Lib.hid (HBk30.out.trans (bq.mono HBk30.out.size)); have HCk31 := Lib.hid (HCk30.out.next bq); have HOk31 := Lib.hid (HOk30.out.next bq); clear bq
        clear hs_
        have hs_ := flatS HCk31.out
        refine hK.out _ _ (by exact hs_) (fun hHeld => ?_)
        clear hK K; (try simp only [Act.put, List.setIfInBounds_toArray, List.set_cons_zero, List.set_cons_succ])
        refine wpAnyH_ready (rs := [13, 15]) (by kernel_rfl) (by simp) ?_
        refine AllReadyH.cons (o := flatOp13) rfl (fun K hK => ?_) (AllReadyH.cons (o := flatOp15) rfl (fun K hK => ?_) AllReadyH.nil)
        ·
          (try unfold flatOp13)
          go_simp
          (go_at_call 43; (with_reducible refine (B2.out _).mono ?_); rintro e vk32 ⟨rfl, bq⟩)
          have HBk32 := Lib.hid (HBk31.out.trans (bq.mono HBk31.out.size)); have HCk32 := Lib.hid (HCk31.out.next bq); have HOk32 := Lib.hid (HOk31.out.next bq); clear bq
          clear hs_
          have hs_ := flatS HCk32.out
          refine hK.out _ _ (by exact hs_) (fun hHeld => ?_)
          clear hK K; (try simp only [Act.put, List.setIfInBounds_toArray, List.set_cons_zero, List.set_cons_succ])
          refine wpAnyH_ready (rs := [15]) (by kernel_rfl) (by simp) ?_
          refine AllReadyH.cons (o := flatOp15) rfl (fun K hK => ?_) AllReadyH.nil
          (try unfold flatOp15)
          go_simp
          have bq := (Below.refl vk32.heap.size (vk32)).alloc (Nat.le_refl _) (.cells #[.int .i64 0, .int .i64 0] 23)
          have HBk33 := Lib.hid (HBk32.out.trans (bq.mono HBk32.out.size))
          have HCk33 := Lib.hid (HCk32.out.next bq)
          have HOk33 := Lib.hid (HOk32.out.next bq)
          have HNk33 := Lib.hid (CBox.new (vk32) 23 #[.int .i64 0, .int .i64 0])
          have gN := HBk32.out.size
          have ne_C_N := Nat.ne_of_lt HCk32.out.lt
          have en_C_N := Nat.ne_of_gt HCk32.out.lt
          have ne_O_N := Nat.ne_of_lt HOk32.out.lt
          have en_O_N := Nat.ne_of_gt HOk32.out.lt
          clear bq
          clear hs_
          clear HBk32 HCk32 HOk32
          generalize (vk32.alloc (.cells #[.int .i64 0, .int .i64 0] 23)) = vk33 at *
          generalize (vk32).heap.size = qNk33 at *
          have hs_ := flatS HCk33.out
          refine hK.out _ _ (by exact hs_) (fun hHeld => ?_)
          clear hK K; (try simp only [Act.put, List.setIfInBounds_toArray, List.set_cons_zero, List.set_cons_succ])
          refine wpAnyH_ready (rs := [16]) (by kernel_rfl) (by simp) ?_
          refine AllReadyH.cons (o := flatOp16) rfl (fun K hK => ?_) AllReadyH.nil
          (try unfold flatOp16)
          have u0_ : vk33.cell? ⟨qOk30, 0, none⟩ = some (.int .i64 0) := HOk33.out.c 0 rfl
          have r0_ := HOk33.out.z 0
          have u1_ : vk33.cell? ⟨qOk30, 1, none⟩ = some (.int .i64 0) := HOk33.out.c 1 rfl
          have r1_ := HOk33.out.z 1
          go_simp
          clear u0_ r0_ u1_ r1_
          have HBk34 : Hid (Below w1.heap.size w1 ((vk33.setCell ⟨qOk30, 0, none⟩ (.int .i64 u0)).setCell ⟨qOk30, 1, none⟩ (.int .i64 u1))) := Lib.hid (Below.setCell (Below.setCell HBk33.out gO (.int .i64 u0)) gO (.int .i64 u1))
          have HCk34 := Lib.hid (CBox.other (CBox.other HCk33.out (by first | exact ne_C_O | exact en_O_C) 0 (.int .i64 u0)) (by first | exact ne_C_O | exact en_O_C) 1 (.int .i64 u1))
          have HOk34 : Hid (CBox (qOk30) 23 #[.int .i64 u0, .int .i64 u1] ((vk33.setCell ⟨qOk30, 0, none⟩ (.int .i64 u0)).setCell ⟨qOk30, 1, none⟩ (.int .i64 u1))) := Lib.hid (CBox.set (CBox.set HOk33.out 0 (.int .i64 u0) (show (0 : Nat) < 2 by decide)) 1 (.int .i64 u1) (show (1 : Nat) < 2 by decide))
          have HNk34 := Lib.hid (CBox.other (CBox.other HNk33.out (by first | exact ne_N_O | exact en_O_N) 0 (.int .i64 u0)) (by first | exact ne_N_O | exact en_O_N) 1 (.int .i64 u1))
          clear hs_
          generalize ((vk33.setCell ⟨qOk30, 0, none⟩ (.int .i64 u0)).setCell ⟨qOk30, 1, none⟩ (.int .i64 u1)) = vk34 at *
          have hs_ := flatS HCk34.out
          refine hK.out _ _ (by exact hs_) (fun hHeld => ?_)
          clear hK K; (try simp only [Act.put, List.setIfInBounds_toArray, List.set_cons_zero, List.set_cons_succ])
          refine wpAnyH_ready (rs := [17]) (by kernel_rfl) (by simp) ?_
          refine AllReadyH.cons (o := flatOp17) rfl (fun K hK => ?_) AllReadyH.nil
          (try unfold flatOp17)
          have u0_ : vk34.cell? ⟨qNk33, 0, none⟩ = some (.int .i64 0) := HNk34.out.c 0 rfl
          have r0_ := HNk34.out.z 0
          have u1_ : vk34.cell? ⟨qNk33, 1, none⟩ = some (.int .i64 0) := HNk34.out.c 1 rfl
          have r1_ := HNk34.out.z 1
          go_simp
          clear u0_ r0_ u1_ r1_
          have HBk35 : Hid (Below w1.heap.size w1 ((vk34.setCell ⟨qNk33, 0, none⟩ (.int .i64 v0)).setCell ⟨qNk33, 1, none⟩ (.int .i64 v1))) := Lib.hid (Below.setCell (Below.setCell HBk34.out gN (.int .i64 v0)) gN (.int .i64 v1))
          have HCk35 := Lib.hid (CBox.other (CBox.other HCk34.out (by first | exact ne_C_N | exact en_N_C) 0 (.int .i64 v0)) (by first | exact ne_C_N | exact en_N_C) 1 (.int .i64 v1))
          have HOk35 := Lib.hid (CBox.other (CBox.other HOk34.out (by first | exact ne_O_N | exact en_N_O) 0 (.int .i64 v0)) (by first | exact ne_O_N | exact en_N_O) 1 (.int .i64 v1))
          have HNk35 : Hid (CBox (qNk33) 23 #[.int .i64 v0, .int .i64 v1] ((vk34.setCell ⟨qNk33, 0, none⟩ (.int .i64 v0)).setCell ⟨qNk33, 1, none⟩ (.int .i64 v1))) := Lib.hid (CBox.set (CBox.set HNk34.out 0 (.int .i64 v0) (show (0 : Nat) < 2 by decide)) 1 (.int .i64 v1) (show (1 : Nat) < 2 by decide))
          clear hs_
          generalize ((vk34.setCell ⟨qNk33, 0, none⟩ (.int .i64 v0)).setCell ⟨qNk33, 1, none⟩ (.int .i64 v1)) = vk35 at *
          have hs_ := flatS HCk35.out
          refine hK.out _ _ (by exact hs_) (fun hHeld => ?_)
          clear hK K; (try simp only [Act.put, List.setIfInBounds_toArray, List.set_cons_zero, List.set_cons_succ])
          refine wpAnyH_done (by kernel_rfl) ?_ _
          go_wp2_with fail
          go_meet
          exact ⟨_, _, rfl, rfl, HOk35.out, HNk35.out, HBk35.out⟩
        ·
          (try unfold flatOp15)
          go_simp
          have bq := (Below.refl vk31.heap.size (vk31)).alloc (Nat.le_refl _) (.cells #[.int .i64 0, .int .i64 0] 23)
          have HBk36 := Lib.hid (HBk31.out.trans (bq.mono HBk31.out.size))
          have HCk36 := Lib.hid (HCk31.out.next bq)
          have HOk36 := Lib.hid (HOk31.out.next bq)
          have HNk36 := Lib.hid (CBox.new (vk31) 23 #[.int .i64 0, .int .i64 0])
          have gN := HBk31.out.size
          have ne_C_N := Nat.ne_of_lt HCk31.out.lt
          have en_C_N := Nat.ne_of_gt HCk31.out.lt
          have ne_O_N := Nat.ne_of_lt HOk31.out.lt
          have en_O_N := Nat.ne_of_gt HOk31.out.lt
          clear bq
          clear hs_
          clear HBk31 HCk31 HOk31
          generalize (vk31.alloc (.cells #[.int .i64 0, .int .i64 0] 23)) = vk36 at *
          generalize (vk31).heap.size = qNk36 at *
          have hs_ := flatS HCk36.out
          refine hK.out _ _ (by exact hs_) (fun hHeld => ?_)
          clear hK K; (try simp only [Act.put, List.setIfInBounds_toArray, List.set_cons_zero, List.set_cons_succ])
          refine wpAnyH_ready (rs := [13]) (by kernel_rfl) (by simp) ?_
          refine AllReadyH.cons (o := flatOp13) rfl (fun K hK => ?_) AllReadyH.nil
          (try unfold flatOp13)
          go_simp
          (go_at_call 43; (with_reducible refine (B2.out _).mono ?_); rintro e vk37 ⟨rfl, bq⟩)
          have HBk37 := Lib.hid (HBk36.out.trans (bq.mono HBk36.out.size)); have HCk37 := Lib.hid (HCk36.out.next bq); have HOk37 := Lib.hid (HOk36.out.next bq); have HNk37 := Lib.hid (HNk36.out.next bq); clear bq
          clear hs_
          have hs_ := flatS HCk37.out
          refine hK.out _ _ (by exact hs_) (fun hHeld => ?_)
          clear hK K; (try simp only [Act.put, List.setIfInBounds_toArray, List.set_cons_zero, List.set_cons_succ])
          refine wpAnyH_ready (rs := [16]) (by kernel_rfl) (by simp) ?_
          refine AllReadyH.cons (o := flatOp16) rfl (fun K hK => ?_) AllReadyH.nil
          (try unfold flatOp16)
          have u0_ : vk37.cell? ⟨qOk30, 0, none⟩ = some (.int .i64 0) := HOk37.out.c 0 rfl
          have r0_ := HOk37.out.z 0
          have u1_ : vk37.cell? ⟨qOk30, 1, none⟩ = some (.int .i64 0) := HOk37.out.c 1 rfl
          have r1_ := HOk37.out.z 1
          go_simp
          clear u0_ r0_ u1_ r1_
          have HBk38 : Hid (Below w1.heap.size w1 ((vk37.setCell ⟨qOk30, 0, none⟩ (.int .i64 u0)).setCell ⟨qOk30, 1, none⟩ (.int .i64 u1))) := Lib.hid (Below.setCell (Below.setCell HBk37.out gO (.int .i64 u0)) gO (.int .i64 u1))
          have HCk38 := Lib.hid (CBox.other (CBox.other HCk37.out (by first | exact ne_C_O | exact en_O_C) 0 (.int .i64 u0)) (by first | exact ne_C_O | exact en_O_C) 1 (.int .i64 u1))
          have HOk38 : Hid (CBox (qOk30) 23 #[.int .i64 u0, .int .i64 u1] ((vk37.setCell ⟨qOk30, 0, none⟩ (.int .i64 u0)).setCell ⟨qOk30, 1, none⟩ (.int .i64 u1))) := Lib.hid (CBox.set (CBox.set HOk37.out 0 (.int .i64 u0) (show (0 : Nat) < 2 by decide)) 1 (.int .i64 u1) (show (1 : Nat) < 2 by decide))
          have HNk38 := Lib.hid (CBox.other (CBox.other HNk37.out (by first | exact ne_N_O | exact en_O_N) 0 (.int .i64 u0)) (by first | exact ne_N_O | exact en_O_N) 1 (.int .i64 u1))
          clear hs_
          generalize ((vk37.setCell ⟨qOk30, 0, none⟩ (.int .i64 u0)).setCell ⟨qOk30, 1, none⟩ (.int .i64 u1)) = vk38 at *
          have hs_ := flatS HCk38.out
          refine hK.out _ _ (by exact hs_) (fun hHeld => ?_)
          clear hK K; (try simp only [Act.put, List.setIfInBounds_toArray, List.set_cons_zero, List.set_cons_succ])
          refine wpAnyH_ready (rs := [17]) (by kernel_rfl) (by simp) ?_
          refine AllReadyH.cons (o := flatOp17) rfl (fun K hK => ?_) AllReadyH.nil
          (try unfold flatOp17)
          have u0_ : vk38.cell? ⟨qNk36, 0, none⟩ = some (.int .i64 0) := HNk38.out.c 0 rfl
          have r0_ := HNk38.out.z 0
          have u1_ : vk38.cell? ⟨qNk36, 1, none⟩ = some (.int .i64 0) := HNk38.out.c 1 rfl
          have r1_ := HNk38.out.z 1
          go_simp
          clear u0_ r0_ u1_ r1_
          have HBk39 : Hid (Below w1.heap.size w1 ((vk38.setCell ⟨qNk36, 0, none⟩ (.int .i64 v0)).setCell ⟨qNk36, 1, none⟩ (.int .i64 v1))) := Lib.hid (Below.setCell (Below.setCell HBk38.out gN (.int .i64 v0)) gN (.int .i64 v1))
          have HCk39 := Lib.hid (CBox.other (CBox.other HCk38.out (by first | exact ne_C_N | exact en_N_C) 0 (.int .i64 v0)) (by first | exact ne_C_N | exact en_N_C) 1 (.int .i64 v1))
          have HOk39 := Lib.hid (CBox.other (CBox.other HOk38.out (by first | exact ne_O_N | exact en_N_O) 0 (.int .i64 v0)) (by first | exact ne_O_N | exact en_N_O) 1 (.int .i64 v1))
          have HNk39 : Hid (CBox (qNk36) 23 #[.int .i64 v0, .int .i64 v1] ((vk38.setCell ⟨qNk36, 0, none⟩ (.int .i64 v0)).setCell ⟨qNk36, 1, none⟩ (.int .i64 v1))) := Lib.hid (CBox.set (CBox.set HNk38.out 0 (.int .i64 v0) (show (0 : Nat) < 2 by decide)) 1 (.int .i64 v1) (show (1 : Nat) < 2 by decide))
          clear hs_
          generalize ((vk38.setCell ⟨qNk36, 0, none⟩ (.int .i64 v0)).setCell ⟨qNk36, 1, none⟩ (.int .i64 v1)) = vk39 at *
          have hs_ := flatS HCk39.out
          refine hK.out _ _ (by exact hs_) (fun hHeld => ?_)
          clear hK K; (try simp only [Act.put, List.setIfInBounds_toArray, List.set_cons_zero, List.set_cons_succ])
          refine wpAnyH_done (by kernel_rfl) ?_ _
          go_wp2_with fail
          go_meet
          exact ⟨_, _, rfl, rfl, HOk39.out, HNk39.out, HBk39.out⟩
      ·
        (try unfold flatOp15)
        go_simp
        have bq := (Below.refl vk30.heap.size (vk30)).alloc (Nat.le_refl _) (.cells #[.int .i64 0, .int .i64 0] 23)
        have HBk40 := Lib.hid (HBk30.out.trans (bq.mono HBk30.out.size))
        have HCk40 := Lib.hid (HCk30.out.next bq)
        have HOk40 := Lib.hid (HOk30.out.next bq)
        have HNk40 := Lib.hid (CBox.new (vk30) 23 #[.int .i64 0, .int .i64 0])
        have gN := HBk30.out.size
        have ne_C_N := Nat.ne_of_lt HCk30.out.lt
        have en_C_N := Nat.ne_of_gt HCk30.out.lt
        have ne_O_N := Nat.ne_of_lt HOk30.out.lt
        have en_O_N := Nat.ne_of_gt HOk30.out.lt
        clear bq
        clear hs_
        clear HBk30 HCk30 HOk30
        generalize (vk30.alloc (.cells #[.int .i64 0, .int .i64 0] 23)) = vk40 at *
        generalize (vk30).heap.size = qNk40 at *
        have hs_ := flatS HCk40.out
        refine hK.out _ _ (by exact hs_) (fun hHeld => ?_)
        clear hK K; (try simp only [Act.put, List.setIfInBounds_toArray, List.set_cons_zero, List.set_cons_succ])
        refine wpAnyH_ready (rs := [6]) (by kernel_rfl) (by simp) ?_
        refine AllReadyH.cons (o := flatOp6) rfl (fun K hK => ?_) AllReadyH.nil
        (try unfold flatOp6)
        go_simp
        (go_at_call 43; (with_reducible refine (B1.out _).mono ?_); rintro e vk41 ⟨rfl, bq⟩)
        have HBk41 := Lib.hid (HBk40.out.trans (bq.mono HBk40.out.size)); have HCk41 := Lib.hid (HCk40.out.next bq); have HOk41 := Lib.hid (HOk40.out.next bq); have HNk41 := Lib.hid (HNk40.out.next bq); clear bq
        clear hs_
        have hs_ := flatS HCk41.out
        refine hK.out _ _ (by exact hs_) (fun hHeld => ?_)
        clear hK K; (try simp only [Act.put, List.setIfInBounds_toArray, List.set_cons_zero, List.set_cons_succ])
        refine wpAnyH_ready (rs := [13]) (by kernel_rfl) (by simp) ?_
        refine AllReadyH.cons (o := flatOp13) rfl (fun K hK => ?_) AllReadyH.nil
        (try unfold flatOp13)
        go_simp
        (go_at_call 43; (with_reducible refine (B2.out _).mono ?_); rintro e vk42 ⟨rfl, bq⟩)
        have HBk42 := Lib.hid (HBk41.out.trans (bq.mono HBk41.out.size)); have HCk42 := Lib.hid (HCk41.out.next bq); have HOk42 := Lib.hid (HOk41.out.next bq); have HNk42 := Lib.hid (HNk41.out.next bq); clear bq
        clear hs_
        have hs_ := flatS HCk42.out
        refine hK.out _ _ (by exact hs_) (fun hHeld => ?_)
        clear hK K; (try simp only [Act.put, List.setIfInBounds_toArray, List.set_cons_zero, List.set_cons_succ])
        refine wpAnyH_ready (rs := [16]) (by kernel_rfl) (by simp) ?_
        refine AllReadyH.cons (o := flatOp16) rfl (fun K hK => ?_) AllReadyH.nil
        (try unfold flatOp16)
        have u0_ : vk42.cell? ⟨qOk30, 0, none⟩ = some (.int .i64 0) := HOk42.out.c 0 rfl
        have r0_ := HOk42.out.z 0
        have u1_ : vk42.cell? ⟨qOk30, 1, none⟩ = some (.int .i64 0) := HOk42.out.c 1 rfl
        have r1_ := HOk42.out.z 1
        go_simp
        clear u0_ r0_ u1_ r1_
        have HBk43 : Hid (Below w1.heap.size w1 ((vk42.setCell ⟨qOk30, 0, none⟩ (.int .i64 u0)).setCell ⟨qOk30, 1, none⟩ (.int .i64 u1))) := Lib.hid (Below.setCell (Below.setCell HBk42.out gO (.int .i64 u0)) gO (.int .i64 u1))
        have HCk43 := Lib.hid (CBox.other (CBox.other HCk42.out (by first | exact ne_C_O | exact en_O_C) 0 (.int .i64 u0)) (by first | exact ne_C_O | exact en_O_C) 1 (.int .i64 u1))
        have HOk43 : Hid (CBox (qOk30) 23 #[.int .i64 u0, .int .i64 u1] ((vk42.setCell ⟨qOk30, 0, none⟩ (.int .i64 u0)).setCell ⟨qOk30, 1, none⟩ (.int .i64 u1))) := Lib.hid (CBox.set (CBox.set HOk42.out 0 (.int .i64 u0) (show (0 : Nat) < 2 by decide)) 1 (.int .i64 u1) (show (1 : Nat) < 2 by decide))
        have HNk43 := Lib.hid (CBox.other (CBox.other HNk42.out (by first | exact ne_N_O | exact en_O_N) 0 (.int .i64 u0)) (by first | exact ne_N_O | exact en_O_N) 1 (.int .i64 u1))
        clear hs_
        generalize ((vk42.setCell ⟨qOk30, 0, none⟩ (.int .i64 u0)).setCell ⟨qOk30, 1, none⟩ (.int .i64 u1)) = vk43 at *
        have hs_ := flatS HCk43.out
        refine hK.out _ _ (by exact hs_) (fun hHeld => ?_)
        clear hK K; (try simp only [Act.put, List.setIfInBounds_toArray, List.set_cons_zero, List.set_cons_succ])
        refine wpAnyH_ready (rs := [17]) (by kernel_rfl) (by simp) ?_
        refine AllReadyH.cons (o := flatOp17) rfl (fun K hK => ?_) AllReadyH.nil
        (try unfold flatOp17)
        have u0_ : vk43.cell? ⟨qNk40, 0, none⟩ = some (.int .i64 0) := HNk43.out.c 0 rfl
        have r0_ := HNk43.out.z 0
        have u1_ : vk43.cell? ⟨qNk40, 1, none⟩ = some (.int .i64 0) := HNk43.out.c 1 rfl
        have r1_ := HNk43.out.z 1
        go_simp
        clear u0_ r0_ u1_ r1_
        have HBk44 : Hid (Below w1.heap.size w1 ((vk43.setCell ⟨qNk40, 0, none⟩ (.int .i64 v0)).setCell ⟨qNk40, 1, none⟩ (.int .i64 v1))) := Lib.hid (Below.setCell (Below.setCell HBk43.out gN (.int .i64 v0)) gN (.int .i64 v1))
        have HCk44 := Lib.hid (CBox.other (CBox.other HCk43.out (by first | exact ne_C_N | exact en_N_C) 0 (.int .i64 v0)) (by first | exact ne_C_N | exact en_N_C) 1 (.int .i64 v1))
        have HOk44 := Lib.hid (CBox.other (CBox.other HOk43.out (by first | exact ne_O_N | exact en_N_O) 0 (.int .i64 v0)) (by first | exact ne_O_N | exact en_N_O) 1 (.int .i64 v1))
        have HNk44 : Hid (CBox (qNk40) 23 #[.int .i64 v0, .int .i64 v1] ((vk43.setCell ⟨qNk40, 0, none⟩ (.int .i64 v0)).setCell ⟨qNk40, 1, none⟩ (.int .i64 v1))) := Lib.hid (CBox.set (CBox.set HNk43.out 0 (.int .i64 v0) (show (0 : Nat) < 2 by decide)) 1 (.int .i64 v1) (show (1 : Nat) < 2 by decide))
        clear hs_
        generalize ((vk43.setCell ⟨qNk40, 0, none⟩ (.int .i64 v0)).setCell ⟨qNk40, 1, none⟩ (.int .i64 v1)) = vk44 at *
        have hs_ := flatS HCk44.out
        refine hK.out _ _ (by exact hs_) (fun hHeld => ?_)
        clear hK K; (try simp only [Act.put, List.setIfInBounds_toArray, List.set_cons_zero, List.set_cons_succ])
        refine wpAnyH_done (by kernel_rfl) ?_ _
        go_wp2_with fail
        go_meet
        exact ⟨_, _, rfl, rfl, HOk44.out, HNk44.out, HBk44.out⟩
    ·
      (try unfold flatOp15)
      go_simp
      have bq := (Below.refl dk1.heap.size (dk1)).alloc (Nat.le_refl _) (.cells #[.int .i64 0, .int .i64 0] 23)
      have HBk45 := Lib.hid (HBk1.out.trans (bq.mono HBk1.out.size))
      have HCk45 := Lib.hid (HCk1.out.next bq)
      have HNk45 := Lib.hid (CBox.new (dk1) 23 #[.int .i64 0, .int .i64 0])
      have gN := HBk1.out.size
      have ne_C_N := Nat.ne_of_lt HCk1.out.lt
      have en_C_N := Nat.ne_of_gt HCk1.out.lt
      clear bq
      clear hs_
      clear HBk1 HCk1
      generalize (dk1.alloc (.cells #[.int .i64 0, .int .i64 0] 23)) = vk45 at *
      generalize (dk1).heap.size = qNk45 at *
      have hs_ := flatS HCk45.out
      refine hK.out _ _ (by exact hs_) (fun hHeld => ?_)
      clear hK K; (try simp only [Act.put, List.setIfInBounds_toArray, List.set_cons_zero, List.set_cons_succ])
      refine wpAnyH_ready (rs := [6, 14]) (by kernel_rfl) (by simp) ?_
      refine AllReadyH.cons (o := flatOp6) rfl (fun K hK => ?_) (AllReadyH.cons (o := flatOp14) rfl (fun K hK => ?_) AllReadyH.nil)
      ·
        (try unfold flatOp6)
        go_simp
        (go_at_call 43; (with_reducible refine (B1.out _).mono ?_); rintro e vk46 ⟨rfl, bq⟩)
        have HBk46 := Lib.hid (HBk45.out.trans (bq.mono HBk45.out.size)); have HCk46 := Lib.hid (HCk45.out.next bq); have HNk46 := Lib.hid (HNk45.out.next bq); clear bq
        clear hs_
        have hs_ := flatS HCk46.out
        refine hK.out _ _ (by exact hs_) (fun hHeld => ?_)
        clear hK K; (try simp only [Act.put, List.setIfInBounds_toArray, List.set_cons_zero, List.set_cons_succ])
        refine wpAnyH_ready (rs := [13, 14]) (by kernel_rfl) (by simp) ?_
        refine AllReadyH.cons (o := flatOp13) rfl (fun K hK => ?_) (AllReadyH.cons (o := flatOp14) rfl (fun K hK => ?_) AllReadyH.nil)
        ·
          (try unfold flatOp13)
          go_simp
          (go_at_call 43; (with_reducible refine (B2.out _).mono ?_); rintro e vk47 ⟨rfl, bq⟩)
          have HBk47 := Lib.hid (HBk46.out.trans (bq.mono HBk46.out.size)); have HCk47 := Lib.hid (HCk46.out.next bq); have HNk47 := Lib.hid (HNk46.out.next bq); clear bq
          clear hs_
          have hs_ := flatS HCk47.out
          refine hK.out _ _ (by exact hs_) (fun hHeld => ?_)
          clear hK K; (try simp only [Act.put, List.setIfInBounds_toArray, List.set_cons_zero, List.set_cons_succ])
          refine wpAnyH_ready (rs := [14]) (by kernel_rfl) (by simp) ?_
          refine AllReadyH.cons (o := flatOp14) rfl (fun K hK => ?_) AllReadyH.nil
          (try unfold flatOp14)
          go_simp
          have bq := (Below.refl vk47.heap.size (vk47)).alloc (Nat.le_refl _) (.cells #[.int .i64 0, .int .i64 0] 23)
          have HBk48 := Lib.hid (HBk47.out.trans (bq.mono HBk47.out.size))
          have HCk48 := Lib.hid (HCk47.out.next bq)
          have HNk48 := Lib.hid (HNk47.out.next bq)
          have HOk48 := Lib.hid (CBox.new (vk47) 23 #[.int .i64 0, .int .i64 0])
          have gO := HBk47.out.size
          have ne_C_O := Nat.ne_of_lt HCk47.out.lt
          have en_C_O := Nat.ne_of_gt HCk47.out.lt
          have ne_N_O := Nat.ne_of_lt HNk47.out.lt
          have en_N_O := Nat.ne_of_gt HNk47.out.lt
          clear bq
          clear hs_
          clear HBk47 HCk47 HNk47
          generalize (vk47.alloc (.cells #[.int .i64 0, .int .i64 0] 23)) = vk48 at *
          generalize (vk47).heap.size = qOk48 at *
          have hs_ := flatS HCk48.out
          refine hK.out _ _ (by exact hs_) (fun hHeld => ?_)
          clear hK K; (try simp only [Act.put, List.setIfInBounds_toArray, List.set_cons_zero, List.set_cons_succ])
          refine wpAnyH_ready (rs := [16]) (by kernel_rfl) (by simp) ?_
          refine AllReadyH.cons (o := flatOp16) rfl (fun K hK => ?_) AllReadyH.nil
          (try unfold flatOp16)
          have u0_ : vk48.cell? ⟨qOk48, 0, none⟩ = some (.int .i64 0) := HOk48.out.c 0 rfl
          have r0_ := HOk48.out.z 0
          have u1_ : vk48.cell? ⟨qOk48, 1, none⟩ = some (.int .i64 0) := HOk48.out.c 1 rfl
          have r1_ := HOk48.out.z 1
          go_simp
          clear u0_ r0_ u1_ r1_
          have HBk49 : Hid (Below w1.heap.size w1 ((vk48.setCell ⟨qOk48, 0, none⟩ (.int .i64 u0)).setCell ⟨qOk48, 1, none⟩ (.int .i64 u1))) := Lib.hid (Below.setCell (Below.setCell HBk48.out gO (.int .i64 u0)) gO (.int .i64 u1))
          have HCk49 := Lib.hid (CBox.other (CBox.other HCk48.out (by first | exact ne_C_O | exact en_O_C) 0 (.int .i64 u0)) (by first | exact ne_C_O | exact en_O_C) 1 (.int .i64 u1))
          have HNk49 := Lib.hid (CBox.other (CBox.other HNk48.out (by first | exact ne_N_O | exact en_O_N) 0 (.int .i64 u0)) (by first | exact ne_N_O | exact en_O_N) 1 (.int .i64 u1))
          have HOk49 : Hid (CBox (qOk48) 23 #[.int .i64 u0, .int .i64 u1] ((vk48.setCell ⟨qOk48, 0, none⟩ (.int .i64 u0)).setCell ⟨qOk48, 1, none⟩ (.int .i64 u1))) := Lib.hid (CBox.set (CBox.set HOk48.out 0 (.int .i64 u0) (show (0 : Nat) < 2 by decide)) 1 (.int .i64 u1) (show (1 : Nat) < 2 by decide))
          clear hs_
          generalize ((vk48.setCell ⟨qOk48, 0, none⟩ (.int .i64 u0)).setCell ⟨qOk48, 1, none⟩ (.int .i64 u1)) = vk49 at *
          have hs_ := flatS HCk49.out
          refine hK.out _ _ (by exact hs_) (fun hHeld => ?_)
          clear hK K; (try simp only [Act.put, List.setIfInBounds_toArray, List.set_cons_zero, List.set_cons_succ])
          refine wpAnyH_ready (rs := [17]) (by kernel_rfl) (by simp) ?_
          refine AllReadyH.cons (o := flatOp17) rfl (fun K hK => ?_) AllReadyH.nil
          (try unfold flatOp17)
          have u0_ : vk49.cell? ⟨qNk45, 0, none⟩ = some (.int .i64 0) := HNk49.out.c 0 rfl
          have r0_ := HNk49.out.z 0
          have u1_ : vk49.cell? ⟨qNk45, 1, none⟩ = some (.int .i64 0) := HNk49.out.c 1 rfl
          have r1_ := HNk49.out.z 1
          go_simp
          clear u0_ r0_ u1_ r1_
          have HBk50 : Hid (Below w1.heap.size w1 ((vk49.setCell ⟨qNk45, 0, none⟩ (.int .i64 v0)).setCell ⟨qNk45, 1, none⟩ (.int .i64 v1))) := Lib.hid (Below.setCell (Below.setCell HBk49.out gN (.int .i64 v0)) gN (.int .i64 v1))
          have HCk50 := Lib.hid (CBox.other (CBox.other HCk49.out (by first | exact ne_C_N | exact en_N_C) 0 (.int .i64 v0)) (by first | exact ne_C_N | exact en_N_C) 1 (.int .i64 v1))
          have HNk50 : Hid (CBox (qNk45) 23 #[.int .i64 v0, .int .i64 v1] ((vk49.setCell ⟨qNk45, 0, none⟩ (.int .i64 v0)).setCell ⟨qNk45, 1, none⟩ (.int .i64 v1))) := Lib.hid (CBox.set (CBox.set HNk49.out 0 (.int .i64 v0) (show (0 : Nat) < 2 by decide)) 1 (.int .i64 v1) (show (1 : Nat) < 2 by decide))
          have HOk50 := Lib.hid (CBox.other (CBox.other HOk49.out (by first | exact ne_O_N | exact en_N_O) 0 (.int .i64 v0)) (by first | exact ne_O_N | exact en_N_O) 1 (.int .i64 v1))
          clear hs_
          generalize ((vk49.setCell ⟨qNk45, 0, none⟩ (.int .i64 v0)).setCell ⟨qNk45, 1, none⟩ (.int .i64 v1)) = vk50 at *
          have hs_ := flatS HCk50.out
          refine hK.out _ _ (by exact hs_) (fun hHeld => ?_)
          clear hK K; (try simp only [Act.put, List.setIfInBounds_toArray, List.set_cons_zero, List.set_cons_succ])
          refine wpAnyH_done (by kernel_rfl) ?_ _
          go_wp2_with fail
          go_meet
          exact ⟨_, _, rfl, rfl, HOk50.out, HNk50.out, HBk50.out⟩
        ·
          (try unfold flatOp14)
          go_simp
          have bq := (Below.refl vk46.heap.size (vk46)).alloc (Nat.le_refl _) (.cells #[.int .i64 0, .int .i64 0] 23)
          have HBk51 := Lib.hid (HBk46.out.trans (bq.mono HBk46.out.size))
          have HCk51 := Lib.hid (HCk46.out.next bq)
          have HNk51 := Lib.hid (HNk46.out.next bq)
          have HOk51 := Lib.hid (CBox.new (vk46) 23 #[.int .i64 0, .int .i64 0])
          have gO := HBk46.out.size
          have ne_C_O := Nat.ne_of_lt HCk46.out.lt
          have en_C_O := Nat.ne_of_gt HCk46.out.lt
          have ne_N_O := Nat.ne_of_lt HNk46.out.lt
          have en_N_O := Nat.ne_of_gt HNk46.out.lt
          clear bq
          clear hs_
          clear HBk46 HCk46 HNk46
          generalize (vk46.alloc (.cells #[.int .i64 0, .int .i64 0] 23)) = vk51 at *
          generalize (vk46).heap.size = qOk51 at *
          have hs_ := flatS HCk51.out
          refine hK.out _ _ (by exact hs_) (fun hHeld => ?_)
          clear hK K; (try simp only [Act.put, List.setIfInBounds_toArray, List.set_cons_zero, List.set_cons_succ])
          refine wpAnyH_ready (rs := [13]) (by kernel_rfl) (by simp) ?_
          refine AllReadyH.cons (o := flatOp13) rfl (fun K hK => ?_) AllReadyH.nil
          (try unfold flatOp13)
          go_simp
          (go_at_call 43; (with_reducible refine (B2.out _).mono ?_); rintro e vk52 ⟨rfl, bq⟩)
          have HBk52 := Lib.hid (HBk51.out.trans (bq.mono HBk51.out.size)); have HCk52 := Lib.hid (HCk51.out.next bq); have HNk52 := Lib.hid (HNk51.out.next bq); have HOk52 := Lib.hid (HOk51.out.next bq); clear bq
          clear hs_
          have hs_ := flatS HCk52.out
          refine hK.out _ _ (by exact hs_) (fun hHeld => ?_)
          clear hK K; (try simp only [Act.put, List.setIfInBounds_toArray, List.set_cons_zero, List.set_cons_succ])
          refine wpAnyH_ready (rs := [16]) (by kernel_rfl) (by simp) ?_
          refine AllReadyH.cons (o := flatOp16) rfl (fun K hK => ?_) AllReadyH.nil
          (try unfold flatOp16)
          have u0_ : vk52.cell? ⟨qOk51, 0, none⟩ = some (.int .i64 0) := HOk52.out.c 0 rfl
          have r0_ := HOk52.out.z 0
          have u1_ : vk52.cell? ⟨qOk51, 1, none⟩ = some (.int .i64 0) := HOk52.out.c 1 rfl
          have r1_ := HOk52.out.z 1
          go_simp
          clear u0_ r0_ u1_ r1_
          have HBk53 : Hid (Below w1.heap.size w1 ((vk52.setCell ⟨qOk51, 0, none⟩ (.int .i64 u0)).setCell ⟨qOk51, 1, none⟩ (.int .i64 u1))) := Lib.hid (Below.setCell (Below.setCell HBk52.out gO (.int .i64 u0)) gO (.int .i64 u1))
          have HCk53 := Lib.hid (CBox.other (CBox.other HCk52.out (by first | exact ne_C_O | exact en_O_C) 0 (.int .i64 u0)) (by first | exact ne_C_O | exact en_O_C) 1 (.int .i64 u1))
          have HNk53 := Lib.hid (CBox.other (CBox.other HNk52.out (by first | exact ne_N_O | exact en_O_N) 0 (.int .i64 u0)) (by first | exact ne_N_O | exact en_O_N) 1 (.int .i64 u1))
          have HOk53 : Hid (CBox (qOk51) 23 #[.int .i64 u0, .int .i64 u1] ((vk52.setCell ⟨qOk51, 0, none⟩ (.int .i64 u0)).setCell ⟨qOk51, 1, none⟩ (.int .i64 u1))) := Lib.hid (CBox.set (CBox.set HOk52.out 0 (.int .i64 u0) (show (0 : Nat) < 2 by decide)) 1 (.int .i64 u1) (show (1 : Nat) < 2 by decide))
          clear hs_
          generalize ((vk52.setCell ⟨qOk51, 0, none⟩ (.int .i64 u0)).setCell ⟨qOk51, 1, none⟩ (.int .i64 u1)) = vk53 at *
          have hs_ := flatS HCk53.out
          refine hK.out _ _ (by exact hs_) (fun hHeld => ?_)
          clear hK K; (try simp only [Act.put, List.setIfInBounds_toArray, List.set_cons_zero, List.set_cons_succ])
          refine wpAnyH_ready (rs := [17]) (by kernel_rfl) (by simp) ?_
          refine AllReadyH.cons (o := flatOp17) rfl (fun K hK => ?_) AllReadyH.nil
          (try unfold flatOp17)
          have u0_ : vk53.cell? ⟨qNk45, 0, none⟩ = some (.int .i64 0) := HNk53.out.c 0 rfl
          have r0_ := HNk53.out.z 0
          have u1_ : vk53.cell? ⟨qNk45, 1, none⟩ = some (.int .i64 0) := HNk53.out.c 1 rfl
          have r1_ := HNk53.out.z 1
          go_simp
          clear u0_ r0_ u1_ r1_
          have HBk54 : Hid (Below w1.heap.size w1 ((vk53.setCell ⟨qNk45, 0, none⟩ (.int .i64 v0)).setCell ⟨qNk45, 1, none⟩ (.int .i64 v1))) := Lib.hid (Below.setCell (Below.setCell HBk53.out gN (.int .i64 v0)) gN (.int .i64 v1))
          have HCk54 := Lib.hid (CBox.other (CBox.other HCk53.out (by first | exact ne_C_N | exact en_N_C) 0 (.int .i64 v0)) (by first | exact ne_C_N | exact en_N_C) 1 (.int .i64 v1))
          have HNk54 : Hid (CBox (qNk45) 23 #[.int .i64 v0, .int .i64 v1] ((vk53.setCell ⟨qNk45, 0, none⟩ (.int .i64 v0)).setCell ⟨qNk45, 1, none⟩ (.int .i64 v1))) := Lib.hid (CBox.set (CBox.set HNk53.out 0 (.int .i64 v0) (show (0 : Nat) < 2 by decide)) 1 (.int .i64 v1) (show (1 : Nat) < 2 by decide))
          have HOk54 := Lib.hid (CBox.other (CBox.other HOk53.out (by first | exact ne_O_N | exact en_N_O) 0 (.int .i64 v0)) (by first | exact ne_O_N | exact en_N_O) 1 (.int .i64 v1))
          clear hs_
          generalize ((vk53.setCell ⟨qNk45, 0, none⟩ (.int .i64 v0)).setCell ⟨qNk45, 1, none⟩ (.int .i64 v1)) = vk54 at *
          have hs_ := flatS HCk54.out
          refine hK.out _ _ (by exact hs_) (fun hHeld => ?_)
          clear hK K; (try simp only [Act.put, List.setIfInBounds_toArray, List.set_cons_zero, List.set_cons_succ])
          refine wpAnyH_done (by kernel_rfl) ?_ _
          go_wp2_with fail
          go_meet
          exact ⟨_, _, rfl, rfl, HOk54.out, HNk54.out, HBk54.out⟩
      ·
        (try unfold flatOp14)
        go_simp
        have bq := (Below.refl vk45.heap.size (vk45)).alloc (Nat.le_refl _) (.cells #[.int .i64 0, .int .i64 0] 23)
        have HBk55 := Lib.hid (HBk45.out.trans (bq.mono HBk45.out.size))
        have HCk55 := Lib.hid (HCk45.out.next bq)
        have HNk55 := Lib.hid (HNk45.out.next bq)
        have HOk55 := Lib.hid (CBox.new (vk45) 23 #[.int .i64 0, .int .i64 0])
        have gO := HBk45.out.size
        have ne_C_O := Nat.ne_of_lt HCk45.out.lt
        have en_C_O := Nat.ne_of_gt HCk45.out.lt
        have ne_N_O := Nat.ne_of_lt HNk45.out.lt
        have en_N_O := Nat.ne_of_gt HNk45.out.lt
        clear bq
        clear hs_
        clear HBk45 HCk45 HNk45
        generalize (vk45.alloc (.cells #[.int .i64 0, .int .i64 0] 23)) = vk55 at *
        generalize (vk45).heap.size = qOk55 at *
        have hs_ := flatS HCk55.out
        refine hK.out _ _ (by exact hs_) (fun hHeld => ?_)
        clear hK K; (try simp only [Act.put, List.setIfInBounds_toArray, List.set_cons_zero, List.set_cons_succ])
        refine wpAnyH_ready (rs := [6]) (by kernel_rfl) (by simp) ?_
        refine AllReadyH.cons (o := flatOp6) rfl (fun K hK => ?_) AllReadyH.nil
        (try unfold flatOp6)
        go_simp
        (go_at_call 43; (with_reducible refine (B1.out _).mono ?_); rintro e vk56 ⟨rfl, bq⟩)
        have HBk56 := Lib.hid (HBk55.out.trans (bq.mono HBk55.out.size)); have HCk56 := Lib.hid (HCk55.out.next bq); have HNk56 := Lib.hid (HNk55.out.next bq); have HOk56 := Lib.hid (HOk55.out.next bq); clear bq
        clear hs_
        have hs_ := flatS HCk56.out
        refine hK.out _ _ (by exact hs_) (fun hHeld => ?_)
        clear hK K; (try simp only [Act.put, List.setIfInBounds_toArray, List.set_cons_zero, List.set_cons_succ])
        refine wpAnyH_ready (rs := [13]) (by kernel_rfl) (by simp) ?_
        refine AllReadyH.cons (o := flatOp13) rfl (fun K hK => ?_) AllReadyH.nil
        (try unfold flatOp13)
        go_simp
        (go_at_call 43; (with_reducible refine (B2.out _).mono ?_); rintro e vk57 ⟨rfl, bq⟩)
        have HBk57 := Lib.hid (HBk56.out.trans (bq.mono HBk56.out.size)); have HCk57 := Lib.hid (HCk56.out.next bq); have HNk57 := Lib.hid (HNk56.out.next bq); have HOk57 := Lib.hid (HOk56.out.next bq); clear bq
        clear hs_
        have hs_ := flatS HCk57.out
        refine hK.out _ _ (by exact hs_) (fun hHeld => ?_)
        clear hK K; (try simp only [Act.put, List.setIfInBounds_toArray, List.set_cons_zero, List.set_cons_succ])
        refine wpAnyH_ready (rs := [16]) (by kernel_rfl) (by simp) ?_
        refine AllReadyH.cons (o := flatOp16) rfl (fun K hK => ?_) AllReadyH.nil
        (try unfold flatOp16)
        have u0_ : vk57.cell? ⟨qOk55, 0, none⟩ = some (.int .i64 0) := HOk57.out.c 0 rfl
        have r0_ := HOk57.out.z 0
        have u1_ : vk57.cell? ⟨qOk55, 1, none⟩ = some (.int .i64 0) := HOk57.out.c 1 rfl
        have r1_ := HOk57.out.z 1
        go_simp
        clear u0_ r0_ u1_ r1_
        have HBk58 : Hid (Below w1.heap.size w1 ((vk57.setCell ⟨qOk55, 0, none⟩ (.int .i64 u0)).setCell ⟨qOk55, 1, none⟩ (.int .i64 u1))) := Lib.hid (Below.setCell (Below.setCell HBk57.out gO (.int .i64 u0)) gO (.int .i64 u1))
        have HCk58 := Lib.hid (CBox.other (CBox.other HCk57.out (by first | exact ne_C_O | exact en_O_C) 0 (.int .i64 u0)) (by first | exact ne_C_O | exact en_O_C) 1 (.int .i64 u1))
        have HNk58 := Lib.hid (CBox.other (CBox.other HNk57.out (by first | exact ne_N_O | exact en_O_N) 0 (.int .i64 u0)) (by first | exact ne_N_O | exact en_O_N) 1 (.int .i64 u1))
        have HOk58 : Hid (CBox (qOk55) 23 #[.int .i64 u0, .int .i64 u1] ((vk57.setCell ⟨qOk55, 0, none⟩ (.int .i64 u0)).setCell ⟨qOk55, 1, none⟩ (.int .i64 u1))) := Lib.hid (CBox.set (CBox.set HOk57.out 0 (.int .i64 u0) (show (0 : Nat) < 2 by decide)) 1 (.int .i64 u1) (show (1 : Nat) < 2 by decide))
        clear hs_
        generalize ((vk57.setCell ⟨qOk55, 0, none⟩ (.int .i64 u0)).setCell ⟨qOk55, 1, none⟩ (.int .i64 u1)) = vk58 at *
        have hs_ := flatS HCk58.out
        refine hK.out _ _ (by exact hs_) (fun hHeld => ?_)
        clear hK K; (try simp only [Act.put, List.setIfInBounds_toArray, List.set_cons_zero, List.set_cons_succ])
        refine wpAnyH_ready (rs := [17]) (by kernel_rfl) (by simp) ?_
        refine AllReadyH.cons (o := flatOp17) rfl (fun K hK => ?_) AllReadyH.nil
        (try unfold flatOp17)
        have u0_ : vk58.cell? ⟨qNk45, 0, none⟩ = some (.int .i64 0) := HNk58.out.c 0 rfl
        have r0_ := HNk58.out.z 0
        have u1_ : vk58.cell? ⟨qNk45, 1, none⟩ = some (.int .i64 0) := HNk58.out.c 1 rfl
        have r1_ := HNk58.out.z 1
        go_simp
        clear u0_ r0_ u1_ r1_
        have HBk59 : Hid (Below w1.heap.size w1 ((vk58.setCell ⟨qNk45, 0, none⟩ (.int .i64 v0)).setCell ⟨qNk45, 1, none⟩ (.int .i64 v1))) := Lib.hid (Below.setCell (Below.setCell HBk58.out gN (.int .i64 v0)) gN (.int .i64 v1))
        have HCk59 := Lib.hid (CBox.other (CBox.other HCk58.out (by first | exact ne_C_N | exact en_N_C) 0 (.int .i64 v0)) (by first | exact ne_C_N | exact en_N_C) 1 (.int .i64 v1))
        have HNk59 : Hid (CBox (qNk45) 23 #[.int .i64 v0, .int .i64 v1] ((vk58.setCell ⟨qNk45, 0, none⟩ (.int .i64 v0)).setCell ⟨qNk45, 1, none⟩ (.int .i64 v1))) := Lib.hid (CBox.set (CBox.set HNk58.out 0 (.int .i64 v0) (show (0 : Nat) < 2 by decide)) 1 (.int .i64 v1) (show (1 : Nat) < 2 by decide))
        have HOk59 := Lib.hid (CBox.other (CBox.other HOk58.out (by first | exact ne_O_N | exact en_N_O) 0 (.int .i64 v0)) (by first | exact ne_O_N | exact en_N_O) 1 (.int .i64 v1))
        clear hs_
        generalize ((vk58.setCell ⟨qNk45, 0, none⟩ (.int .i64 v0)).setCell ⟨qNk45, 1, none⟩ (.int .i64 v1)) = vk59 at *
        have hs_ := flatS HCk59.out
        refine hK.out _ _ (by exact hs_) (fun hHeld => ?_)
        clear hK K; (try simp only [Act.put, List.setIfInBounds_toArray, List.set_cons_zero, List.set_cons_succ])
        refine wpAnyH_done (by kernel_rfl) ?_ _
        go_wp2_with fail
        go_meet
        exact ⟨_, _, rfl, rfl, HOk59.out, HNk59.out, HBk59.out⟩
  case rest =>
    obtain ⟨q3, q4, rfl, rfl, h3, h4, hb⟩ := hcut
    have b1 := HB0.out.trans (hb.mono HB0.out.size)
    clear HB0 HC0 B1 B2 hb
    generalize wc = W1 at *
    have x0 : W1.cell? ⟨q3, 0, none⟩ = some (.int .i64 u0) := h3.c 0 rfl
    have x1 : W1.cell? ⟨q3, 1, none⟩ = some (.int .i64 u1) := h3.c 1 rfl
    have y0 : W1.cell? ⟨q4, 0, none⟩ = some (.int .i64 v0) := h4.c 0 rfl
    have y1 : W1.cell? ⟨q4, 1, none⟩ = some (.int .i64 v1) := h4.c 1 rfl
    have b2 := b1.alloc b1.size (.cells #[.int .i64 u0, .int .i64 u1, .int .i64 v0, .int .i64 v1] 2)
    have hn := World.alloc_heap_new W1 (.cells #[.int .i64 u0, .int .i64 u1, .int .i64 v0, .int .i64 v1] 2)
    have HI : IntsK .i64 (some ⟨W1.heap.size, 0, none⟩) [u0, u1, v0, v1] (W1.alloc (.cells #[.int .i64 u0, .int .i64 u1, .int .i64 v0, .int .i64 v1] 2)) := by
      refine Or.inr ⟨W1.heap.size, 0, rfl, by simp, fun i hi => ?_⟩
      rw [Nat.zero_add]
      unfold World.cell?
      rw [hn]
      have hi' : i < 4 := hi
      match i, hi' with
      | 0, _ => rfl
      | 1, _ => rfl
      | 2, _ => rfl
      | 3, _ => rfl
    have HJ := Lib.hid HI
    have Hb := Lib.hid b2
    clear HI hn b1 b2 h3 h4
    go_wp2_with fail
    refine (WI.out _ _ HJ.out).mono ?_
    rintro e w3 ⟨rfl, rfl⟩
    clear HJ WI
    go_wp2_with fail
    go_ret
    exact ⟨rfl, Hb.out⟩
end Go.Proofs.Ytgkjbmejfcijkaa
