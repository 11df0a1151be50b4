/-
  Package snap: Edge. (Typed by a program: wip/gen_snap2.py.)
-/
import Derived.Test.YtejhegoegmoemaaSnapPt
import Derived.Test.YtejhegoegmoemaaSnapEdg
import Derived.Deep.CutBlock
namespace Go.Proofs.Ytejhegoegmoemaa
open Go.RowKit Go.Shelf

/-- What may be snapped. -/
def EdgS (g : Edg) : Prop := (In62s g.px ∧ In62s g.py) ∧ (In62s g.qx ∧ In62s g.qy)
def zeroE : Edg := ⟨0, 0, 0, 0⟩
/-- What Edge tells. -/
def snapO (g : Edg) : Edg := if Goes14 g then snapE g else zeroE
theorem ee_ret {f : Func} {k j : Nat} (hres : f.results = #[ResultVar.cell k 35, ResultVar.tmp j]) {n : Nat} {w wr : World} {a b c d : Value} {ok : Bool} {ts : Array Value} {R : Ending} (hp : CBox n 35 #[a, b, c, d] wr) (hb : Below w.heap.size w wr) (hts : ts[k]? = some (.pointer (some ⟨n, 0, none⟩))) (hte : ts[j]? = some (.bool ok)) (hR : R = .returned (.tuple #[.agg #[a, b, c, d], .bool ok])) :
    bodyPost Try.prog f (fun e w' => e = R ∧ Below w.heap.size w w') .ret { tmps := ts, defers := [] } wr := by
  subst hR
  have c0 := hp.c 0 rfl; have c1 := hp.c 1 rfl; have c2 := hp.c 2 rfl; have c3 := hp.c 3 rfl
  exact bodyPost_ret (v := .tuple #[.agg #[a, b, c, d], .bool ok]) (by simp [results, hres, go_sem, c0, c1, c2, c3, hts, hte]) rfl ⟨rfl, hb⟩
theorem CBox.set4 {n : Nat} {t : TypeId} {a b c d : Value} {w : World} (h : CBox n t #[a, b, c, d] w) (x y z u : Value) : CBox n t #[x, y, z, u] ((((w.setCell ⟨n, 0, none⟩ x).setCell ⟨n, 1, none⟩ y).setCell ⟨n, 2, none⟩ z).setCell ⟨n, 3, none⟩ u) :=
  CBox.set (CBox.set (CBox.set (CBox.set h 0 x (show 0 < 4 by decide)) 1 y (show 1 < 4 by decide)) 2 z (show 2 < 4 by decide)) 3 u (show 3 < 4 by decide)
theorem below_4 {B n : Nat} {w w' : World} (h : Below B w w') (hn : B ≤ n) (x y z u : Value) : Below B w ((((w'.setCell ⟨n, 0, none⟩ x).setCell ⟨n, 1, none⟩ y).setCell ⟨n, 2, none⟩ z).setCell ⟨n, 3, none⟩ u) :=
  Below.setCell (Below.setCell (Below.setCell (Below.setCell h (by exact hn) _) (by exact hn) _) (by exact hn) _) (by exact hn) _
/-- What is answered: the ends snapped, or nothing where the edge goes nowhere. -/
def edgR (X Y U V : Int) : Ending := .returned (.tuple #[.agg (if Y = V then #[.int .i64 0, .int .i64 0, .int .i64 0, .int .i64 0] else #[.int .i64 X, .int .i64 Y, .int .i64 U, .int .i64 V]), .bool (!decide (Y = V))])
def sedOp0 : Oper := { dst := some 5, op := Go.Op.fieldAddr 35 (Go.Operand.tmp 1) 0, type := 0, pos := "snap.go:24", after := #[], guard := none }
def sedOp1 : Oper := { dst := some 6, op := Go.Op.load 25 (Go.Operand.tmp 5), type := 25, pos := "snap.go:24", after := #[{ on := 0, ground := Go.Ground.data }], guard := none }
def sedOp2 : Oper := { dst := some 7, op := Go.Op.call { callee := Go.Callee.value (Go.Operand.func 10), args := #[Go.Operand.tmp 6], argTypes := #[25] }, type := 25, pos := "snap.go:24", after := #[{ on := 1, ground := Go.Ground.data }], guard := none }
def sedOp3 : Oper := { dst := some 8, op := Go.Op.fieldAddr 35 (Go.Operand.tmp 1) 1, type := 0, pos := "snap.go:24", after := #[], guard := none }
def sedOp4 : Oper := { dst := some 9, op := Go.Op.load 25 (Go.Operand.tmp 8), type := 25, pos := "snap.go:24", after := #[{ on := 3, ground := Go.Ground.data }], guard := none }
def sedOp5 : Oper := { dst := some 10, op := Go.Op.call { callee := Go.Callee.value (Go.Operand.func 10), args := #[Go.Operand.tmp 9], argTypes := #[25] }, type := 25, pos := "snap.go:24", after := #[{ on := 4, ground := Go.Ground.data }, { on := 2, ground := Go.Ground.chain }], guard := none }
def sedOp6 : Oper := { dst := some 11, op := Go.Op.build 35 #[(0, Go.Operand.tmp 7), (1, Go.Operand.tmp 10)], type := 35, pos := "snap.go:24", after := #[{ on := 2, ground := Go.Ground.data }, { on := 5, ground := Go.Ground.data }], guard := none }
def sedOp7 : Oper := { dst := some 4, op := Go.Op.alloc 35, type := 0, pos := "snap.go:24", after := #[], guard := none }
def sedOp8 : Oper := { dst := none, op := Go.Op.store 35 (Go.Operand.tmp 4) (Go.Operand.tmp 11), type := 0, pos := "snap.go:24", after := #[{ on := 7, ground := Go.Ground.data }, { on := 6, ground := Go.Ground.data }, { on := 5, ground := Go.Ground.chain }, { on := 0, ground := Go.Ground.phase }, { on := 1, ground := Go.Ground.phase }, { on := 2, ground := Go.Ground.phase }, { on := 3, ground := Go.Ground.phase }, { on := 4, ground := Go.Ground.phase }, { on := 5, ground := Go.Ground.phase }, { on := 6, ground := Go.Ground.phase }, { on := 7, ground := Go.Ground.phase }], guard := none }
theorem sedS {W : World} {nE : Nat} {tE : TypeId} {e0 e1 e2 e3 : Value} (hE : CBox nE tE #[e0, e1, e2, e3] W) : W.cell? ⟨nE, 0, none⟩ = some e0 ∧ W.cell? ⟨nE, 1, none⟩ = some e1 ∧ W.cell? ⟨nE, 2, none⟩ = some e2 ∧ W.cell? ⟨nE, 3, none⟩ = some e3 := ⟨hE.c 0 rfl, hE.c 1 rfl, hE.c 2 rfl, hE.c 3 rfl⟩
set_option maxHeartbeats 4000000 in
set_option maxRecDepth 100000 in
theorem edge_core (px py qx qy X Y U V : Int) (w : World) (P1 : ∀ w : World, Calls Try.prog 10 #[.agg #[.int .i64 px, .int .i64 py]] w fun e w' => e = .returned (.agg #[.int .i64 X, .int .i64 Y]) ∧ Below w.heap.size w w')
    (P2 : ∀ w : World, Calls Try.prog 10 #[.agg #[.int .i64 qx, .int .i64 qy]] w fun e w' => e = .returned (.agg #[.int .i64 U, .int .i64 V]) ∧ Below w.heap.size w w') :
    Calls Try.prog 16 #[.agg #[.int .i64 px, .int .i64 py, .int .i64 qx, .int .i64 qy]] w fun e w' => e = edgR X Y U V ∧ Below w.heap.size w w' := by
  replace P1 := Lib.hid P1
  replace P2 := Lib.hid P2
  obtain ⟨k1, k2, k3⟩ := boxes_two w #[.int .i64 px, .int .i64 py, .int .i64 qx, .int .i64 qy] #[.int .i64 0, .int .i64 0, .int .i64 0, .int .i64 0] 35 35
  have HE0 := Lib.hid k1; have HZ0 := Lib.hid k2; have HB0 := Lib.hid k3
  clear k1 k2 k3
  go_enter Try.func16, Try.ntmps16
  go_upto_region 1 with fail
  generalize (w.alloc (.cells #[.int .i64 px, .int .i64 py, .int .i64 qx, .int .i64 qy] 35)).alloc (.cells #[.int .i64 0, .int .i64 0, .int .i64 0, .int .i64 0] 35) = w1 at *
  go_cut [4] (fun s4 wc => ∃ q : Nat, s4 = .pointer (some ⟨q, 0, none⟩) ∧ CBox q 35 #[.int .i64 X, .int .i64 Y, .int .i64 U, .int .i64 V] wc ∧ w1.heap.size ≤ q ∧ Below w1.heap.size w1 wc)
  case first =>
    have hs_ := sedS HE0.out
    refine wp_region_held_drew (S := (fun w' => w'.cell? ⟨w.heap.size, 0, none⟩ = some (.int .i64 px) ∧ w'.cell? ⟨w.heap.size, 1, none⟩ = some (.int .i64 py) ∧ w'.cell? ⟨w.heap.size, 2, none⟩ = some (.int .i64 qx) ∧ w'.cell? ⟨w.heap.size, 3, none⟩ = some (.int .i64 qy))) (by kernel_rfl) ?_ (fun hHeld => ?_)
    · (try dsimp only); first | exact hs_ | (simp [go_sem, *]; done)
    clear hs_
    have HBk1 : Hid (Below w1.heap.size w1 w1.drew) := Lib.hid (Below.refl w1.heap.size w1).drew
    have HEk1 : Hid (CBox (w.heap.size) 35 #[.int .i64 px, .int .i64 py, .int .i64 qx, .int .i64 qy] w1.drew) := Lib.hid HE0.out
    generalize w1.drew = dk1 at *
    have hs_ := sedS HEk1.out
    refine wpAnyH_take (i := 0) (oi := sedOp0) (v := ?_) rfl (by kernel_rfl) (by kernel_rfl) (by kernel_rfl) (fun _ _ _ h => h) (Or.inl ⟨by rfl, ?_⟩) (by assumption) ?_
    rotate_left
    · ((try unfold sedOp0); intro w hSw; (try dsimp only at hSw); go_simp; (first | done | with_reducible rfl))
    (try unfold sedOp0)
    (try simp only [Act.put, List.setIfInBounds_toArray, List.set_cons_zero, List.set_cons_succ])
    refine wpAnyH_take (i := 1) (oi := sedOp1) (v := ?_) rfl (by kernel_rfl) (by kernel_rfl) (by kernel_rfl) (fun _ _ _ h => h) (Or.inl ⟨by rfl, ?_⟩) (by assumption) ?_
    rotate_left
    · ((try unfold sedOp1); intro w hSw; (try dsimp only at hSw); go_simp; (first | done | with_reducible rfl))
    (try unfold sedOp1)
    (try simp only [Act.put, List.setIfInBounds_toArray, List.set_cons_zero, List.set_cons_succ])
    refine wpAnyH_take (i := 3) (oi := sedOp3) (v := ?_) rfl (by kernel_rfl) (by kernel_rfl) (by kernel_rfl) (fun _ _ _ h => h) (Or.inl ⟨by rfl, ?_⟩) (by assumption) ?_
    rotate_left
    · ((try unfold sedOp3); intro w hSw; (try dsimp only at hSw); go_simp; (first | done | with_reducible rfl))
    (try unfold sedOp3)
    (try simp only [Act.put, List.setIfInBounds_toArray, List.set_cons_zero, List.set_cons_succ])
    refine wpAnyH_take (i := 4) (oi := sedOp4) (v := ?_) rfl (by kernel_rfl) (by kernel_rfl) (by kernel_rfl) (fun _ _ _ h => h) (Or.inl ⟨by rfl, ?_⟩) (by assumption) ?_
    rotate_left
    · ((try unfold sedOp4); intro w hSw; (try dsimp only at hSw); go_simp; (first | done | with_reducible rfl))
    (try unfold sedOp4)
    (try simp only [Act.put, List.setIfInBounds_toArray, List.set_cons_zero, List.set_cons_succ])
    refine wpAnyH_ready (rs := [2, 7]) (by kernel_rfl) (by simp) ?_
    refine AllReadyH.cons (o := sedOp2) rfl (fun K hK => ?_) (AllReadyH.cons (o := sedOp7) rfl (fun K hK => ?_) AllReadyH.nil)
    ·
      (try unfold sedOp2)
      go_simp
      (go_at_call 10; (with_reducible refine (P1.out _).mono ?_); rintro e vk2 ⟨rfl, bq⟩)
      have HBk2 := Lib.hid (HBk1.out.trans (bq.mono HBk1.out.size)); have HEk2 := Lib.hid (HEk1.out.next bq); clear bq
      clear hs_
      have hs_ := sedS HEk2.out
      refine hK.out _ _ (by exact hs_) (fun hHeld => ?_)
      clear hK K; (try simp only [Act.put, List.setIfInBounds_toArray, List.set_cons_zero, List.set_cons_succ])
      refine wpAnyH_ready (rs := [5, 7]) (by kernel_rfl) (by simp) ?_
      refine AllReadyH.cons (o := sedOp5) rfl (fun K hK => ?_) (AllReadyH.cons (o := sedOp7) rfl (fun K hK => ?_) AllReadyH.nil)
      ·
        (try unfold sedOp5)
        go_simp
        (go_at_call 10; (with_reducible refine (P2.out _).mono ?_); rintro e vk3 ⟨rfl, bq⟩)
        have HBk3 := Lib.hid (HBk2.out.trans (bq.mono HBk2.out.size)); have HEk3 := Lib.hid (HEk2.out.next bq); clear bq
        clear hs_
        have hs_ := sedS HEk3.out
        refine hK.out _ _ (by exact hs_) (fun hHeld => ?_)
        clear hK K; (try simp only [Act.put, List.setIfInBounds_toArray, List.set_cons_zero, List.set_cons_succ])
        refine wpAnyH_take (i := 6) (oi := sedOp6) (v := ?_) rfl (by kernel_rfl) (by kernel_rfl) (by kernel_rfl) (fun _ _ _ h => h) (Or.inl ⟨by rfl, ?_⟩) (by assumption) ?_
        rotate_left
        · ((try unfold sedOp6); intro w hSw; (try dsimp only at hSw); go_simp; (first | done | with_reducible rfl))
        (try unfold sedOp6)
        (try simp only [Act.put, List.setIfInBounds_toArray, List.set_cons_zero, List.set_cons_succ])
        refine wpAnyH_ready (rs := [7]) (by kernel_rfl) (by simp) ?_
        refine AllReadyH.cons (o := sedOp7) rfl (fun K hK => ?_) AllReadyH.nil
        (try unfold sedOp7)
        go_simp
        have bq := (Below.refl vk3.heap.size (vk3)).alloc (Nat.le_refl _) (.cells #[.int .i64 0, .int .i64 0, .int .i64 0, .int .i64 0] 35)
        have HBk4 := Lib.hid (HBk3.out.trans (bq.mono HBk3.out.size))
        have HEk4 := Lib.hid (HEk3.out.next bq)
        have HSk4 := Lib.hid (CBox.new (vk3) 35 #[.int .i64 0, .int .i64 0, .int .i64 0, .int .i64 0])
        have gS := HBk3.out.size
        have ne_E_S := Nat.ne_of_lt HEk3.out.lt
        have en_E_S := Nat.ne_of_gt HEk3.out.lt
        clear bq
        clear hs_
        clear HBk3 HEk3
        generalize (vk3.alloc (.cells #[.int .i64 0, .int .i64 0, .int .i64 0, .int .i64 0] 35)) = vk4 at *
        generalize (vk3).heap.size = qSk4 at *
        have hs_ := sedS HEk4.out
        refine hK.out _ _ (by exact hs_) (fun hHeld => ?_)
        clear hK K; (try simp only [Act.put, List.setIfInBounds_toArray, List.set_cons_zero, List.set_cons_succ])
        refine wpAnyH_ready (rs := [8]) (by kernel_rfl) (by simp) ?_
        refine AllReadyH.cons (o := sedOp8) rfl (fun K hK => ?_) AllReadyH.nil
        (try unfold sedOp8)
        have u0_ : vk4.cell? ⟨qSk4, 0, none⟩ = some (.int .i64 0) := HSk4.out.c 0 rfl
        have r0_ := HSk4.out.z 0
        have u1_ : vk4.cell? ⟨qSk4, 1, none⟩ = some (.int .i64 0) := HSk4.out.c 1 rfl
        have r1_ := HSk4.out.z 1
        have u2_ : vk4.cell? ⟨qSk4, 2, none⟩ = some (.int .i64 0) := HSk4.out.c 2 rfl
        have r2_ := HSk4.out.z 2
        have u3_ : vk4.cell? ⟨qSk4, 3, none⟩ = some (.int .i64 0) := HSk4.out.c 3 rfl
        have r3_ := HSk4.out.z 3
        go_simp
        clear u0_ r0_ u1_ r1_ u2_ r2_ u3_ r3_
        have HBk5 : Hid (Below w1.heap.size w1 ((((vk4.setCell ⟨qSk4, 0, none⟩ (.int .i64 X)).setCell ⟨qSk4, 1, none⟩ (.int .i64 Y)).setCell ⟨qSk4, 2, none⟩ (.int .i64 U)).setCell ⟨qSk4, 3, none⟩ (.int .i64 V))) := Lib.hid (Below.setCell (Below.setCell (Below.setCell (Below.setCell HBk4.out gS (.int .i64 X)) gS (.int .i64 Y)) gS (.int .i64 U)) gS (.int .i64 V))
        have HEk5 := Lib.hid (CBox.other (CBox.other (CBox.other (CBox.other HEk4.out (by first | exact ne_E_S | exact en_S_E) 0 (.int .i64 X)) (by first | exact ne_E_S | exact en_S_E) 1 (.int .i64 Y)) (by first | exact ne_E_S | exact en_S_E) 2 (.int .i64 U)) (by first | exact ne_E_S | exact en_S_E) 3 (.int .i64 V))
        have HSk5 : Hid (CBox (qSk4) 35 #[.int .i64 X, .int .i64 Y, .int .i64 U, .int .i64 V] ((((vk4.setCell ⟨qSk4, 0, none⟩ (.int .i64 X)).setCell ⟨qSk4, 1, none⟩ (.int .i64 Y)).setCell ⟨qSk4, 2, none⟩ (.int .i64 U)).setCell ⟨qSk4, 3, none⟩ (.int .i64 V))) := Lib.hid (CBox.set (CBox.set (CBox.set (CBox.set HSk4.out 0 (.int .i64 X) (show (0 : Nat) < 4 by decide)) 1 (.int .i64 Y) (show (1 : Nat) < 4 by decide)) 2 (.int .i64 U) (show (2 : Nat) < 4 by decide)) 3 (.int .i64 V) (show (3 : Nat) < 4 by decide))
        clear hs_
        generalize ((((vk4.setCell ⟨qSk4, 0, none⟩ (.int .i64 X)).setCell ⟨qSk4, 1, none⟩ (.int .i64 Y)).setCell ⟨qSk4, 2, none⟩ (.int .i64 U)).setCell ⟨qSk4, 3, none⟩ (.int .i64 V)) = vk5 at *
        have hs_ := sedS HEk5.out
        refine hK.out _ _ (by exact hs_) (fun hHeld => ?_)
        clear hK K; (try simp only [Act.put, List.setIfInBounds_toArray, List.set_cons_zero, List.set_cons_succ])
        refine wpAnyH_done (by kernel_rfl) ?_ _
        go_wp2_with fail
        go_meet
        exact ⟨_, rfl, HSk5.out, gS, HBk5.out⟩
      ·
        (try unfold sedOp7)
        go_simp
        have bq := (Below.refl vk2.heap.size (vk2)).alloc (Nat.le_refl _) (.cells #[.int .i64 0, .int .i64 0, .int .i64 0, .int .i64 0] 35)
        have HBk6 := Lib.hid (HBk2.out.trans (bq.mono HBk2.out.size))
        have HEk6 := Lib.hid (HEk2.out.next bq)
        have HSk6 := Lib.hid (CBox.new (vk2) 35 #[.int .i64 0, .int .i64 0, .int .i64 0, .int .i64 0])
        have gS := HBk2.out.size
        have ne_E_S := Nat.ne_of_lt HEk2.out.lt
        have en_E_S := Nat.ne_of_gt HEk2.out.lt
        clear bq
        clear hs_
        clear HBk2 HEk2
        generalize (vk2.alloc (.cells #[.int .i64 0, .int .i64 0, .int .i64 0, .int .i64 0] 35)) = vk6 at *
        generalize (vk2).heap.size = qSk6 at *
        have hs_ := sedS HEk6.out
        refine hK.out _ _ (by exact hs_) (fun hHeld => ?_)
        clear hK K; (try simp only [Act.put, List.setIfInBounds_toArray, List.set_cons_zero, List.set_cons_succ])
        refine wpAnyH_ready (rs := [5]) (by kernel_rfl) (by simp) ?_
        refine AllReadyH.cons (o := sedOp5) rfl (fun K hK => ?_) AllReadyH.nil
        (try unfold sedOp5)
        go_simp
        (go_at_call 10; (with_reducible refine (P2.out _).mono ?_); rintro e vk7 ⟨rfl, bq⟩)
        have HBk7 := Lib.hid (HBk6.out.trans (bq.mono HBk6.out.size)); have HEk7 := Lib.hid (HEk6.out.next bq); have HSk7 := Lib.hid (HSk6.out.next bq); clear bq
        clear hs_
        have hs_ := sedS HEk7.out
        refine hK.out _ _ (by exact hs_) (fun hHeld => ?_)
        clear hK K; (try simp only [Act.put, List.setIfInBounds_toArray, List.set_cons_zero, List.set_cons_succ])
        refine wpAnyH_take (i := 6) (oi := sedOp6) (v := ?_) rfl (by kernel_rfl) (by kernel_rfl) (by kernel_rfl) (fun _ _ _ h => h) (Or.inl ⟨by rfl, ?_⟩) (by assumption) ?_
        rotate_left
        · ((try unfold sedOp6); intro w hSw; (try dsimp only at hSw); go_simp; (first | done | with_reducible rfl))
        (try unfold sedOp6)
        (try simp only [Act.put, List.setIfInBounds_toArray, List.set_cons_zero, List.set_cons_succ])
        refine wpAnyH_ready (rs := [8]) (by kernel_rfl) (by simp) ?_
        refine AllReadyH.cons (o := sedOp8) rfl (fun K hK => ?_) AllReadyH.nil
        (try unfold sedOp8)
        have u0_ : vk7.cell? ⟨qSk6, 0, none⟩ = some (.int .i64 0) := HSk7.out.c 0 rfl
        have r0_ := HSk7.out.z 0
        have u1_ : vk7.cell? ⟨qSk6, 1, none⟩ = some (.int .i64 0) := HSk7.out.c 1 rfl
        have r1_ := HSk7.out.z 1
        have u2_ : vk7.cell? ⟨qSk6, 2, none⟩ = some (.int .i64 0) := HSk7.out.c 2 rfl
        have r2_ := HSk7.out.z 2
        have u3_ : vk7.cell? ⟨qSk6, 3, none⟩ = some (.int .i64 0) := HSk7.out.c 3 rfl
        have r3_ := HSk7.out.z 3
        go_simp
        clear u0_ r0_ u1_ r1_ u2_ r2_ u3_ r3_
        have HBk8 : Hid (Below w1.heap.size w1 ((((vk7.setCell ⟨qSk6, 0, none⟩ (.int .i64 X)).setCell ⟨qSk6, 1, none⟩ (.int .i64 Y)).setCell ⟨qSk6, 2, none⟩ (.int .i64 U)).setCell ⟨qSk6, 3, none⟩ (.int .i64 V))) := Lib.hid (Below.setCell (Below.setCell (Below.setCell (Below.setCell HBk7.out gS (.int .i64 X)) gS (.int .i64 Y)) gS (.int .i64 U)) gS (.int .i64 V))
        have HEk8 := Lib.hid (CBox.other (CBox.other (CBox.other (CBox.other HEk7.out (by first | exact ne_E_S | exact en_S_E) 0 (.int .i64 X)) (by first | exact ne_E_S | exact en_S_E) 1 (.int .i64 Y)) (by first | exact ne_E_S | exact en_S_E) 2 (.int .i64 U)) (by first | exact ne_E_S | exact en_S_E) 3 (.int .i64 V))
        have HSk8 : Hid (CBox (qSk6) 35 #[.int .i64 X, .int .i64 Y, .int .i64 U, .int .i64 V] ((((vk7.setCell ⟨qSk6, 0, none⟩ (.int .i64 X)).setCell ⟨qSk6, 1, none⟩ (.int .i64 Y)).setCell ⟨qSk6, 2, none⟩ (.int .i64 U)).setCell ⟨qSk6, 3, none⟩ (.int .i64 V))) := Lib.hid (CBox.set (CBox.set (CBox.set (CBox.set HSk7.out 0 (.int .i64 X) (show (0 : Nat) < 4 by decide)) 1 (.int .i64 Y) (show (1 : Nat) < 4 by decide)) 2 (.int .i64 U) (show (2 : Nat) < 4 by decide)) 3 (.int .i64 V) (show (3 : Nat) < 4 by decide))
        clear hs_
        generalize ((((vk7.setCell ⟨qSk6, 0, none⟩ (.int .i64 X)).setCell ⟨qSk6, 1, none⟩ (.int .i64 Y)).setCell ⟨qSk6, 2, none⟩ (.int .i64 U)).setCell ⟨qSk6, 3, none⟩ (.int .i64 V)) = vk8 at *
        have hs_ := sedS HEk8.out
        refine hK.out _ _ (by exact hs_) (fun hHeld => ?_)
        clear hK K; (try simp only [Act.put, List.setIfInBounds_toArray, List.set_cons_zero, List.set_cons_succ])
        refine wpAnyH_done (by kernel_rfl) ?_ _
        go_wp2_with fail
        go_meet
        exact ⟨_, rfl, HSk8.out, gS, HBk8.out⟩
    ·
      (try unfold sedOp7)
      go_simp
      have bq := (Below.refl dk1.heap.size (dk1)).alloc (Nat.le_refl _) (.cells #[.int .i64 0, .int .i64 0, .int .i64 0, .int .i64 0] 35)
      have HBk9 := Lib.hid (HBk1.out.trans (bq.mono HBk1.out.size))
      have HEk9 := Lib.hid (HEk1.out.next bq)
      have HSk9 := Lib.hid (CBox.new (dk1) 35 #[.int .i64 0, .int .i64 0, .int .i64 0, .int .i64 0])
      have gS := HBk1.out.size
      have ne_E_S := Nat.ne_of_lt HEk1.out.lt
      have en_E_S := Nat.ne_of_gt HEk1.out.lt
      clear bq
      clear hs_
      clear HBk1 HEk1
      generalize (dk1.alloc (.cells #[.int .i64 0, .int .i64 0, .int .i64 0, .int .i64 0] 35)) = vk9 at *
      generalize (dk1).heap.size = qSk9 at *
      have hs_ := sedS HEk9.out
      refine hK.out _ _ (by exact hs_) (fun hHeld => ?_)
      clear hK K; (try simp only [Act.put, List.setIfInBounds_toArray, List.set_cons_zero, List.set_cons_succ])
      refine wpAnyH_ready (rs := [2]) (by kernel_rfl) (by simp) ?_
      refine AllReadyH.cons (o := sedOp2) rfl (fun K hK => ?_) AllReadyH.nil
      (try unfold sedOp2)
      go_simp
      (go_at_call 10; (with_reducible refine (P1.out _).mono ?_); rintro e vk10 ⟨rfl, bq⟩)
      have HBk10 := Lib.hid (HBk9.out.trans (bq.mono HBk9.out.size)); have HEk10 := Lib.hid (HEk9.out.next bq); have HSk10 := Lib.hid (HSk9.out.next bq); clear bq
      clear hs_
      have hs_ := sedS HEk10.out
      refine hK.out _ _ (by exact hs_) (fun hHeld => ?_)
      clear hK K; (try simp only [Act.put, List.setIfInBounds_toArray, List.set_cons_zero, List.set_cons_succ])
      refine wpAnyH_ready (rs := [5]) (by kernel_rfl) (by simp) ?_
      refine AllReadyH.cons (o := sedOp5) rfl (fun K hK => ?_) AllReadyH.nil
      (try unfold sedOp5)
      go_simp
      (go_at_call 10; (with_reducible refine (P2.out _).mono ?_); rintro e vk11 ⟨rfl, bq⟩)
      have HBk11 := Lib.hid (HBk10.out.trans (bq.mono HBk10.out.size)); have HEk11 := Lib.hid (HEk10.out.next bq); have HSk11 := Lib.hid (HSk10.out.next bq); clear bq
      clear hs_
      have hs_ := sedS HEk11.out
      refine hK.out _ _ (by exact hs_) (fun hHeld => ?_)
      clear hK K; (try simp only [Act.put, List.setIfInBounds_toArray, List.set_cons_zero, List.set_cons_succ])
      refine wpAnyH_take (i := 6) (oi := sedOp6) (v := ?_) rfl (by kernel_rfl) (by kernel_rfl) (by kernel_rfl) (fun _ _ _ h => h) (Or.inl ⟨by rfl, ?_⟩) (by assumption) ?_
      rotate_left
      · ((try unfold sedOp6); intro w hSw; (try dsimp only at hSw); go_simp; (first | done | with_reducible rfl))
      (try unfold sedOp6)
      (try simp only [Act.put, List.setIfInBounds_toArray, List.set_cons_zero, List.set_cons_succ])
      refine wpAnyH_ready (rs := [8]) (by kernel_rfl) (by simp) ?_
      refine AllReadyH.cons (o := sedOp8) rfl (fun K hK => ?_) AllReadyH.nil
      (try unfold sedOp8)
      have u0_ : vk11.cell? ⟨qSk9, 0, none⟩ = some (.int .i64 0) := HSk11.out.c 0 rfl
      have r0_ := HSk11.out.z 0
      have u1_ : vk11.cell? ⟨qSk9, 1, none⟩ = some (.int .i64 0) := HSk11.out.c 1 rfl
      have r1_ := HSk11.out.z 1
      have u2_ : vk11.cell? ⟨qSk9, 2, none⟩ = some (.int .i64 0) := HSk11.out.c 2 rfl
      have r2_ := HSk11.out.z 2
      have u3_ : vk11.cell? ⟨qSk9, 3, none⟩ = some (.int .i64 0) := HSk11.out.c 3 rfl
      have r3_ := HSk11.out.z 3
      go_simp
      clear u0_ r0_ u1_ r1_ u2_ r2_ u3_ r3_
      have HBk12 : Hid (Below w1.heap.size w1 ((((vk11.setCell ⟨qSk9, 0, none⟩ (.int .i64 X)).setCell ⟨qSk9, 1, none⟩ (.int .i64 Y)).setCell ⟨qSk9, 2, none⟩ (.int .i64 U)).setCell ⟨qSk9, 3, none⟩ (.int .i64 V))) := Lib.hid (Below.setCell (Below.setCell (Below.setCell (Below.setCell HBk11.out gS (.int .i64 X)) gS (.int .i64 Y)) gS (.int .i64 U)) gS (.int .i64 V))
      have HEk12 := Lib.hid (CBox.other (CBox.other (CBox.other (CBox.other HEk11.out (by first | exact ne_E_S | exact en_S_E) 0 (.int .i64 X)) (by first | exact ne_E_S | exact en_S_E) 1 (.int .i64 Y)) (by first | exact ne_E_S | exact en_S_E) 2 (.int .i64 U)) (by first | exact ne_E_S | exact en_S_E) 3 (.int .i64 V))
      have HSk12 : Hid (CBox (qSk9) 35 #[.int .i64 X, .int .i64 Y, .int .i64 U, .int .i64 V] ((((vk11.setCell ⟨qSk9, 0, none⟩ (.int .i64 X)).setCell ⟨qSk9, 1, none⟩ (.int .i64 Y)).setCell ⟨qSk9, 2, none⟩ (.int .i64 U)).setCell ⟨qSk9, 3, none⟩ (.int .i64 V))) := Lib.hid (CBox.set (CBox.set (CBox.set (CBox.set HSk11.out 0 (.int .i64 X) (show (0 : Nat) < 4 by decide)) 1 (.int .i64 Y) (show (1 : Nat) < 4 by decide)) 2 (.int .i64 U) (show (2 : Nat) < 4 by decide)) 3 (.int .i64 V) (show (3 : Nat) < 4 by decide))
      clear hs_
      generalize ((((vk11.setCell ⟨qSk9, 0, none⟩ (.int .i64 X)).setCell ⟨qSk9, 1, none⟩ (.int .i64 Y)).setCell ⟨qSk9, 2, none⟩ (.int .i64 U)).setCell ⟨qSk9, 3, none⟩ (.int .i64 V)) = vk12 at *
      have hs_ := sedS HEk12.out
      refine hK.out _ _ (by exact hs_) (fun hHeld => ?_)
      clear hK K; (try simp only [Act.put, List.setIfInBounds_toArray, List.set_cons_zero, List.set_cons_succ])
      refine wpAnyH_done (by kernel_rfl) ?_ _
      go_wp2_with fail
      go_meet
      exact ⟨_, rfl, HSk12.out, gS, HBk12.out⟩
  case rest =>
    obtain ⟨q, rfl, hs, gq, hb⟩ := hcut
    have hz := HZ0.out.lt
    have m1 : ¬ q = w.heap.size + 1 := by omega
    have m2 : ¬ w.heap.size + 1 = q := by omega
    have HB2 := Lib.hid (HB0.out.trans (hb.mono HB0.out.size))
    have HZ2 := Lib.hid (HZ0.out.next hb)
    have HS2 := Lib.hid hs
    clear hs hb gq hz HB0 HZ0 HE0 P1 P2
    have s0 : wc.cell? ⟨q, 0, none⟩ = some (.int .i64 X) := HS2.out.c 0 rfl
    have s1 : wc.cell? ⟨q, 1, none⟩ = some (.int .i64 Y) := HS2.out.c 1 rfl
    have s2 : wc.cell? ⟨q, 2, none⟩ = some (.int .i64 U) := HS2.out.c 2 rfl
    have s3 : wc.cell? ⟨q, 3, none⟩ = some (.int .i64 V) := HS2.out.c 3 rfl
    have z0 : wc.cell? ⟨w.heap.size + 1, 0, none⟩ = some (.int .i64 0) := HZ2.out.c 0 rfl
    have f0 := HZ2.out.z 0
    have z1 : wc.cell? ⟨w.heap.size + 1, 1, none⟩ = some (.int .i64 0) := HZ2.out.c 1 rfl
    have f1 := HZ2.out.z 1
    have z2 : wc.cell? ⟨w.heap.size + 1, 2, none⟩ = some (.int .i64 0) := HZ2.out.c 2 rfl
    have f2 := HZ2.out.z 2
    have z3 : wc.cell? ⟨w.heap.size + 1, 3, none⟩ = some (.int .i64 0) := HZ2.out.c 3 rfl
    have f3 := HZ2.out.z 3
    by_cases hc : Y = V
    · subst hc
      go_wp2_with fail
      exact ee_ret Try.results16 (CBox.set4 HZ2.out _ _ _ _) (below_4 HB2.out (by omega) _ _ _ _) rfl rfl (by unfold edgR; rw [if_pos rfl, decide_eq_true rfl]; rfl)
    · have hd : (Y == V) = false := beq_eq_false_iff_ne.2 hc
      go_wp2_with fail
      exact ee_ret Try.results16 (CBox.set4 HZ2.out _ _ _ _) (below_4 HB2.out (by omega) _ _ _ _) rfl rfl (by unfold edgR; rw [if_neg hc, decide_eq_false hc]; rfl)
theorem edge_any (g : Edg) (w : World) (hg : EdgS g) :
    Calls Try.prog 16 #[g.val] w fun e w' => e = .returned (.tuple #[(snapO g).val, .bool (decide (Goes14 g))]) ∧ Below w.heap.size w w' := by
  obtain ⟨⟨h1, h2⟩, h3, h4⟩ := hg
  have h := edge_core g.px g.py g.qx g.qy _ _ _ _ w (fun w => point_any g.px g.py w h1 h2) (fun w => point_any g.qx g.qy w h3 h4)
  unfold edgR at h
  by_cases hc : snapN g.py = snapN g.qy
  · rw [if_pos hc, decide_eq_true hc] at h
    have hG : ¬ Goes14 g := fun h => h hc
    unfold snapO
    rw [if_neg hG, decide_eq_false hG]
    exact h
  · rw [if_neg hc, decide_eq_false hc] at h
    have hG : Goes14 g := hc
    unfold snapO
    rw [if_pos hG, decide_eq_true hG]
    exact h
end Go.Proofs.Ytejhegoegmoemaa
