/-
  FlatPieces, whatever tells the pieces, and counts them. (Typed by a program: wip/gen_pieces12.py.)
-/
import Derived.Test.YtgkjbmejfcijkaaFlatBoxW
import Derived.Test.YtgkjbmejfcijkaaLawTold12
import Derived.Test.YtgkjbmejfcijkaaRefFlat
import Derived.Test.YtgkjbmejfcijkaaRefChords
namespace Go.Proofs.Ytgkjbmejfcijkaa
open Go.RowKit Go.Shelf
attribute [local go_sem] Oper.semAt_some

theorem piece_at {P : List Crv} {m : Nat} {pre r : List (Int × Int)} {x : Int × Int} (h : pre ++ [x] ++ r = P.map endP) (hl : pre.length < (P.take m).length) : ∃ g, (P.take m)[pre.length]? = some g ∧ x = endP g := by
  refine ⟨(P.take m)[pre.length], List.getElem?_eq_getElem hl, ?_⟩
  have h1 : (pre ++ [x] ++ r)[pre.length]? = some x := by simp
  rw [h, List.getElem?_map] at h1
  have h2 : pre.length < P.length := by rw [List.length_take] at hl; omega
  rw [List.getElem?_eq_getElem h2] at h1
  rw [List.getElem_take]
  exact (Option.some.inj h1).symm
def fpcOp0 : Oper := { dst := some 38, op := Go.Op.load 28 (Go.Operand.tmp 6), type := 28, pos := "law.go:52", after := #[], guard := none }
def fpcOp1 : Oper := { dst := some 39, op := Go.Op.load 3 (Go.Operand.tmp 7), type := 3, pos := "law.go:52", after := #[], guard := none }
def fpcOp2 : Oper := { dst := some 40, op := Go.Op.indexAddr 28 (Go.Operand.tmp 38) (Go.Operand.tmp 39), type := 0, pos := "law.go:52", after := #[{ on := 0, ground := Go.Ground.data }, { on := 1, ground := Go.Ground.data }], guard := none }
def fpcOp3 : Oper := { dst := some 41, op := Go.Op.load 25 (Go.Operand.tmp 40), type := 25, pos := "law.go:52", after := #[{ on := 2, ground := Go.Ground.data }], guard := none }
def fpcOp4 : Oper := { dst := some 42, op := Go.Op.load 28 (Go.Operand.tmp 5), type := 28, pos := "law.go:52", after := #[], guard := none }
def fpcOp5 : Oper := { dst := some 43, op := Go.Op.load 3 (Go.Operand.tmp 7), type := 3, pos := "law.go:52", after := #[], guard := none }
def fpcOp6 : Oper := { dst := some 44, op := Go.Op.indexAddr 28 (Go.Operand.tmp 42) (Go.Operand.tmp 43), type := 0, pos := "law.go:52", after := #[{ on := 4, ground := Go.Ground.data }, { on := 5, ground := Go.Ground.data }], guard := none }
def fpcOp7 : Oper := { dst := some 45, op := Go.Op.load 25 (Go.Operand.tmp 44), type := 25, pos := "law.go:52", after := #[{ on := 6, ground := Go.Ground.data }], guard := none }
def fpcOp8 : Oper := { dst := some 46, op := Go.Op.binOp Go.BinOp.neq 25 (Go.Operand.tmp 41) (Go.Operand.tmp 45) 25, type := 4, pos := "law.go:52", after := #[{ on := 3, ground := Go.Ground.data }, { on := 7, ground := Go.Ground.data }], guard := none }
def fpcOp9 : Oper := { dst := some 47, op := Go.Op.move (Go.Operand.tmp 46), type := 4, pos := "law.go:52", after := #[{ on := 8, ground := Go.Ground.data }], guard := none }
def fpcOp10 : Oper := { dst := some 48, op := Go.Op.load 23 (Go.Operand.tmp 9), type := 23, pos := "law.go:52", after := #[{ on := 9, ground := Go.Ground.guard }], guard := some (9, false) }
def fpcOp11 : Oper := { dst := some 49, op := Go.Op.load 28 (Go.Operand.tmp 5), type := 28, pos := "law.go:52", after := #[{ on := 9, ground := Go.Ground.guard }], guard := some (9, false) }
def fpcOp12 : Oper := { dst := some 50, op := Go.Op.load 3 (Go.Operand.tmp 7), type := 3, pos := "law.go:52", after := #[{ on := 9, ground := Go.Ground.guard }], guard := some (9, false) }
def fpcOp13 : Oper := { dst := some 51, op := Go.Op.indexAddr 28 (Go.Operand.tmp 49) (Go.Operand.tmp 50), type := 0, pos := "law.go:52", after := #[{ on := 11, ground := Go.Ground.data }, { on := 12, ground := Go.Ground.data }, { on := 9, ground := Go.Ground.guard }], guard := some (9, false) }
def fpcOp14 : Oper := { dst := some 52, op := Go.Op.fieldAddr 25 (Go.Operand.tmp 51) 3, type := 0, pos := "law.go:52", after := #[{ on := 13, ground := Go.Ground.data }, { on := 9, ground := Go.Ground.guard }], guard := some (9, false) }
def fpcOp15 : Oper := { dst := some 53, op := Go.Op.load 23 (Go.Operand.tmp 52), type := 23, pos := "law.go:52", after := #[{ on := 14, ground := Go.Ground.data }, { on := 9, ground := Go.Ground.guard }], guard := some (9, false) }
def fpcOp16 : Oper := { dst := some 54, op := Go.Op.binOp Go.BinOp.neq 23 (Go.Operand.tmp 48) (Go.Operand.tmp 53) 23, type := 4, pos := "law.go:52", after := #[{ on := 10, ground := Go.Ground.data }, { on := 15, ground := Go.Ground.data }, { on := 9, ground := Go.Ground.guard }], guard := some (9, false) }
def fpcOp17 : Oper := { dst := some 55, op := Go.Op.pick (Go.Operand.tmp 47) (Go.Operand.const (Go.Value.bool true)) (Go.Operand.tmp 54), type := 4, pos := "law.go:52", after := #[{ on := 9, ground := Go.Ground.data }, { on := 16, ground := Go.Ground.data }], guard := none }
set_option maxHeartbeats 8000000 in
set_option maxRecDepth 100000 in
theorem flatpieces_walk (PI : PiecesOk) (CO : CountOk) (c : Crv) (m : Nat) (hm : m ≤ 255) (w : World) : Calls Try.prog 3 #[c.val, .int .u8 (m : Int)] w fun e w' => e = .returned (.bool true) ∧ Below w.heap.size w w' := by
  refine (callsIn_wide (n := 6)).1 ?_
  have K := Lib.hid (fun w => wakes12 PI CO w)
  have RR := Lib.hid (fun w => rright11 c w)
  by_cases hr : c.right
  · rw [decide_eq_true hr] at RR
    have PC := Lib.hid (fun w => points_any PI c w hr)
    have TO := Lib.hid (fun w => told12 PI c m w hr (by omega))
    have RP := Lib.hid (fun w => rpieces12 20 c (m : Int) w (Nat.le_refl _) hr ⟨by omega, by omega⟩)
    rw [show (20 : Int) - ((20 : Nat) : Int) = 0 from by decide, Int.toNat_natCast] at RP
    have hlen := take_len 20 m c (Nat.le_refl _)
    have hat := fun (pre r : List (Int × Int)) (x : Int × Int) (h : pre ++ [x] ++ r = (pieces12 20 c).map endP) (hl : pre.length < ((pieces12 20 c).take m).length) => piece_at h hl
    have hle : ((pieces12 20 c).take m).length ≤ ((pieces12 20 c).map endP).length := by rw [List.length_map, List.length_take]; omega
    generalize (pieces12 20 c).map endP = RES at *
    generalize (pieces12 20 c).take m = L at *
    have hwm : IntKind.i64.wrap (m : Int) = (m : Int) := IntWalk.i64_in _ (by omega)
    clear hr PI CO
    obtain ⟨px, py, qx, qy, rx, ry, sx, sy⟩ := c
    unfold Crv.val Crv.arr at *
    dsimp only at *
    obtain ⟨k1, k2, k3⟩ := boxes_two w #[.int .i64 px, .int .i64 py, .int .i64 qx, .int .i64 qy, .int .i64 rx, .int .i64 ry, .int .i64 sx, .int .i64 sy] #[.bool false] 25 4
    have HC0 := Lib.hid k1; have HZ0 := Lib.hid k2; have HB0 := Lib.hid k3
    clear k1 k2 k3
    refine callsIn_of_wp_marks Try.func3 rfl trivial ?_ rfl
    simp only [Try.ntmps3, List.size_toArray, List.length_cons, List.length_nil, Nat.reduceAdd, Nat.reduceSub, Array.replicate_succ, Array.replicate_zero, List.push_toArray, List.append_toArray, List.nil_append, List.cons_append]
    refine wpIn_wide.2 ?_
    go_upto_region 1 with fail
    generalize ((w.alloc (.cells #[.int .i64 px, .int .i64 py, .int .i64 qx, .int .i64 qy, .int .i64 rx, .int .i64 ry, .int .i64 sx, .int .i64 sy] 25)).alloc (.cells #[.bool false] 4)) = w1 at *
    go_wp2_with fail
    refine (K.out _).mono ?_
    rintro e w2 ⟨rfl, b1⟩
    have HZ1 := Lib.hid (HZ0.out.next b1)
    have HB1 := Lib.hid (HB0.out.trans (b1.mono HB0.out.size))
    have HC1 := Lib.hid (HC0.out.next b1)
    clear b1
    go_upto_region 3 with fail
    have xC0 : w2.cell? ⟨w.heap.size, 0, none⟩ = some (.int .i64 px) := HC1.out.c 0 rfl
    have xC1 : w2.cell? ⟨w.heap.size, 1, none⟩ = some (.int .i64 py) := HC1.out.c 1 rfl
    have xC2 : w2.cell? ⟨w.heap.size, 2, none⟩ = some (.int .i64 qx) := HC1.out.c 2 rfl
    have xC3 : w2.cell? ⟨w.heap.size, 3, none⟩ = some (.int .i64 qy) := HC1.out.c 3 rfl
    have xC4 : w2.cell? ⟨w.heap.size, 4, none⟩ = some (.int .i64 rx) := HC1.out.c 4 rfl
    have xC5 : w2.cell? ⟨w.heap.size, 5, none⟩ = some (.int .i64 ry) := HC1.out.c 5 rfl
    have xC6 : w2.cell? ⟨w.heap.size, 6, none⟩ = some (.int .i64 sx) := HC1.out.c 6 rfl
    have xC7 : w2.cell? ⟨w.heap.size, 7, none⟩ = some (.int .i64 sy) := HC1.out.c 7 rfl
    go_wp2_with fail
    refine (RR.out _).mono ?_
    rintro e w3 ⟨rfl, b2⟩
    clear xC0 xC1 xC2 xC3 xC4 xC5 xC6 xC7
    have HZ2 := Lib.hid (HZ1.out.next b2)
    have HB2 := Lib.hid (HB1.out.trans (b2.mono HB1.out.size))
    have HC2 := Lib.hid (HC1.out.next b2)
    clear b2
    have xC0 : w3.cell? ⟨w.heap.size, 0, none⟩ = some (.int .i64 px) := HC2.out.c 0 rfl
    have xC1 : w3.cell? ⟨w.heap.size, 1, none⟩ = some (.int .i64 py) := HC2.out.c 1 rfl
    have xC2 : w3.cell? ⟨w.heap.size, 2, none⟩ = some (.int .i64 qx) := HC2.out.c 2 rfl
    have xC3 : w3.cell? ⟨w.heap.size, 3, none⟩ = some (.int .i64 qy) := HC2.out.c 3 rfl
    have xC4 : w3.cell? ⟨w.heap.size, 4, none⟩ = some (.int .i64 rx) := HC2.out.c 4 rfl
    have xC5 : w3.cell? ⟨w.heap.size, 5, none⟩ = some (.int .i64 ry) := HC2.out.c 5 rfl
    have xC6 : w3.cell? ⟨w.heap.size, 6, none⟩ = some (.int .i64 sx) := HC2.out.c 6 rfl
    have xC7 : w3.cell? ⟨w.heap.size, 7, none⟩ = some (.int .i64 sy) := HC2.out.c 7 rfl
    go_wp2_with fail
    refine (RP.out _).mono ?_
    rintro e w4 ⟨v1, rfl, hv1, b3, _⟩
    obtain ⟨a1, c1, rfl, hc1⟩ := hv1.shape
    have HV3 := Lib.hid (Crvs.own hv1)
    clear hv1
    clear xC0 xC1 xC2 xC3 xC4 xC5 xC6 xC7
    have HZ3 := Lib.hid (HZ2.out.next b3)
    have s3 := HZ2.out.lt
    have HB3 := Lib.hid (HB2.out.trans (b3.mono HB2.out.size))
    have HC3 := Lib.hid (HC2.out.next b3)
    clear b3
    have k1 := CBox.new w4 28 #[.slice a1 L.length c1]
    have b4 := (Below.refl w4.heap.size w4).alloc (Nat.le_refl _) (.cells #[.slice a1 L.length c1] 28)
    have HZ4 := Lib.hid (HZ3.out.next b4)
    have HV4 := Lib.hid (Lay8.own.next HV3.out b4)
    have HW4 := Lib.hid k1
    have s4 := HZ3.out.lt
    have HB4 := Lib.hid (HB3.out.trans (b4.mono HB3.out.size))
    have HC4 := Lib.hid (HC3.out.next b4)
    clear b4
    clear k1
    go_upto_region 6 with fail
    generalize w4.alloc (.cells #[.slice a1 L.length c1] 28) = w5 at *
    generalize w4.heap.size = qW at *
    have xC0 : w5.cell? ⟨w.heap.size, 0, none⟩ = some (.int .i64 px) := HC4.out.c 0 rfl
    have xC1 : w5.cell? ⟨w.heap.size, 1, none⟩ = some (.int .i64 py) := HC4.out.c 1 rfl
    have xC2 : w5.cell? ⟨w.heap.size, 2, none⟩ = some (.int .i64 qx) := HC4.out.c 2 rfl
    have xC3 : w5.cell? ⟨w.heap.size, 3, none⟩ = some (.int .i64 qy) := HC4.out.c 3 rfl
    have xC4 : w5.cell? ⟨w.heap.size, 4, none⟩ = some (.int .i64 rx) := HC4.out.c 4 rfl
    have xC5 : w5.cell? ⟨w.heap.size, 5, none⟩ = some (.int .i64 ry) := HC4.out.c 5 rfl
    have xC6 : w5.cell? ⟨w.heap.size, 6, none⟩ = some (.int .i64 sx) := HC4.out.c 6 rfl
    have xC7 : w5.cell? ⟨w.heap.size, 7, none⟩ = some (.int .i64 sy) := HC4.out.c 7 rfl
    go_wp2_with fail
    refine (TO.out _).mono ?_
    rintro e w6 ⟨v2, rfl, hv2, b5⟩
    obtain ⟨a2, c2, rfl, hc2⟩ := hv2.shape
    have HU5 := Lib.hid hv2
    clear hv2
    clear xC0 xC1 xC2 xC3 xC4 xC5 xC6 xC7
    have HZ5 := Lib.hid (HZ4.out.next b5)
    have HV5 := Lib.hid (Lay8.own.next HV4.out b5)
    have HW5 := Lib.hid (HW4.out.next b5)
    have s5 := HW4.out.lt
    have HB5 := Lib.hid (HB4.out.trans (b5.mono HB4.out.size))
    have HC5 := Lib.hid (HC4.out.next b5)
    clear b5
    have k1 := CBox.new w6 28 #[.slice a2 L.length c2]
    have b6 := (Below.refl w6.heap.size w6).alloc (Nat.le_refl _) (.cells #[.slice a2 L.length c2] 28)
    have HZ6 := Lib.hid (HZ5.out.next b6)
    have HV6 := Lib.hid (Lay8.own.next HV5.out b6)
    have HU6 := Lib.hid (Lay8.own.next HU5.out b6)
    have HW6 := Lib.hid (HW5.out.next b6)
    have HG6 := Lib.hid k1
    have s6 := HW5.out.lt
    have HB6 := Lib.hid (HB5.out.trans (b6.mono HB5.out.size))
    have HC6 := Lib.hid (HC5.out.next b6)
    clear b6
    clear k1
    go_upto_region 7 with fail
    generalize w6.alloc (.cells #[.slice a2 L.length c2] 28) = w7 at *
    generalize w6.heap.size = qG at *
    have e0 : w7.cell? ⟨qW, 0, none⟩ = some (.slice a1 L.length c1) := HW6.out.c 0 rfl; have e1 : w7.cell? ⟨qG, 0, none⟩ = some (.slice a2 L.length c2) := HG6.out.c 0 rfl
    have hne : ((L.length : Int) != (L.length : Int)) = false := by simp
    go_upto_region 9 with fail
    clear e0 e1
    have k1 := CBox.new w7 3 #[.int .i64 0]
    have b7 := (Below.refl w7.heap.size w7).alloc (Nat.le_refl _) (.cells #[.int .i64 0] 3)
    have HZ7 := Lib.hid (HZ6.out.next b7)
    have HV7 := Lib.hid (Lay8.own.next HV6.out b7)
    have HU7 := Lib.hid (Lay8.own.next HU6.out b7)
    have HW7 := Lib.hid (HW6.out.next b7)
    have HG7 := Lib.hid (HG6.out.next b7)
    have HN7 := Lib.hid k1
    have s7 := HG6.out.lt
    have HB7 := Lib.hid (HB6.out.trans (b7.mono HB6.out.size))
    have HC7 := Lib.hid (HC6.out.next b7)
    clear b7
    clear k1
    go_upto_region 10 with fail
    generalize w7.alloc (.cells #[.int .i64 0] 3) = w8 at *
    generalize w7.heap.size = qn at *
    have xC0 : w8.cell? ⟨w.heap.size, 0, none⟩ = some (.int .i64 px) := HC7.out.c 0 rfl
    have xC1 : w8.cell? ⟨w.heap.size, 1, none⟩ = some (.int .i64 py) := HC7.out.c 1 rfl
    have xC2 : w8.cell? ⟨w.heap.size, 2, none⟩ = some (.int .i64 qx) := HC7.out.c 2 rfl
    have xC3 : w8.cell? ⟨w.heap.size, 3, none⟩ = some (.int .i64 qy) := HC7.out.c 3 rfl
    have xC4 : w8.cell? ⟨w.heap.size, 4, none⟩ = some (.int .i64 rx) := HC7.out.c 4 rfl
    have xC5 : w8.cell? ⟨w.heap.size, 5, none⟩ = some (.int .i64 ry) := HC7.out.c 5 rfl
    have xC6 : w8.cell? ⟨w.heap.size, 6, none⟩ = some (.int .i64 sx) := HC7.out.c 6 rfl
    have xC7 : w8.cell? ⟨w.heap.size, 7, none⟩ = some (.int .i64 sy) := HC7.out.c 7 rfl
    go_wp2_with fail
    refine (PC.out _).mono ?_
    clear xC0 xC1 xC2 xC3 xC4 xC5 xC6 xC7
    rintro o W0 ⟨gf, lb, a, b, rfl, eg, b2, ha, hb, hca, hfe⟩
    have HV := Lib.hid (Lay8.own.next HV7.out b2); have HU := Lib.hid (Lay8.own.next HU7.out b2); have HW := Lib.hid (HW7.out.next b2); have HG := Lib.hid (HG7.out.next b2); have HQ := Lib.hid (HN7.out.next b2); have HB := Lib.hid (HB7.out.trans (b2.mono HB7.out.size)); have HZ := Lib.hid (HZ7.out.next b2)
    have hlt : qn < W0.heap.size := HQ.out.lt
    have hqa : qn < a := Nat.lt_of_lt_of_le HN7.out.lt ha
    have hfe5 := FeedsO.wideAny (n := 5) hfe
    have hrun := nil_neqP gf lb W0
    have HNV := Lib.hid (HV.out.not_box HQ.out (by decide)); have HNU := Lib.hid (HU.out.not_box HQ.out (by decide))
    clear hfe PC TO RP K RR b2 HC0 HC1 HC2 HC3 HC4 HC5 HC6 HC7 HB0 HB1 HB2 HB3 HB4 HB5 HB6 HB7 HZ0 HZ1 HZ2 HZ3 HZ4 HZ5 HZ6 HZ7 HV3 HV4 HV5 HV6 HV7 HU5 HU6 HU7 HW4 HW5 HW6 HW7 HG6 HG7 HN7
    go_wp2
    refine (wpIn_wide (n := 6)).1 ?_
    have AB : AbideO T12p W0.heap.size (fun (pre : List (Int × Int)) X => (Fixed W0.heap.size [qn] W0 X ∧ CBox qn 3 #[.int .i64 (pre.length : Int)] X) ∧ (Below w.heap.size w X ∧ W0.heap.size ≤ X.heap.size) ∧ pre.length ≤ L.length) := (abideO_fixed.and (abideO_boxP (by omega) (fun pre => #[.int .i64 (pre.length : Int)]))).and ((abideO_below (by omega)).and (abideO_pre (fun pre => pre.length ≤ L.length)))
    have HAB := Lib.hid AB
    refine wpIn_feedsO (T := T12p) (ca := a) (cb := b) (enc := encQ) (RES := RES) rfl (by decide) (gf := gf) (lb := lb) rfl trivial eg
      hfe5 (Mid.refl _ _ _) hb (fun _ => rfl) (fun pre X => (Fixed W0.heap.size [qn] W0 X ∧ CBox qn 3 #[.int .i64 (pre.length : Int)] X) ∧ (Below w.heap.size w X ∧ W0.heap.size ≤ X.heap.size) ∧ pre.length ≤ L.length) (fun c _ X => c = .exit 0 ∧ (CBox (w.heap.size + 1) 4 #[.bool false] X ∧ CBox qn 3 #[.int .i64 (L.length : Int)] X ∧ CBox qW 28 #[.slice a1 L.length c1] X) ∧ Below w.heap.size w X ∧ W0.heap.size ≤ X.heap.size)
      AB (fun c => (abideO_pre (fun _ => c = .exit 0)).and (((abideO_box (by omega)).and ((abideO_box (by omega)).and (abideO_box (by omega)))).and (abideO_below (by omega)))) ⟨⟨Fixed.refl (Nat.le_refl _), HQ.out⟩, ⟨HB.out, Nat.le_refl _⟩, Nat.zero_le _⟩
      (fun x a' X => ∃ Bx, W0.heap.size ≤ Bx ∧ CBox Bx 23 #[.int .i64 x.1, .int .i64 x.2] X ∧ a' = { tmps := #[.agg #[.int .i64 px, .int .i64 py, .int .i64 qx, .int .i64 qy, .int .i64 rx, .int .i64 ry, .int .i64 sx, .int .i64 sy], .int .u8 (m : Int), .pointer (some ⟨w.heap.size, 0, none⟩), undef, .pointer (some ⟨w.heap.size + 1, 0, none⟩), .pointer (some ⟨qW, 0, none⟩), .pointer (some ⟨qG, 0, none⟩), .pointer (some ⟨qn, 0, none⟩), .func (.func gf) #[] lb, .pointer (some ⟨Bx, 0, none⟩), .bool true, .bool false, .agg #[.int .i64 px, .int .i64 py, .int .i64 qx, .int .i64 qy, .int .i64 rx, .int .i64 ry, .int .i64 sx, .int .i64 sy], .bool true, .bool false, .agg #[.int .i64 px, .int .i64 py, .int .i64 qx, .int .i64 qy, .int .i64 rx, .int .i64 ry, .int .i64 sx, .int .i64 sy], .int .u8 (m : Int), .int .i64 (m : Int), .slice a1 L.length c1, .agg #[.int .i64 px, .int .i64 py, .int .i64 qx, .int .i64 qy, .int .i64 rx, .int .i64 ry, .int .i64 sx, .int .i64 sy], .int .u8 (m : Int), .int .i64 (m : Int), .slice a2 L.length c2, .slice a2 L.length c2, .int .i64 (L.length : Int), .slice a1 L.length c1, .int .i64 (L.length : Int), .bool false, .agg #[.int .i64 px, .int .i64 py, .int .i64 qx, .int .i64 qy, .int .i64 rx, .int .i64 ry, .int .i64 sx, .int .i64 sy], .func (.func gf) #[] lb, .func (.func gf) #[] lb, .bool true, .func (.func gf) #[] lb, .agg #[.int .i64 x.1, .int .i64 x.2], undef, undef, undef, undef, undef, undef, undef, undef, undef, undef, undef, undef, undef, undef, undef, undef, undef, undef, undef, undef, undef, undef, undef, undef, undef, undef, undef, undef], defers := [] }) ?own ?assign ?body ?done ?stop
    case own =>
      rintro x a' _ X X' row ⟨Bx, h0, h1, h3⟩ hg hr
      exact ⟨Bx, h0, h1.free hg (fun r e => (hr r e).2), h3⟩
    case assign =>
      rintro l' pre x X K hj hws hpx hK
      have z2 := (Below.refl X.heap.size X).alloc (Nat.le_refl _) (.cells #[.int .i64 x.1, .int .i64 x.2] 23)
      have hj' := HAB.out.abide.new _ _ _ hj z2
      have HJ3 := Lib.hid hj'
      have HZ1 := Lib.hid (CBox.new X 23 #[.int .i64 x.1, .int .i64 x.2]); have HZ2 := Lib.hid z2; have HK := Lib.hid hK
      clear z2 hj hK hj' AB
      unfold encQ
      obtain ⟨ax, ay⟩ := x
      dsimp only at *
      gi_wp2
      exact HK.out _ _ ((KeepsOthers.alloc _ _).from _) (KeepsT.below HZ2.out (by omega)) HJ3.out ⟨_, hws, HZ1.out, rfl⟩
    case done =>
      rintro D X hD ⟨⟨hfx, hn⟩, ⟨hbe, hsz⟩, hl5⟩ hK
      have e5 : RES.length = L.length := by omega
      rw [e5] at hn
      have HZD := Lib.hid (hfx.box HZ.out (by omega) (by simp; omega)); have HWD := Lib.hid (hfx.box HW.out (by omega) (by simp; omega)); have HBD := Lib.hid hbe; have HKD := Lib.hid hK
      have n0 : X.cell? ⟨qn, 0, none⟩ = some (.int .i64 (L.length : Int)) := hn.c 0 rfl
      have w0 : X.cell? ⟨qW, 0, none⟩ = some (.slice a1 L.length c1) := HWD.out.c 0 rfl
      have r0 : X.cell? ⟨w.heap.size + 1, 0, none⟩ = some (.bool false) := HZD.out.c 0 rfl; have q0 := HZD.out.z 0
      clear hfx hn hbe hK HAB AB hat e5
      go_wp2_with fail
      exact boxM_done Try.results3 (HZD.out.set 0 (.bool true) (show (0 : Nat) < 1 by decide)) (Below.setCell HBD.out (by exact Nat.le_succ _) _) rfl rfl ((Below.heap_setCell _ _ _ _ (by exact fun e => by have e2 : D = w.heap.size + 1 := e; omega)).trans HKD.out) (by omega)
    case stop =>
      rintro D c pre X hD hpre ⟨rfl, ⟨hz, hn, hw⟩, hbe, hsz⟩ hK
      have HZD := Lib.hid hz; have HBD := Lib.hid hbe; have HKD := Lib.hid hK
      have n0 : X.cell? ⟨qn, 0, none⟩ = some (.int .i64 (L.length : Int)) := hn.c 0 rfl
      have w0 : X.cell? ⟨qW, 0, none⟩ = some (.slice a1 L.length c1) := hw.c 0 rfl
      have r0 : X.cell? ⟨w.heap.size + 1, 0, none⟩ = some (.bool false) := hz.c 0 rfl; have q0 := hz.z 0
      clear hz hn hw hbe hK HAB AB hat
      gi_wp2_with fail
      (try go_wp2_with fail)
      exact boxM_done Try.results3 (HZD.out.set 0 (.bool true) (show (0 : Nat) < 1 by decide)) (Below.setCell HBD.out (by exact Nat.le_succ _) _) rfl rfl ((Below.heap_setCell _ _ _ _ (by exact fun e => by have e2 : D = w.heap.size + 1 := e; omega)).trans HKD.out) (by omega)
    case body =>
      rintro l' pre x a' X ⟨⟨hfx, hn⟩, ⟨hbe, hsz⟩, hl5⟩ ⟨Bx, hBx, hbx, rfl⟩ hws hpx
      obtain ⟨rr, hpr⟩ := hpx
      have hm1 := Lib.hid (show qn ∈ [qn] by simp)
      have HWX := Lib.hid (hfx.box HW.out (by omega) (by simp; omega)); have HGX := Lib.hid (hfx.box HG.out (by omega) (by simp; omega)); have HZX := Lib.hid (hfx.box HZ.out (by omega) (by simp; omega))
      have HN0 := Lib.hid hn; have HB0 := Lib.hid hbe; have HBX := Lib.hid hbx; have HFX := Lib.hid hfx
      have w0 : X.cell? ⟨qW, 0, none⟩ = some (.slice a1 L.length c1) := HWX.out.c 0 rfl
      have n0 : X.cell? ⟨qn, 0, none⟩ = some (.int .i64 (pre.length : Int)) := hn.c 0 rfl
      by_cases hl : pre.length < L.length
      rotate_left
      · have e5 := Lib.hid (show pre.length = L.length by omega)
        have d1 : decide ((L.length : Int) ≤ (pre.length : Int)) = true := decide_eq_true (by omega)
        have d2 : (L.length : Int) ≤ (pre.length : Int) := by omega
        clear hn hbe hbx hfx HAB AB hat hpr
        gi_wp2_with fail
        have NM := HN0.out
        rw [e5.out] at NM
        exact ⟨KeepsFrom.refl _ _, rfl, ⟨HZX.out, NM, HWX.out⟩, HB0.out, hsz⟩
      obtain ⟨g, hg, hxg⟩ := hat pre rr x hpr hl
      have HLN := Lib.hid (show ((pre ++ [x]).length : Int) = (pre.length : Int) + 1 by simp)
      have HLM := Lib.hid (show (pre ++ [x]).length = pre.length + 1 by simp)
      obtain ⟨p1, o1, e1, t1, x0, xs⟩ := RdK.at (Lay8.own.rd (Fixed.own hfx HV.out (Nat.le_refl _) (fun q hq hm => HNV.out (by rw [List.mem_singleton] at hm; rw [← hm]; exact hq.symm)))) hg
      obtain ⟨p2, o2, e2, t2, y0, ys⟩ := RdK.at (Lay8.own.rd (Fixed.own hfx HU.out (Nat.le_refl _) (fun q hq hm => HNU.out (by rw [List.mem_singleton] at hm; rw [← hm]; exact hq.symm)))) hg
      have g0 : X.cell? ⟨qG, 0, none⟩ = some (.slice a2 L.length c2) := HGX.out.c 0 rfl
      rw [e1] at w0; rw [e2] at g0
      obtain ⟨ax, ay, bx, by1, cx, cy, dx, dy⟩ := g
      obtain rfl : x = (dx, dy) := hxg
      have hb0 : X.cell? ⟨Bx, 0, none⟩ = some (.int .i64 dx) := hbx.c 0 rfl; have hb1 : X.cell? ⟨Bx, 1, none⟩ = some (.int .i64 dy) := hbx.c 1 rfl
      replace x0 : X.cell? ⟨p1, o1 + pre.length * 8, none⟩ = some (.int .i64 ax) := x0
      replace y0 : X.cell? ⟨p2, o2 + pre.length * 8, none⟩ = some (.int .i64 ax) := y0
      have x1 : X.cell? ⟨p1, o1 + pre.length * 8 + 1, none⟩ = some (.int .i64 ay) := xs 1 _ rfl; have y1 : X.cell? ⟨p2, o2 + pre.length * 8 + 1, none⟩ = some (.int .i64 ay) := ys 1 _ rfl; have x2 : X.cell? ⟨p1, o1 + pre.length * 8 + 2, none⟩ = some (.int .i64 bx) := xs 2 _ rfl; have y2 : X.cell? ⟨p2, o2 + pre.length * 8 + 2, none⟩ = some (.int .i64 bx) := ys 2 _ rfl; have x3 : X.cell? ⟨p1, o1 + pre.length * 8 + 3, none⟩ = some (.int .i64 by1) := xs 3 _ rfl; have y3 : X.cell? ⟨p2, o2 + pre.length * 8 + 3, none⟩ = some (.int .i64 by1) := ys 3 _ rfl; have x4 : X.cell? ⟨p1, o1 + pre.length * 8 + 4, none⟩ = some (.int .i64 cx) := xs 4 _ rfl; have y4 : X.cell? ⟨p2, o2 + pre.length * 8 + 4, none⟩ = some (.int .i64 cx) := ys 4 _ rfl; have x5 : X.cell? ⟨p1, o1 + pre.length * 8 + 5, none⟩ = some (.int .i64 cy) := xs 5 _ rfl; have y5 : X.cell? ⟨p2, o2 + pre.length * 8 + 5, none⟩ = some (.int .i64 cy) := ys 5 _ rfl; have x6 : X.cell? ⟨p1, o1 + pre.length * 8 + 6, none⟩ = some (.int .i64 dx) := xs 6 _ rfl; have y6 : X.cell? ⟨p2, o2 + pre.length * 8 + 6, none⟩ = some (.int .i64 dx) := ys 6 _ rfl; have x7 : X.cell? ⟨p1, o1 + pre.length * 8 + 7, none⟩ = some (.int .i64 dy) := xs 7 _ rfl; have y7 : X.cell? ⟨p2, o2 + pre.length * 8 + 7, none⟩ = some (.int .i64 dy) := ys 7 _ rfl
      have d1 : decide ((L.length : Int) ≤ (pre.length : Int)) = false := decide_eq_false (by omega)
      have d2 : ¬ (L.length : Int) ≤ (pre.length : Int) := by omega
      have d3 : (pre.length : Int) < (L.length : Int) := by omega
      have d4 : (0 : Int) ≤ (pre.length : Int) := by omega
      have he12 := Lib.hid (show ∀ k ∈ [qn], k < W0.heap.size ∧ (k < a ∨ b ≤ k) by
        intro k hk
        simp only [List.mem_cons, List.not_mem_nil, or_false] at hk
        omega)
      clear hn hbe hbx hfx HAB AB hat hpr hg xs ys t1 t2 HV HU HNV HNU hfe5 eg hrun
      dsimp only at *
      gi_wp2
      have hs_ : X.cell? ⟨qW, 0, none⟩ = some (.slice (some ⟨p1, o1, none⟩) L.length c1) ∧ X.cell? ⟨qG, 0, none⟩ = some (.slice (some ⟨p2, o2, none⟩) L.length c2) ∧ X.cell? ⟨qn, 0, none⟩ = some (.int .i64 (pre.length : Int)) ∧ X.cell? ⟨Bx, 0, none⟩ = some (.int .i64 dx) ∧ X.cell? ⟨Bx, 1, none⟩ = some (.int .i64 dy) ∧ X.cell? ⟨p1, o1 + pre.length * 8, none⟩ = some (.int .i64 ax) ∧ X.cell? ⟨p1, o1 + pre.length * 8 + 1, none⟩ = some (.int .i64 ay) ∧ X.cell? ⟨p1, o1 + pre.length * 8 + 2, none⟩ = some (.int .i64 bx) ∧ X.cell? ⟨p1, o1 + pre.length * 8 + 3, none⟩ = some (.int .i64 by1) ∧ X.cell? ⟨p1, o1 + pre.length * 8 + 4, none⟩ = some (.int .i64 cx) ∧ X.cell? ⟨p1, o1 + pre.length * 8 + 5, none⟩ = some (.int .i64 cy) ∧ X.cell? ⟨p1, o1 + pre.length * 8 + 6, none⟩ = some (.int .i64 dx) ∧ X.cell? ⟨p1, o1 + pre.length * 8 + 7, none⟩ = some (.int .i64 dy) ∧ X.cell? ⟨p2, o2 + pre.length * 8, none⟩ = some (.int .i64 ax) ∧ X.cell? ⟨p2, o2 + pre.length * 8 + 1, none⟩ = some (.int .i64 ay) ∧ X.cell? ⟨p2, o2 + pre.length * 8 + 2, none⟩ = some (.int .i64 bx) ∧ X.cell? ⟨p2, o2 + pre.length * 8 + 3, none⟩ = some (.int .i64 by1) ∧ X.cell? ⟨p2, o2 + pre.length * 8 + 4, none⟩ = some (.int .i64 cx) ∧ X.cell? ⟨p2, o2 + pre.length * 8 + 5, none⟩ = some (.int .i64 cy) ∧ X.cell? ⟨p2, o2 + pre.length * 8 + 6, none⟩ = some (.int .i64 dx) ∧ X.cell? ⟨p2, o2 + pre.length * 8 + 7, none⟩ = some (.int .i64 dy) := ⟨w0, g0, n0, hb0, hb1, x0, x1, x2, x3, x4, x5, x6, x7, y0, y1, y2, y3, y4, y5, y6, y7⟩
      refine wpIn_round_held (S := fun w' => w'.cell? ⟨qW, 0, none⟩ = some (.slice (some ⟨p1, o1, none⟩) L.length c1) ∧ w'.cell? ⟨qG, 0, none⟩ = some (.slice (some ⟨p2, o2, none⟩) L.length c2) ∧ w'.cell? ⟨qn, 0, none⟩ = some (.int .i64 (pre.length : Int)) ∧ w'.cell? ⟨Bx, 0, none⟩ = some (.int .i64 dx) ∧ w'.cell? ⟨Bx, 1, none⟩ = some (.int .i64 dy) ∧ w'.cell? ⟨p1, o1 + pre.length * 8, none⟩ = some (.int .i64 ax) ∧ w'.cell? ⟨p1, o1 + pre.length * 8 + 1, none⟩ = some (.int .i64 ay) ∧ w'.cell? ⟨p1, o1 + pre.length * 8 + 2, none⟩ = some (.int .i64 bx) ∧ w'.cell? ⟨p1, o1 + pre.length * 8 + 3, none⟩ = some (.int .i64 by1) ∧ w'.cell? ⟨p1, o1 + pre.length * 8 + 4, none⟩ = some (.int .i64 cx) ∧ w'.cell? ⟨p1, o1 + pre.length * 8 + 5, none⟩ = some (.int .i64 cy) ∧ w'.cell? ⟨p1, o1 + pre.length * 8 + 6, none⟩ = some (.int .i64 dx) ∧ w'.cell? ⟨p1, o1 + pre.length * 8 + 7, none⟩ = some (.int .i64 dy) ∧ w'.cell? ⟨p2, o2 + pre.length * 8, none⟩ = some (.int .i64 ax) ∧ w'.cell? ⟨p2, o2 + pre.length * 8 + 1, none⟩ = some (.int .i64 ay) ∧ w'.cell? ⟨p2, o2 + pre.length * 8 + 2, none⟩ = some (.int .i64 bx) ∧ w'.cell? ⟨p2, o2 + pre.length * 8 + 3, none⟩ = some (.int .i64 by1) ∧ w'.cell? ⟨p2, o2 + pre.length * 8 + 4, none⟩ = some (.int .i64 cx) ∧ w'.cell? ⟨p2, o2 + pre.length * 8 + 5, none⟩ = some (.int .i64 cy) ∧ w'.cell? ⟨p2, o2 + pre.length * 8 + 6, none⟩ = some (.int .i64 dx) ∧ w'.cell? ⟨p2, o2 + pre.length * 8 + 7, none⟩ = some (.int .i64 dy)) (by kernel_rfl) (by kernel_rfl) (fun ⟨_, _, h⟩ => h) (by exact hs_) (fun hHeld => ?_)
      clear w0 n0 g0 hb0 hb1 x0 y0 x1 y1 x2 y2 x3 y3 x4 y4 x5 y5 x6 y6 x7 y7 hs_
      refine wpAnyH_take (i := 0) (oi := fpcOp0) (v := ?_) rfl (by kernel_rfl) (by kernel_rfl) (by kernel_rfl) (fun _ _ _ h => h) (Or.inl ⟨by rfl, ?_⟩) (by assumption) ?_
      rotate_left
      · (unfold fpcOp0; intro w hSw; (try dsimp only at hSw); go_simp; (first | done | with_reducible rfl))
      unfold fpcOp0
      (try simp only [Act.put, List.setIfInBounds_toArray, List.set_cons_zero, List.set_cons_succ])
      refine wpAnyH_take (i := 1) (oi := fpcOp1) (v := ?_) rfl (by kernel_rfl) (by kernel_rfl) (by kernel_rfl) (fun _ _ _ h => h) (Or.inl ⟨by rfl, ?_⟩) (by assumption) ?_
      rotate_left
      · (unfold fpcOp1; intro w hSw; (try dsimp only at hSw); go_simp; (first | done | with_reducible rfl))
      unfold fpcOp1
      (try simp only [Act.put, List.setIfInBounds_toArray, List.set_cons_zero, List.set_cons_succ])
      refine wpAnyH_take (i := 2) (oi := fpcOp2) (v := ?_) rfl (by kernel_rfl) (by kernel_rfl) (by kernel_rfl) (fun _ _ _ h => h) (Or.inl ⟨by rfl, ?_⟩) (by assumption) ?_
      rotate_left
      · (unfold fpcOp2; intro w hSw; (try dsimp only at hSw); go_simp; (first | done | with_reducible rfl))
      unfold fpcOp2
      (try simp only [Act.put, List.setIfInBounds_toArray, List.set_cons_zero, List.set_cons_succ])
      refine wpAnyH_take (i := 3) (oi := fpcOp3) (v := ?_) rfl (by kernel_rfl) (by kernel_rfl) (by kernel_rfl) (fun _ _ _ h => h) (Or.inl ⟨by rfl, ?_⟩) (by assumption) ?_
      rotate_left
      · (unfold fpcOp3; intro w hSw; (try dsimp only at hSw); go_simp; (first | done | with_reducible rfl))
      unfold fpcOp3
      (try simp only [Act.put, List.setIfInBounds_toArray, List.set_cons_zero, List.set_cons_succ])
      refine wpAnyH_take (i := 4) (oi := fpcOp4) (v := ?_) rfl (by kernel_rfl) (by kernel_rfl) (by kernel_rfl) (fun _ _ _ h => h) (Or.inl ⟨by rfl, ?_⟩) (by assumption) ?_
      rotate_left
      · (unfold fpcOp4; intro w hSw; (try dsimp only at hSw); go_simp; (first | done | with_reducible rfl))
      unfold fpcOp4
      (try simp only [Act.put, List.setIfInBounds_toArray, List.set_cons_zero, List.set_cons_succ])
      refine wpAnyH_take (i := 5) (oi := fpcOp5) (v := ?_) rfl (by kernel_rfl) (by kernel_rfl) (by kernel_rfl) (fun _ _ _ h => h) (Or.inl ⟨by rfl, ?_⟩) (by assumption) ?_
      rotate_left
      · (unfold fpcOp5; intro w hSw; (try dsimp only at hSw); go_simp; (first | done | with_reducible rfl))
      unfold fpcOp5
      (try simp only [Act.put, List.setIfInBounds_toArray, List.set_cons_zero, List.set_cons_succ])
      refine wpAnyH_take (i := 6) (oi := fpcOp6) (v := ?_) rfl (by kernel_rfl) (by kernel_rfl) (by kernel_rfl) (fun _ _ _ h => h) (Or.inl ⟨by rfl, ?_⟩) (by assumption) ?_
      rotate_left
      · (unfold fpcOp6; intro w hSw; (try dsimp only at hSw); go_simp; (first | done | with_reducible rfl))
      unfold fpcOp6
      (try simp only [Act.put, List.setIfInBounds_toArray, List.set_cons_zero, List.set_cons_succ])
      refine wpAnyH_take (i := 7) (oi := fpcOp7) (v := ?_) rfl (by kernel_rfl) (by kernel_rfl) (by kernel_rfl) (fun _ _ _ h => h) (Or.inl ⟨by rfl, ?_⟩) (by assumption) ?_
      rotate_left
      · (unfold fpcOp7; intro w hSw; (try dsimp only at hSw); go_simp; (first | done | with_reducible rfl))
      unfold fpcOp7
      (try simp only [Act.put, List.setIfInBounds_toArray, List.set_cons_zero, List.set_cons_succ])
      refine wpAnyH_take (i := 8) (oi := fpcOp8) (v := ?_) rfl (by kernel_rfl) (by kernel_rfl) (by kernel_rfl) (fun _ _ _ h => h) (Or.inl ⟨by rfl, ?_⟩) (by assumption) ?_
      rotate_left
      · (unfold fpcOp8; intro w hSw; (try dsimp only at hSw); go_simp; (first | done | with_reducible rfl))
      unfold fpcOp8
      (try simp only [Act.put, List.setIfInBounds_toArray, List.set_cons_zero, List.set_cons_succ])
      refine wpAnyH_take (i := 9) (oi := fpcOp9) (v := ?_) rfl (by kernel_rfl) (by kernel_rfl) (by kernel_rfl) (fun _ _ _ h => h) (Or.inl ⟨by rfl, ?_⟩) (by assumption) ?_
      rotate_left
      · (unfold fpcOp9; intro w hSw; (try dsimp only at hSw); go_simp; (first | done | with_reducible rfl))
      unfold fpcOp9
      (try simp only [Act.put, List.setIfInBounds_toArray, List.set_cons_zero, List.set_cons_succ])
      refine wpAnyH_take (i := 10) (oi := fpcOp10) (v := ?_) rfl (by kernel_rfl) (by kernel_rfl) (by kernel_rfl) (fun _ _ _ h => h) (Or.inl ⟨by rfl, ?_⟩) (by assumption) ?_
      rotate_left
      · (unfold fpcOp10; intro w hSw; (try dsimp only at hSw); go_simp; (first | done | with_reducible rfl))
      unfold fpcOp10
      (try simp only [Act.put, List.setIfInBounds_toArray, List.set_cons_zero, List.set_cons_succ])
      refine wpAnyH_take (i := 11) (oi := fpcOp11) (v := ?_) rfl (by kernel_rfl) (by kernel_rfl) (by kernel_rfl) (fun _ _ _ h => h) (Or.inl ⟨by rfl, ?_⟩) (by assumption) ?_
      rotate_left
      · (unfold fpcOp11; intro w hSw; (try dsimp only at hSw); go_simp; (first | done | with_reducible rfl))
      unfold fpcOp11
      (try simp only [Act.put, List.setIfInBounds_toArray, List.set_cons_zero, List.set_cons_succ])
      refine wpAnyH_take (i := 12) (oi := fpcOp12) (v := ?_) rfl (by kernel_rfl) (by kernel_rfl) (by kernel_rfl) (fun _ _ _ h => h) (Or.inl ⟨by rfl, ?_⟩) (by assumption) ?_
      rotate_left
      · (unfold fpcOp12; intro w hSw; (try dsimp only at hSw); go_simp; (first | done | with_reducible rfl))
      unfold fpcOp12
      (try simp only [Act.put, List.setIfInBounds_toArray, List.set_cons_zero, List.set_cons_succ])
      refine wpAnyH_take (i := 13) (oi := fpcOp13) (v := ?_) rfl (by kernel_rfl) (by kernel_rfl) (by kernel_rfl) (fun _ _ _ h => h) (Or.inl ⟨by rfl, ?_⟩) (by assumption) ?_
      rotate_left
      · (unfold fpcOp13; intro w hSw; (try dsimp only at hSw); go_simp; (first | done | with_reducible rfl))
      unfold fpcOp13
      (try simp only [Act.put, List.setIfInBounds_toArray, List.set_cons_zero, List.set_cons_succ])
      refine wpAnyH_take (i := 14) (oi := fpcOp14) (v := ?_) rfl (by kernel_rfl) (by kernel_rfl) (by kernel_rfl) (fun _ _ _ h => h) (Or.inl ⟨by rfl, ?_⟩) (by assumption) ?_
      rotate_left
      · (unfold fpcOp14; intro w hSw; (try dsimp only at hSw); go_simp; (first | done | with_reducible rfl))
      unfold fpcOp14
      (try simp only [Act.put, List.setIfInBounds_toArray, List.set_cons_zero, List.set_cons_succ])
      refine wpAnyH_take (i := 15) (oi := fpcOp15) (v := ?_) rfl (by kernel_rfl) (by kernel_rfl) (by kernel_rfl) (fun _ _ _ h => h) (Or.inl ⟨by rfl, ?_⟩) (by assumption) ?_
      rotate_left
      · (unfold fpcOp15; intro w hSw; (try dsimp only at hSw); go_simp; (first | done | with_reducible rfl))
      unfold fpcOp15
      (try simp only [Act.put, List.setIfInBounds_toArray, List.set_cons_zero, List.set_cons_succ])
      refine wpAnyH_take (i := 16) (oi := fpcOp16) (v := ?_) rfl (by kernel_rfl) (by kernel_rfl) (by kernel_rfl) (fun _ _ _ h => h) (Or.inl ⟨by rfl, ?_⟩) (by assumption) ?_
      rotate_left
      · (unfold fpcOp16; intro w hSw; (try dsimp only at hSw); go_simp; (first | done | with_reducible rfl))
      unfold fpcOp16
      (try simp only [Act.put, List.setIfInBounds_toArray, List.set_cons_zero, List.set_cons_succ])
      refine wpAnyH_take (i := 17) (oi := fpcOp17) (v := ?_) rfl (by kernel_rfl) (by kernel_rfl) (by kernel_rfl) (fun _ _ _ h => h) (Or.inl ⟨by rfl, ?_⟩) (by assumption) ?_
      rotate_left
      · (unfold fpcOp17; intro w hSw; (try dsimp only at hSw); go_simp; (first | done | with_reducible rfl))
      unfold fpcOp17
      (try simp only [Act.put, List.setIfInBounds_toArray, List.set_cons_zero, List.set_cons_succ])
      refine wpAnyH_done (by kernel_rfl) ?_ _
      clear hHeld
      have DR := Lib.hid (Below.refl X.heap.size X).drew
      have HND : Hid (CBox qn 3 #[.int .i64 (pre.length : Int)] X.drew) := Lib.hid HN0.out
      have SM := Lib.hid (((Small12.refl W0.heap.size [qn] X).below DR.out).set (o := 0) hm1.out (.int .i64 ((pre.length : Int) + 1)))
      have BE := Lib.hid (Below.setCell (HB0.out.trans (DR.out.mono HB0.out.size)) (p := ⟨qn, 0, none⟩) (show w.heap.size ≤ qn by omega) (.int .i64 ((pre.length : Int) + 1)))
      have NN := Lib.hid (HND.out.set 0 (.int .i64 ((pre.length : Int) + 1)) (show (0 : Nat) < 1 by decide))
      have FX := Lib.hid ((HFX.out.next DR.out).set (o := 0) hm1.out (.int .i64 ((pre.length : Int) + 1)))
      generalize X.drew = Y at *
      have n0 : Y.cell? ⟨qn, 0, none⟩ = some (.int .i64 (pre.length : Int)) := HND.out.c 0 rfl; have n1 := HND.out.z 0
      gi_wp2_with fail
      have hk := SM.out.keeps (T := T12p) hsz hb he12.out
      exact ⟨hk.1, hk.2, ⟨FX.out, by rw [HLN.out]; exact NN.out⟩, ⟨BE.out, Nat.le_trans hsz SM.out.size⟩, by rw [HLM.out]; omega⟩
  · rw [decide_eq_false hr] at RR
    clear hr PI CO
    obtain ⟨px, py, qx, qy, rx, ry, sx, sy⟩ := c
    unfold Crv.val Crv.arr at *
    dsimp only at *
    obtain ⟨k1, k2, k3⟩ := boxes_two w #[.int .i64 px, .int .i64 py, .int .i64 qx, .int .i64 qy, .int .i64 rx, .int .i64 ry, .int .i64 sx, .int .i64 sy] #[.bool false] 25 4
    have HC0 := Lib.hid k1; have HZ0 := Lib.hid k2; have HB0 := Lib.hid k3
    clear k1 k2 k3
    refine callsIn_of_wp_marks Try.func3 rfl trivial ?_ rfl
    simp only [Try.ntmps3, List.size_toArray, List.length_cons, List.length_nil, Nat.reduceAdd, Nat.reduceSub, Array.replicate_succ, Array.replicate_zero, List.push_toArray, List.append_toArray, List.nil_append, List.cons_append]
    refine wpIn_wide.2 ?_
    go_upto_region 1 with fail
    generalize ((w.alloc (.cells #[.int .i64 px, .int .i64 py, .int .i64 qx, .int .i64 qy, .int .i64 rx, .int .i64 ry, .int .i64 sx, .int .i64 sy] 25)).alloc (.cells #[.bool false] 4)) = w1 at *
    go_wp2_with fail
    refine (K.out _).mono ?_
    rintro e w2 ⟨rfl, b1⟩
    have HZ1 := Lib.hid (HZ0.out.next b1)
    have HB1 := Lib.hid (HB0.out.trans (b1.mono HB0.out.size))
    have HC1 := Lib.hid (HC0.out.next b1)
    clear b1
    go_upto_region 3 with fail
    have xC0 : w2.cell? ⟨w.heap.size, 0, none⟩ = some (.int .i64 px) := HC1.out.c 0 rfl
    have xC1 : w2.cell? ⟨w.heap.size, 1, none⟩ = some (.int .i64 py) := HC1.out.c 1 rfl
    have xC2 : w2.cell? ⟨w.heap.size, 2, none⟩ = some (.int .i64 qx) := HC1.out.c 2 rfl
    have xC3 : w2.cell? ⟨w.heap.size, 3, none⟩ = some (.int .i64 qy) := HC1.out.c 3 rfl
    have xC4 : w2.cell? ⟨w.heap.size, 4, none⟩ = some (.int .i64 rx) := HC1.out.c 4 rfl
    have xC5 : w2.cell? ⟨w.heap.size, 5, none⟩ = some (.int .i64 ry) := HC1.out.c 5 rfl
    have xC6 : w2.cell? ⟨w.heap.size, 6, none⟩ = some (.int .i64 sx) := HC1.out.c 6 rfl
    have xC7 : w2.cell? ⟨w.heap.size, 7, none⟩ = some (.int .i64 sy) := HC1.out.c 7 rfl
    go_wp2_with fail
    refine (RR.out _).mono ?_
    rintro e w3 ⟨rfl, b2⟩
    clear xC0 xC1 xC2 xC3 xC4 xC5 xC6 xC7
    have HZ2 := Lib.hid (HZ1.out.next b2)
    have HB2 := Lib.hid (HB1.out.trans (b2.mono HB1.out.size))
    have HC2 := Lib.hid (HC1.out.next b2)
    clear b2
    have r0 : w3.cell? ⟨w.heap.size + 1, 0, none⟩ = some (.bool false) := HZ2.out.c 0 rfl; have q0 := HZ2.out.z 0
    go_wp2_with fail
    exact boxM_ret Try.results3 (HZ2.out.set 0 (.bool true) (show (0 : Nat) < 1 by decide)) (Below.setCell HB2.out (by exact Nat.le_succ _) _) rfl rfl
end Go.Proofs.Ytgkjbmejfcijkaa
