/-
  PROVED: the statement of SnapEdges, for every input: any edges are snapped as the document says, one by one, up to where one stops; those that go nowhere are left out. (Typed by a program: wip/gen_snap6.py.)
-/
import Derived.Test.YtejhegoegmoemaaRows
import Derived.Test.YtejhegoegmoemaaSnapWakes
import Derived.Test.YtejhegoegmoemaaSnapSmall
import Derived.Test.YtejhegoegmoemaaSnapRefE
import Derived.Test.YtejhegoegmoemaaSnapColl
import Derived.Test.YtejhegoegmoemaaRefSame
import Derived.Test.YtejhegoegmoemaaRegRound
import Derived.Test.YtejhegoegmoemaaBoxRet
import Derived.Test.YtejhegoegmoemaaEdgTrod
namespace Go.Proofs.Ytejhegoegmoemaa.snapEdges
open Go.ChangeShapes Go.WideShapes Go.ChangeAt Go.RowKit Go.Shelf
attribute [local go_sem] Oper.semAt_some
set_option linter.unusedSimpArgs false

theorem u8_nat {a : Int} (h : (Lit.int .u8 a).wf = true) : ∃ n : Nat, a = (n : Int) ∧ n ≤ 255 := by
  simp [Lit.wf, IntKind.min, IntKind.max, IntKind.signed, IntKind.bits] at h
  exact ⟨a.toNat, by omega, by omega⟩
theorem nil_neq14 (gf : Nat) (lb : Array Value) (W : World) : Sem.run Try.prog (binOp BinOp.neq 32 (Value.func (.func gf) #[] lb) Value.nilFunc) W = .ok (.bool true) W := by kernel_rfl
def snlOp0 : Oper := { dst := some 31, op := Go.Op.load 3 (Go.Operand.tmp 6), type := 3, pos := "law.go:46", after := #[], guard := none }
def snlOp1 : Oper := { dst := some 32, op := Go.Op.load 28 (Go.Operand.tmp 5), type := 28, pos := "law.go:46", after := #[], guard := none }
def snlOp2 : Oper := { dst := some 33, op := Go.Op.call { callee := Go.Callee.builtin Go.Builtin.len, args := #[Go.Operand.tmp 32], argTypes := #[28] }, type := 3, pos := "law.go:46", after := #[{ on := 1, ground := Go.Ground.data }], guard := none }
def snlOp3 : Oper := { dst := some 34, op := Go.Op.binOp Go.BinOp.geq 3 (Go.Operand.tmp 31) (Go.Operand.tmp 33) 3, type := 4, pos := "law.go:46", after := #[{ on := 0, ground := Go.Ground.data }, { on := 2, ground := Go.Ground.data }], guard := none }
def snlOp4 : Oper := { dst := some 35, op := Go.Op.move (Go.Operand.tmp 34), type := 4, pos := "law.go:46", after := #[{ on := 3, ground := Go.Ground.data }], guard := none }
def snlOp5 : Oper := { dst := some 36, op := Go.Op.load 35 (Go.Operand.tmp 8), type := 35, pos := "law.go:46", after := #[{ on := 4, ground := Go.Ground.guard }], guard := some (4, false) }
def snlOp6 : Oper := { dst := some 37, op := Go.Op.load 28 (Go.Operand.tmp 5), type := 28, pos := "law.go:46", after := #[{ on := 4, ground := Go.Ground.guard }], guard := some (4, false) }
def snlOp7 : Oper := { dst := some 38, op := Go.Op.load 3 (Go.Operand.tmp 6), type := 3, pos := "law.go:46", after := #[{ on := 4, ground := Go.Ground.guard }], guard := some (4, false) }
def snlOp8 : Oper := { dst := some 39, op := Go.Op.indexAddr 28 (Go.Operand.tmp 37) (Go.Operand.tmp 38), type := 0, pos := "law.go:46", after := #[{ on := 6, ground := Go.Ground.data }, { on := 7, ground := Go.Ground.data }, { on := 4, ground := Go.Ground.guard }], guard := some (4, false) }
def snlOp9 : Oper := { dst := some 40, op := Go.Op.load 35 (Go.Operand.tmp 39), type := 35, pos := "law.go:46", after := #[{ on := 8, ground := Go.Ground.data }, { on := 4, ground := Go.Ground.guard }], guard := some (4, false) }
def snlOp10 : Oper := { dst := some 41, op := Go.Op.binOp Go.BinOp.neq 35 (Go.Operand.tmp 36) (Go.Operand.tmp 40) 35, type := 4, pos := "law.go:46", after := #[{ on := 5, ground := Go.Ground.data }, { on := 9, ground := Go.Ground.data }, { on := 4, ground := Go.Ground.guard }], guard := some (4, false) }
def snlOp11 : Oper := { dst := some 42, op := Go.Op.pick (Go.Operand.tmp 35) (Go.Operand.const (Go.Value.bool true)) (Go.Operand.tmp 41), type := 4, pos := "law.go:46", after := #[{ on := 4, ground := Go.Ground.data }, { on := 10, ground := Go.Ground.data }], guard := none }
set_option maxHeartbeats 8000000 in
set_option maxRecDepth 100000 in
theorem walk0 (a : Option Addr) (l : List Edg) (cap : Nat) (m : Nat) (hm : m ≤ 255) (hl : l.length ≤ maxLen) (w : World) (hr : RdE a l w) :
    Calls Try.prog 4 #[.slice a l.length cap, .int .u8 (m : Int)] w fun e w' => e = .returned (.bool true) ∧ Below w.heap.size w w' := by
  unfold maxLen at hl
  refine (callsIn_wide (n := 6)).1 ?_
  have K := Lib.hid (fun w => wakes14 w)
  obtain ⟨k1, k2, k3⟩ := boxes_two w #[.int .u8 (m : Int)] #[.bool false] 5 4
  have HS0 := Lib.hid k1; have HZ0 := Lib.hid k2; have HB0 := Lib.hid k3; have HR0 := Lib.hid (Lay8.rd.next hr k3)
  clear k1 k2 k3
  refine callsIn_of_wp_marks Try.func4 rfl trivial ?_ rfl
  simp only [Try.ntmps4, List.size_toArray, List.length_cons, List.length_nil, Nat.reduceAdd, Nat.reduceSub, Array.replicate_succ, Array.replicate_zero, List.push_toArray, List.append_toArray, List.nil_append, List.cons_append]
  refine wpIn_wide.2 ?_
  go_upto_region 1 with fail
  generalize ((w.alloc (.cells #[.int .u8 (m : Int)] 5)).alloc (.cells #[.bool false] 4)) = w1 at *
  go_wp2_with fail
  refine (K.out _).mono ?_
  rintro e w2 ⟨rfl, b1⟩
  have HS1 := Lib.hid (HS0.out.next b1); have HZ1 := Lib.hid (HZ0.out.next b1); have HB1 := Lib.hid (HB0.out.trans (b1.mono HB0.out.size)); have HR1 := Lib.hid (Lay8.rd.next HR0.out b1)
  clear b1 HS0 HZ0 HB0 HR0 K
  go_upto_region 3 with fail
  have r0 : w2.cell? ⟨w.heap.size + 1, 0, none⟩ = some (.bool false) := HZ1.out.c 0 rfl; have q0 := HZ1.out.z 0
  by_cases hlen : 100 < l.length
  · have d1 : (100 : Int) < (l.length : Int) := by omega
    go_wp2_with fail
    exact boxM_ret Try.results4 (HZ1.out.set 0 (.bool true) (show (0 : Nat) < 1 by decide)) (Below.setCell HB1.out (by exact Nat.le_succ _) _) rfl rfl
  have d1 : ¬ (100 : Int) < (l.length : Int) := by omega
  have hl2 : l.length ≤ 100000000 := by omega
  have SM := Lib.hid (rsmall14 a l cap w2 hl2 HR1.out)
  by_cases hS : ∀ g ∈ l, EdgS g
  rotate_left
  · rw [decide_eq_false hS] at SM
    go_wp2_with fail
    refine SM.out.mono ?_
    rintro e w3 ⟨rfl, b2⟩
    have HZ2 := Lib.hid (HZ1.out.next b2); have HB2 := Lib.hid (HB1.out.trans (b2.mono HB1.out.size))
    clear b2 r0 q0
    have r0 : w3.cell? ⟨w.heap.size + 1, 0, none⟩ = some (.bool false) := HZ2.out.c 0 rfl; have q0 := HZ2.out.z 0
    go_wp2_with fail
    exact boxM_ret Try.results4 (HZ2.out.set 0 (.bool true) (show (0 : Nat) < 1 by decide)) (Below.setCell HB2.out (by exact Nat.le_succ _) _) rfl rfl
  rw [decide_eq_true hS] at SM
  go_wp2_with fail
  refine SM.out.mono ?_
  rintro e w3 ⟨rfl, b2⟩
  have HS2 := Lib.hid (HS1.out.next b2); have HZ2 := Lib.hid (HZ1.out.next b2); have HB2 := Lib.hid (HB1.out.trans (b2.mono HB1.out.size)); have HR2 := Lib.hid (Lay8.rd.next HR1.out b2)
  clear b2 HS1 HZ1 HB1 HR1 r0 q0 SM
  have RE := Lib.hid (redges14 a l cap w3 hl2 hS HR2.out)
  have AA := Lib.hid (fun W h => all_any a l cap W hl2 hS h)
  have SE := Lib.hid (fun W h => snap_edges a l cap W hl2 hS h)
  have hll := Nat.le_trans (snapL_len l) hl2
  clear hS
  obtain ⟨RES, hRES⟩ : ∃ RES, RES = snapL l := ⟨_, rfl⟩
  rw [← hRES] at RE SE hll
  have HRS := Lib.hid hRES
  have AA2 : Hid (∀ W, RdE a l W → Calls Try.prog 13 #[.slice a l.length cap] W (GivesIt14 RES W)) := Lib.hid (fun W h => by rw [HRS.out]; exact AA.out W h)
  clear AA hRES HRS
  go_wp2_with fail
  refine RE.out.mono ?_
  rintro e w4 ⟨v1, rfl, hv, b3⟩
  obtain ⟨a1, c1, rfl, hc1⟩ := hv.shape
  have b4 := b3.trans (((Below.refl w4.heap.size w4).alloc (Nat.le_refl _) (.cells #[.slice a1 RES.length c1] 28)).mono b3.size)
  have HS3 := Lib.hid (HS2.out.next b4); have HZ3 := Lib.hid (HZ2.out.next b4); have HB3 := Lib.hid (HB2.out.trans (b4.mono HB2.out.size)); have HR3 := Lib.hid (Lay8.rd.next HR2.out b4)
  have HV3 := Lib.hid (Lay8.own.next hv ((Below.refl w4.heap.size w4).alloc (Nat.le_refl _) (.cells #[.slice a1 RES.length c1] 28)))
  have HW3 := Lib.hid (CBox.new w4 28 #[.slice a1 RES.length c1])
  have s3 := HZ2.out.lt
  have s4 := b3.size
  have s5 := HB2.out.size
  clear b3 b4 hv HS2 HZ2 HB2 HR2 RE
  go_upto_region 6 with fail
  generalize w4.alloc (.cells #[.slice a1 RES.length c1] 28) = w5 at *
  generalize w4.heap.size = qW at *
  have k1 := CBox.new w5 3 #[.int .i64 0]
  have b5 := (Below.refl w5.heap.size w5).alloc (Nat.le_refl _) (.cells #[.int .i64 0] 3)
  have HS4 := Lib.hid (HS3.out.next b5); have HZ4 := Lib.hid (HZ3.out.next b5); have HB4 := Lib.hid (HB3.out.trans (b5.mono HB3.out.size)); have HR4 := Lib.hid (Lay8.rd.next HR3.out b5)
  have HV4 := Lib.hid (Lay8.own.next HV3.out b5); have HW4 := Lib.hid (HW3.out.next b5); have HN4 := Lib.hid k1
  have s6 := HW3.out.lt
  clear b5 k1 HS3 HZ3 HB3 HR3 HV3 HW3
  go_upto_region 7 with fail
  generalize w5.alloc (.cells #[.int .i64 0] 3) = w6 at *
  generalize w5.heap.size = qn at *
  go_wp2_with fail
  refine (AA2.out _ HR4.out).mono ?_
  rintro o W0 ⟨gf, lb, ca, cb, rfl, eg, b2, ha, hb, hfe⟩
  have HS := Lib.hid (HS4.out.next b2); have HZ := Lib.hid (HZ4.out.next b2); have HB := Lib.hid (HB4.out.trans (b2.mono HB4.out.size)); have HR := Lib.hid (Lay8.rd.next HR4.out b2)
  have HV := Lib.hid (Lay8.own.next HV4.out b2); have HW := Lib.hid (HW4.out.next b2); have HQ := Lib.hid (HN4.out.next b2)
  have hlt : qn < W0.heap.size := HQ.out.lt
  have hqa : qn < ca := Nat.lt_of_lt_of_le HN4.out.lt ha
  have hfe5 := FeedsO.wideAny (n := 5) hfe
  have hrun := nil_neq14 gf lb W0
  have HNV := Lib.hid (HV.out.not_box HQ.out (by decide))
  have e0 : IntKind.i64.wrap (m : Int) = (m : Int) := IntWalk.i64_in _ (by omega)
  clear hfe AA2 b2 HS4 HZ4 HB4 HR4 HV4 HW4 HN4
  go_wp2
  refine (wpIn_wide (n := 6)).1 ?_
  have AB : AbideO T14 W0.heap.size (fun (pre : List Edg) X => (Fixed W0.heap.size [qn] W0 X ∧ CBox qn 3 #[.int .i64 (pre.length : Int)] X) ∧ (Below w.heap.size w X ∧ W0.heap.size ≤ X.heap.size) ∧ pre.length ≤ m) := (abideO_fixed.and (abideO_boxP (by omega) (fun pre => #[.int .i64 (pre.length : Int)]))).and ((abideO_below (by omega)).and (abideO_pre (fun pre => pre.length ≤ m)))
  have HAB := Lib.hid AB
  refine wpIn_feedsO (T := T14) (ca := ca) (cb := cb) (enc := encE) (RES := RES) rfl (by decide) (gf := gf) (lb := lb) rfl trivial eg
    hfe5 (Mid.refl _ _ _) hb (fun _ => rfl) (fun pre X => (Fixed W0.heap.size [qn] W0 X ∧ CBox qn 3 #[.int .i64 (pre.length : Int)] X) ∧ (Below w.heap.size w X ∧ W0.heap.size ≤ X.heap.size) ∧ pre.length ≤ m) (fun c pre X => (c = .exit 0 ∧ m < pre.length) ∧ (Fixed W0.heap.size [qn] W0 X ∧ CBox qn 3 #[.int .i64 (m : Int)] X) ∧ (Below w.heap.size w X ∧ W0.heap.size ≤ X.heap.size))
    AB (fun c => (abideO_pre (fun pre => c = .exit 0 ∧ m < pre.length)).and ((abideO_fixed.and (abideO_box (by omega))).and (abideO_below (by omega)))) ⟨⟨Fixed.refl (Nat.le_refl _), HQ.out⟩, ⟨HB.out, Nat.le_refl _⟩, Nat.zero_le _⟩
    (fun x a' X => ∃ Bx, W0.heap.size ≤ Bx ∧ CBox Bx 35 x.arr X ∧ a' = { tmps := #[.slice a l.length cap, .int .u8 (m : Int), undef, .pointer (some ⟨w.heap.size, 0, none⟩), .pointer (some ⟨w.heap.size + 1, 0, none⟩), .pointer (some ⟨qW, 0, none⟩), .pointer (some ⟨qn, 0, none⟩), .func (.func gf) #[] lb, .pointer (some ⟨Bx, 0, none⟩), .bool true, .bool false, .slice a l.length cap, .int .i64 (l.length : Int), .bool false, .bool false, .slice a l.length cap, .bool true, .bool false, .bool false, .slice a l.length cap, .slice a1 RES.length c1, .slice a l.length cap, .func (.func gf) #[] lb, .func (.func gf) #[] lb, .bool true, .func (.func gf) #[] lb, x.val, undef, undef, undef, undef, undef, undef, undef, undef, undef, undef, undef, undef, undef, undef, undef, undef, undef, undef, undef, undef, undef, undef, undef, undef, undef, undef, undef, undef, undef, undef, undef], defers := [] }) ?own ?assign ?body ?done ?stop
  case own =>
    rintro x a' _ X X' row ⟨Bx, h0, h1, h3⟩ hg hr
    exact ⟨Bx, h0, h1.free hg (fun r e => (hr r e).2), h3⟩
  case assign =>
    rintro l' pre x X K hj hws hpx hK
    have z2 := (Below.refl X.heap.size X).alloc (Nat.le_refl _) (.cells x.arr 35)
    have hj' := HAB.out.abide.new _ _ _ hj z2
    have HJ3 := Lib.hid hj'
    have HZ1 := Lib.hid (CBox.new X 35 x.arr); have HZ2 := Lib.hid z2; have HK := Lib.hid hK
    clear z2 hj hK hj' AB
    unfold encE
    obtain ⟨px, py, qx, qy⟩ := x
    unfold Edg.val Edg.arr at *
    dsimp only at *
    gi_wp2
    exact HK.out _ _ ((KeepsOthers.alloc _ _).from _) (KeepsT.below HZ2.out (by omega)) HJ3.out ⟨_, hws, HZ1.out, rfl⟩
  case done =>
    rintro D X hD ⟨⟨hfx, hn⟩, ⟨hbe, hsz⟩, hl5⟩ hK
    have HSD := Lib.hid (hfx.box HS.out (by omega) (by simp; omega)); have HZD := Lib.hid (hfx.box HZ.out (by omega) (by simp; omega)); have HWD := Lib.hid (hfx.box HW.out (by omega) (by simp; omega)); have HBD := Lib.hid hbe; have HKD := Lib.hid hK; have HND := Lib.hid hn
    have HRD := Lib.hid (show RdE a l X.drew from Lay8.rd.next (Lay8.rd.next hr hbe) (Below.refl _ _).drew)
    have HVD := Lib.hid (show edgL.own w3.heap.size (.slice a1 RES.length c1) RES X.drew from Lay8.own.next (Fixed.own hfx HV.out (Nat.le_refl _) (fun q hq hm => HNV.out (by rw [List.mem_singleton] at hm; rw [← hm]; exact hq.symm))) (Below.refl _ _).drew)
    have n0 : X.cell? ⟨qn, 0, none⟩ = some (.int .i64 (RES.length : Int)) := hn.c 0 rfl
    have s0 : X.cell? ⟨w.heap.size, 0, none⟩ = some (.int .u8 (m : Int)) := HSD.out.c 0 rfl
    have w0 : X.cell? ⟨qW, 0, none⟩ = some (.slice a1 RES.length c1) := HWD.out.c 0 rfl
    replace HSD := Lib.hid HSD.out.drew; replace HZD := Lib.hid HZD.out.drew; replace HWD := Lib.hid HWD.out.drew; replace HND := Lib.hid HND.out.drew
    clear hfx hn hbe hK HAB AB
  
    by_cases hc : RES.length < m
    ·
      go_wp2_with fail
      go_region_held3 (fun w' => w'.cell? ⟨qn, 0, none⟩ = some (.int .i64 (RES.length : Int)) ∧ w'.cell? ⟨w.heap.size, 0, none⟩ = some (.int .u8 (m : Int)) ∧ w'.cell? ⟨qW, 0, none⟩ = some (.slice a1 RES.length c1)) (first | (refine ⟨?_, ?_, ?_⟩ <;> with_reducible assumption) | (simp [go_sem, *]; done))
        (first
        | (go_at_call 15; (with_reducible refine (SE.out _ HRD.out).mono ?_); rintro e v1 ⟨vv, rfl, ho, bc1⟩; obtain ⟨va, vc, rfl, _⟩ := ho.shape; have HO1 := Lib.hid ho; have HC1 := Lib.hid bc1; clear n0 s0 w0; have n0 : v1.cell? ⟨qn, 0, none⟩ = some (.int .i64 (RES.length : Int)) := (HND.out.next bc1).c 0 rfl; have s0 : v1.cell? ⟨w.heap.size, 0, none⟩ = some (.int .u8 (m : Int)) := (HSD.out.next bc1).c 0 rfl; have w0 : v1.cell? ⟨qW, 0, none⟩ = some (.slice a1 RES.length c1) := (HWD.out.next bc1).c 0 rfl; clear ho bc1)
        | (go_at_call 14; have A1 : RdE va RES v1 := Lay8.own.rd HO1.out; have A2 : RdE a1 RES v1 := Lay8.rd.next (Lay8.own.rd HVD.out) HC1.out; (with_reducible refine (rsame12 va a1 RES RES vc c1 v1 hll A1 A2).mono ?_); clear A1 A2; rintro e v2 ⟨rfl, bc2⟩; have HC2 := Lib.hid (HC1.out.trans (bc2.mono HC1.out.size)); clear n0 s0 w0; have n0 : v2.cell? ⟨qn, 0, none⟩ = some (.int .i64 (RES.length : Int)) := (HND.out.next HC2.out).c 0 rfl; have s0 : v2.cell? ⟨w.heap.size, 0, none⟩ = some (.int .u8 (m : Int)) := (HSD.out.next HC2.out).c 0 rfl; have w0 : v2.cell? ⟨qW, 0, none⟩ = some (.slice a1 RES.length c1) := (HWD.out.next HC2.out).c 0 rfl; have HZ9 := Lib.hid (HZD.out.next HC2.out); have r0 : v2.cell? ⟨w.heap.size + 1, 0, none⟩ = some (.bool false) := HZ9.out.c 0 rfl; have q0 := HZ9.out.z 0; clear bc2)
        )
      have HB9 := Lib.hid (HBD.out.drew.trans (HC2.out.mono HBD.out.drew.size))
      have HK9 := Lib.hid ((HC2.out.block D (Array.getElem?_eq_some_iff.1 HKD.out).1).trans HKD.out)
      go_wp2_with fail
      exact boxM_done Try.results4 (HZ9.out.set 0 (.bool true) (show (0 : Nat) < 1 by decide)) (Below.setCell HB9.out (by exact Nat.le_succ _) _) rfl rfl ((Below.heap_setCell _ _ _ _ (by exact fun e => by have e2 : D = w.heap.size + 1 := e; omega)).trans HK9.out) (by omega)
    ·
      obtain rfl : m = RES.length := by omega
      go_wp2_with fail
      go_region_held3 (fun w' => w'.cell? ⟨qn, 0, none⟩ = some (.int .i64 (RES.length : Int)) ∧ w'.cell? ⟨w.heap.size, 0, none⟩ = some (.int .u8 (RES.length : Int)) ∧ w'.cell? ⟨qW, 0, none⟩ = some (.slice a1 RES.length c1)) (first | (refine ⟨?_, ?_, ?_⟩ <;> with_reducible assumption) | (simp [go_sem, *]; done))
        (first
        | (go_at_call 15; (with_reducible refine (SE.out _ HRD.out).mono ?_); rintro e v1 ⟨vv, rfl, ho, bc1⟩; obtain ⟨va, vc, rfl, _⟩ := ho.shape; have HO1 := Lib.hid ho; have HC1 := Lib.hid bc1; clear n0 s0 w0; have n0 : v1.cell? ⟨qn, 0, none⟩ = some (.int .i64 (RES.length : Int)) := (HND.out.next bc1).c 0 rfl; have s0 : v1.cell? ⟨w.heap.size, 0, none⟩ = some (.int .u8 (RES.length : Int)) := (HSD.out.next bc1).c 0 rfl; have w0 : v1.cell? ⟨qW, 0, none⟩ = some (.slice a1 RES.length c1) := (HWD.out.next bc1).c 0 rfl; clear ho bc1)
        | (go_at_call 14; have A1 : RdE va RES v1 := Lay8.own.rd HO1.out; have A2 : RdE a1 RES v1 := Lay8.rd.next (Lay8.own.rd HVD.out) HC1.out; (with_reducible refine (rsame12 va a1 RES RES vc c1 v1 hll A1 A2).mono ?_); clear A1 A2; rintro e v2 ⟨rfl, bc2⟩; have HC2 := Lib.hid (HC1.out.trans (bc2.mono HC1.out.size)); clear n0 s0 w0; have n0 : v2.cell? ⟨qn, 0, none⟩ = some (.int .i64 (RES.length : Int)) := (HND.out.next HC2.out).c 0 rfl; have s0 : v2.cell? ⟨w.heap.size, 0, none⟩ = some (.int .u8 (RES.length : Int)) := (HSD.out.next HC2.out).c 0 rfl; have w0 : v2.cell? ⟨qW, 0, none⟩ = some (.slice a1 RES.length c1) := (HWD.out.next HC2.out).c 0 rfl; have HZ9 := Lib.hid (HZD.out.next HC2.out); have r0 : v2.cell? ⟨w.heap.size + 1, 0, none⟩ = some (.bool false) := HZ9.out.c 0 rfl; have q0 := HZ9.out.z 0; clear bc2)
        )
      have HB9 := Lib.hid (HBD.out.drew.trans (HC2.out.mono HBD.out.drew.size))
      have HK9 := Lib.hid ((HC2.out.block D (Array.getElem?_eq_some_iff.1 HKD.out).1).trans HKD.out)
      go_wp2_with fail
      exact boxM_done Try.results4 (HZ9.out.set 0 (.bool true) (show (0 : Nat) < 1 by decide)) (Below.setCell HB9.out (by exact Nat.le_succ _) _) rfl rfl ((Below.heap_setCell _ _ _ _ (by exact fun e => by have e2 : D = w.heap.size + 1 := e; omega)).trans HK9.out) (by omega)
  case stop =>
    rintro D c pre X hD hpre ⟨⟨rfl, hmx⟩, ⟨hfx, hn⟩, hbe, hsz⟩ hK
    have hlp := hpre.length_le
    have hc : ¬ RES.length < m := by omega
    have HSD := Lib.hid (hfx.box HS.out (by omega) (by simp; omega)); have HZD := Lib.hid (hfx.box HZ.out (by omega) (by simp; omega)); have HWD := Lib.hid (hfx.box HW.out (by omega) (by simp; omega)); have HBD := Lib.hid hbe; have HKD := Lib.hid hK; have HND := Lib.hid hn
    have HRD := Lib.hid (show RdE a l X.drew from Lay8.rd.next (Lay8.rd.next hr hbe) (Below.refl _ _).drew)
    have HVD := Lib.hid (show edgL.own w3.heap.size (.slice a1 RES.length c1) RES X.drew from Lay8.own.next (Fixed.own hfx HV.out (Nat.le_refl _) (fun q hq hm => HNV.out (by rw [List.mem_singleton] at hm; rw [← hm]; exact hq.symm))) (Below.refl _ _).drew)
    have n0 : X.cell? ⟨qn, 0, none⟩ = some (.int .i64 (m : Int)) := hn.c 0 rfl
    have s0 : X.cell? ⟨w.heap.size, 0, none⟩ = some (.int .u8 (m : Int)) := HSD.out.c 0 rfl
    have w0 : X.cell? ⟨qW, 0, none⟩ = some (.slice a1 RES.length c1) := HWD.out.c 0 rfl
    replace HSD := Lib.hid HSD.out.drew; replace HZD := Lib.hid HZD.out.drew; replace HWD := Lib.hid HWD.out.drew; replace HND := Lib.hid HND.out.drew
    clear hfx hn hbe hK HAB AB hmx hlp hpre
    gi_wp2_with fail
    (try go_wp2_with fail)
    go_region_held3 (fun w' => w'.cell? ⟨qn, 0, none⟩ = some (.int .i64 (m : Int)) ∧ w'.cell? ⟨w.heap.size, 0, none⟩ = some (.int .u8 (m : Int)) ∧ w'.cell? ⟨qW, 0, none⟩ = some (.slice a1 RES.length c1)) (first | (refine ⟨?_, ?_, ?_⟩ <;> with_reducible assumption) | (simp [go_sem, *]; done))
      (first
      | (go_at_call 15; (with_reducible refine (SE.out _ HRD.out).mono ?_); rintro e v1 ⟨vv, rfl, ho, bc1⟩; obtain ⟨va, vc, rfl, _⟩ := ho.shape; have HO1 := Lib.hid ho; have HC1 := Lib.hid bc1; clear n0 s0 w0; have n0 : v1.cell? ⟨qn, 0, none⟩ = some (.int .i64 (m : Int)) := (HND.out.next bc1).c 0 rfl; have s0 : v1.cell? ⟨w.heap.size, 0, none⟩ = some (.int .u8 (m : Int)) := (HSD.out.next bc1).c 0 rfl; have w0 : v1.cell? ⟨qW, 0, none⟩ = some (.slice a1 RES.length c1) := (HWD.out.next bc1).c 0 rfl; clear ho bc1)
      | (go_at_call 14; have A1 : RdE va RES v1 := Lay8.own.rd HO1.out; have A2 : RdE a1 RES v1 := Lay8.rd.next (Lay8.own.rd HVD.out) HC1.out; (with_reducible refine (rsame12 va a1 RES RES vc c1 v1 hll A1 A2).mono ?_); clear A1 A2; rintro e v2 ⟨rfl, bc2⟩; have HC2 := Lib.hid (HC1.out.trans (bc2.mono HC1.out.size)); clear n0 s0 w0; have n0 : v2.cell? ⟨qn, 0, none⟩ = some (.int .i64 (m : Int)) := (HND.out.next HC2.out).c 0 rfl; have s0 : v2.cell? ⟨w.heap.size, 0, none⟩ = some (.int .u8 (m : Int)) := (HSD.out.next HC2.out).c 0 rfl; have w0 : v2.cell? ⟨qW, 0, none⟩ = some (.slice a1 RES.length c1) := (HWD.out.next HC2.out).c 0 rfl; have HZ9 := Lib.hid (HZD.out.next HC2.out); have r0 : v2.cell? ⟨w.heap.size + 1, 0, none⟩ = some (.bool false) := HZ9.out.c 0 rfl; have q0 := HZ9.out.z 0; clear bc2)
      )
    have HB9 := Lib.hid (HBD.out.drew.trans (HC2.out.mono HBD.out.drew.size))
    have HK9 := Lib.hid ((HC2.out.block D (Array.getElem?_eq_some_iff.1 HKD.out).1).trans HKD.out)
    go_wp2_with fail
    exact boxM_done Try.results4 (HZ9.out.set 0 (.bool true) (show (0 : Nat) < 1 by decide)) (Below.setCell HB9.out (by exact Nat.le_succ _) _) rfl rfl ((Below.heap_setCell _ _ _ _ (by exact fun e => by have e2 : D = w.heap.size + 1 := e; omega)).trans HK9.out) (by omega)
  case body =>
    rintro l' pre x a' X ⟨⟨hfx, hn⟩, ⟨hbe, hsz⟩, hl5⟩ ⟨Bx, hBx, hbx, rfl⟩ hws hpx
    obtain ⟨rr, hpr⟩ := hpx
    have hg : RES[pre.length]? = some x := by rw [← hpr]; simp
    have hpl : pre.length < RES.length := (List.getElem?_eq_some_iff.1 hg).1
    have hm1 := Lib.hid (show qn ∈ [qn] by simp)
    have HWX := Lib.hid (hfx.box HW.out (by omega) (by simp; omega)); have HSX := Lib.hid (hfx.box HS.out (by omega) (by simp; omega))
    have HN0 := Lib.hid hn; have HB0 := Lib.hid hbe; have HBX := Lib.hid hbx; have HFX := Lib.hid hfx
    have HLM := Lib.hid (show (pre ++ [x]).length = pre.length + 1 by simp)
    have w0 : X.cell? ⟨qW, 0, none⟩ = some (.slice a1 RES.length c1) := HWX.out.c 0 rfl
    have n0 : X.cell? ⟨qn, 0, none⟩ = some (.int .i64 (pre.length : Int)) := hn.c 0 rfl
    have s0 : X.cell? ⟨w.heap.size, 0, none⟩ = some (.int .u8 (m : Int)) := HSX.out.c 0 rfl
    by_cases hl : pre.length < m
    rotate_left
    · have e5 := Lib.hid (show pre.length = m by omega)
      have d2 : (m : Int) ≤ (pre.length : Int) := by omega
      clear hn hbe hbx hfx HAB AB hpr hg
      gi_wp2_with fail
      have NM := HN0.out
      rw [e5.out] at NM
      exact ⟨KeepsFrom.refl _ _, ⟨rfl, by rw [HLM.out]; omega⟩, ⟨HFX.out, NM⟩, HB0.out, hsz⟩
    have HLN := Lib.hid (show ((pre ++ [x]).length : Int) = (pre.length : Int) + 1 by simp)
    obtain ⟨p1, o1, e1, t1, x0, x1, x2, x3⟩ := RdE.at (Lay8.own.rd (Fixed.own hfx HV.out (Nat.le_refl _) (fun q hq hm => HNV.out (by rw [List.mem_singleton] at hm; rw [← hm]; exact hq.symm)))) hg
    rw [e1] at w0
    clear hpr hg
    obtain ⟨px, py, qx, qy⟩ := x
    unfold Edg.arr at hbx
    dsimp only at *
    have b0 : X.cell? ⟨Bx, 0, none⟩ = some (.int .i64 px) := hbx.c 0 rfl; have b1 : X.cell? ⟨Bx, 1, none⟩ = some (.int .i64 py) := hbx.c 1 rfl; have b2 : X.cell? ⟨Bx, 2, none⟩ = some (.int .i64 qx) := hbx.c 2 rfl; have b3 : X.cell? ⟨Bx, 3, none⟩ = some (.int .i64 qy) := hbx.c 3 rfl
    have d0 : ¬ (m : Int) ≤ (pre.length : Int) := by omega
    have d1 : decide ((RES.length : Int) ≤ (pre.length : Int)) = false := decide_eq_false (by omega)
    have d2 : ¬ (RES.length : Int) ≤ (pre.length : Int) := by omega
    have d3 : (pre.length : Int) < (RES.length : Int) := by omega
    have d5 : ¬ RES.length ≤ pre.length := by omega
    have d4 : (0 : Int) ≤ (pre.length : Int) := by omega
    have he12 := Lib.hid (show ∀ k ∈ [qn], k < W0.heap.size ∧ (k < ca ∨ cb ≤ k) by
      intro k hk
      simp only [List.mem_cons, List.not_mem_nil, or_false] at hk
      omega)
    clear hn hbe hbx hfx HAB AB t1 HV HNV hfe5 eg hrun SE
    gi_wp2
    have hs_ : X.cell? ⟨qW, 0, none⟩ = some (.slice (some ⟨p1, o1, none⟩) RES.length c1) ∧ X.cell? ⟨qn, 0, none⟩ = some (.int .i64 (pre.length : Int)) ∧ X.cell? ⟨Bx, 0, none⟩ = some (.int .i64 px) ∧ X.cell? ⟨Bx, 1, none⟩ = some (.int .i64 py) ∧ X.cell? ⟨Bx, 2, none⟩ = some (.int .i64 qx) ∧ X.cell? ⟨Bx, 3, none⟩ = some (.int .i64 qy) ∧ X.cell? ⟨p1, o1 + pre.length * 4, none⟩ = some (.int .i64 px) ∧ X.cell? ⟨p1, o1 + pre.length * 4 + 1, none⟩ = some (.int .i64 py) ∧ X.cell? ⟨p1, o1 + pre.length * 4 + 2, none⟩ = some (.int .i64 qx) ∧ X.cell? ⟨p1, o1 + pre.length * 4 + 3, none⟩ = some (.int .i64 qy) := ⟨w0, n0, b0, b1, b2, b3, x0, x1, x2, x3⟩
    refine wpIn_round_held (S := fun w' => w'.cell? ⟨qW, 0, none⟩ = some (.slice (some ⟨p1, o1, none⟩) RES.length c1) ∧ w'.cell? ⟨qn, 0, none⟩ = some (.int .i64 (pre.length : Int)) ∧ w'.cell? ⟨Bx, 0, none⟩ = some (.int .i64 px) ∧ w'.cell? ⟨Bx, 1, none⟩ = some (.int .i64 py) ∧ w'.cell? ⟨Bx, 2, none⟩ = some (.int .i64 qx) ∧ w'.cell? ⟨Bx, 3, none⟩ = some (.int .i64 qy) ∧ w'.cell? ⟨p1, o1 + pre.length * 4, none⟩ = some (.int .i64 px) ∧ w'.cell? ⟨p1, o1 + pre.length * 4 + 1, none⟩ = some (.int .i64 py) ∧ w'.cell? ⟨p1, o1 + pre.length * 4 + 2, none⟩ = some (.int .i64 qx) ∧ w'.cell? ⟨p1, o1 + pre.length * 4 + 3, none⟩ = some (.int .i64 qy)) (by kernel_rfl) (by kernel_rfl) (fun ⟨_, _, h⟩ => h) (by exact hs_) (fun hHeld => ?_)
    clear w0 n0 s0 b0 b1 b2 b3 x0 x1 x2 x3 hs_
    refine wpAnyH_take (i := 0) (oi := snlOp0) (v := ?_) rfl (by kernel_rfl) (by kernel_rfl) (by kernel_rfl) (fun _ _ _ h => h) (Or.inl ⟨by rfl, ?_⟩) (by assumption) ?_
    rotate_left
    · (unfold snlOp0; intro w hSw; (try dsimp only at hSw); go_simp; (first | done | with_reducible rfl))
    unfold snlOp0
    (try simp only [Act.put, List.setIfInBounds_toArray, List.set_cons_zero, List.set_cons_succ])
    refine wpAnyH_take (i := 1) (oi := snlOp1) (v := ?_) rfl (by kernel_rfl) (by kernel_rfl) (by kernel_rfl) (fun _ _ _ h => h) (Or.inl ⟨by rfl, ?_⟩) (by assumption) ?_
    rotate_left
    · (unfold snlOp1; intro w hSw; (try dsimp only at hSw); go_simp; (first | done | with_reducible rfl))
    unfold snlOp1
    (try simp only [Act.put, List.setIfInBounds_toArray, List.set_cons_zero, List.set_cons_succ])
    refine wpAnyH_take (i := 2) (oi := snlOp2) (v := ?_) rfl (by kernel_rfl) (by kernel_rfl) (by kernel_rfl) (fun _ _ _ h => h) (Or.inl ⟨by rfl, ?_⟩) (by assumption) ?_
    rotate_left
    · (unfold snlOp2; intro w hSw; (try dsimp only at hSw); go_simp; (first | done | with_reducible rfl))
    unfold snlOp2
    (try simp only [Act.put, List.setIfInBounds_toArray, List.set_cons_zero, List.set_cons_succ])
    refine wpAnyH_take (i := 3) (oi := snlOp3) (v := ?_) rfl (by kernel_rfl) (by kernel_rfl) (by kernel_rfl) (fun _ _ _ h => h) (Or.inl ⟨by rfl, ?_⟩) (by assumption) ?_
    rotate_left
    · (unfold snlOp3; intro w hSw; (try dsimp only at hSw); go_simp; (first | done | with_reducible rfl))
    unfold snlOp3
    (try simp only [Act.put, List.setIfInBounds_toArray, List.set_cons_zero, List.set_cons_succ])
    refine wpAnyH_take (i := 4) (oi := snlOp4) (v := ?_) rfl (by kernel_rfl) (by kernel_rfl) (by kernel_rfl) (fun _ _ _ h => h) (Or.inl ⟨by rfl, ?_⟩) (by assumption) ?_
    rotate_left
    · (unfold snlOp4; intro w hSw; (try dsimp only at hSw); go_simp; (first | done | with_reducible rfl))
    unfold snlOp4
    (try simp only [Act.put, List.setIfInBounds_toArray, List.set_cons_zero, List.set_cons_succ])
    refine wpAnyH_take (i := 5) (oi := snlOp5) (v := ?_) rfl (by kernel_rfl) (by kernel_rfl) (by kernel_rfl) (fun _ _ _ h => h) (Or.inl ⟨by rfl, ?_⟩) (by assumption) ?_
    rotate_left
    · (unfold snlOp5; intro w hSw; (try dsimp only at hSw); go_simp; (first | done | with_reducible rfl))
    unfold snlOp5
    (try simp only [Act.put, List.setIfInBounds_toArray, List.set_cons_zero, List.set_cons_succ])
    refine wpAnyH_take (i := 6) (oi := snlOp6) (v := ?_) rfl (by kernel_rfl) (by kernel_rfl) (by kernel_rfl) (fun _ _ _ h => h) (Or.inl ⟨by rfl, ?_⟩) (by assumption) ?_
    rotate_left
    · (unfold snlOp6; intro w hSw; (try dsimp only at hSw); go_simp; (first | done | with_reducible rfl))
    unfold snlOp6
    (try simp only [Act.put, List.setIfInBounds_toArray, List.set_cons_zero, List.set_cons_succ])
    refine wpAnyH_take (i := 7) (oi := snlOp7) (v := ?_) rfl (by kernel_rfl) (by kernel_rfl) (by kernel_rfl) (fun _ _ _ h => h) (Or.inl ⟨by rfl, ?_⟩) (by assumption) ?_
    rotate_left
    · (unfold snlOp7; intro w hSw; (try dsimp only at hSw); go_simp; (first | done | with_reducible rfl))
    unfold snlOp7
    (try simp only [Act.put, List.setIfInBounds_toArray, List.set_cons_zero, List.set_cons_succ])
    refine wpAnyH_take (i := 8) (oi := snlOp8) (v := ?_) rfl (by kernel_rfl) (by kernel_rfl) (by kernel_rfl) (fun _ _ _ h => h) (Or.inl ⟨by rfl, ?_⟩) (by assumption) ?_
    rotate_left
    · (unfold snlOp8; intro w hSw; (try dsimp only at hSw); go_simp; (first | done | with_reducible rfl))
    unfold snlOp8
    (try simp only [Act.put, List.setIfInBounds_toArray, List.set_cons_zero, List.set_cons_succ])
    refine wpAnyH_take (i := 9) (oi := snlOp9) (v := ?_) rfl (by kernel_rfl) (by kernel_rfl) (by kernel_rfl) (fun _ _ _ h => h) (Or.inl ⟨by rfl, ?_⟩) (by assumption) ?_
    rotate_left
    · (unfold snlOp9; intro w hSw; (try dsimp only at hSw); go_simp; (first | done | with_reducible rfl))
    unfold snlOp9
    (try simp only [Act.put, List.setIfInBounds_toArray, List.set_cons_zero, List.set_cons_succ])
    refine wpAnyH_take (i := 10) (oi := snlOp10) (v := ?_) rfl (by kernel_rfl) (by kernel_rfl) (by kernel_rfl) (fun _ _ _ h => h) (Or.inl ⟨by rfl, ?_⟩) (by assumption) ?_
    rotate_left
    · (unfold snlOp10; intro w hSw; (try dsimp only at hSw); go_simp; (first | done | with_reducible rfl))
    unfold snlOp10
    (try simp only [Act.put, List.setIfInBounds_toArray, List.set_cons_zero, List.set_cons_succ])
    refine wpAnyH_take (i := 11) (oi := snlOp11) (v := ?_) rfl (by kernel_rfl) (by kernel_rfl) (by kernel_rfl) (fun _ _ _ h => h) (Or.inl ⟨by rfl, ?_⟩) (by assumption) ?_
    rotate_left
    · (unfold snlOp11; intro w hSw; (try dsimp only at hSw); go_simp; (first | done | with_reducible rfl))
    unfold snlOp11
    (try simp only [Act.put, List.setIfInBounds_toArray, List.set_cons_zero, List.set_cons_succ])
    refine wpAnyH_done (by kernel_rfl) ?_ _
    clear hHeld
    have DR := Lib.hid (Below.refl X.heap.size X).drew
    have HND : Hid (CBox qn 3 #[.int .i64 (pre.length : Int)] X.drew) := Lib.hid HN0.out
    have SM := Lib.hid (((Small12.refl W0.heap.size [qn] X).below DR.out).set (o := 0) hm1.out (.int .i64 ((pre.length : Int) + 1)))
    have BE := Lib.hid (Below.setCell (HB0.out.trans (DR.out.mono HB0.out.size)) (p := ⟨qn, 0, none⟩) (show w.heap.size ≤ qn by omega) (.int .i64 ((pre.length : Int) + 1)))
    have NN := Lib.hid (HND.out.set 0 (.int .i64 ((pre.length : Int) + 1)) (show (0 : Nat) < 1 by decide))
    have FX := Lib.hid ((HFX.out.next DR.out).set (o := 0) hm1.out (.int .i64 ((pre.length : Int) + 1)))
    generalize X.drew = Y at *
    have n0 : Y.cell? ⟨qn, 0, none⟩ = some (.int .i64 (pre.length : Int)) := HND.out.c 0 rfl; have n1 := HND.out.z 0
    gi_wp2_with fail
    have hk := SM.out.keeps (T := T14) hsz hb he12.out
    exact ⟨hk.1, hk.2, ⟨FX.out, by rw [HLN.out]; exact NN.out⟩, ⟨BE.out, Nat.le_trans hsz SM.out.size⟩, by rw [HLM.out]; omega⟩
theorem walk (a : Option Addr) (l : List Edg) (cap : Nat) (hl : l.length ≤ maxLen) (m : Int) (hm : (Lit.int .u8 m).wf = true) (w : World) (hr : RdE a l w) (_ : ∀ g ∈ l, EdgI g) (_ : l.length ≤ cap) :
    Calls Try.prog 4 #[.slice a l.length cap, .int .u8 m] w fun e w' => e = .returned (.bool true) ∧ Below w.heap.size w w' := by
  obtain ⟨n, rfl, hn⟩ := u8_nat hm
  exact walk0 a l cap n hn hl w hr
set_option maxRecDepth 100000 in
theorem lifted (os : Os) (started : os.Started) (H : Type) (enc : TypeId × Value → H) :
    ReturnsInHanded {} Try.checked os 4 .any (Rows.snapEdgesSpec.pre6 enc Try.prog Try.f4 Rows.snapEdgesRow.domain false) (Rows.snapEdgesSpec.post enc Try.prog Try.f4 false true false false) := by
  refine returnsInHanded_of_change (C := Try.checked) own started (by kernel_rfl) Try.func4
    (ChangeSpec.witness6 (enc := enc) (C := Try.checked) false ⟨#[], #[.slice none 0 0, .int .u8 0], []⟩ 8 (by kernel_rfl) (by kernel_rfl) (by kernel_rfl) (by kernel_rfl)) ?_
  intro W base args ds gs before hval0 hW hcnd _
  have hval : ∀ (j : Nat) t v, Try.f4.params[j]? = some t → args[j]? = some v → Value.okWide Try.prog W .any base t v := hval0
  have hW' := hW
  obtain ⟨p, q, hA0, hV, rfl, hfz, hnd⟩ := hW
  have hA : DataW.TrodAll enc Try.prog W 0 (fun _ => true) true Try.f4.params.toList args.toList ds p := hA0
  rw [Try.params4] at hA hval
  obtain ⟨v0, v1, d0, d1, p0, p1, rfl, rfl, rfl, h0, h1⟩ := trodAll_two hA
  obtain ⟨rfl, rfl⟩ := trodVars_none hV
  obtain ⟨a0, z0, k0, rfl, l0, i0, r0, m0⟩ := edgs_of_trod Try.underlying28 Try.underlying35 (by kernel_rfl) rfl rfl Try.underlying25 (by kernel_rfl) rfl rfl rfl (by kernel_rfl) (by kernel_rfl) Try.underlying2 Try.underlying2 (hval 0 28 v0 rfl rfl) h0
  obtain ⟨a1, rfl, rfl, rfl, w1⟩ := open_int Try.underlying5 (hval 1 5 v1 rfl rfl) h1
  clear hA0 hval0
  simp only [List.append_nil] at hW'
  have lt0 : ∀ x ∈ p0, x.block < W.heap.size := fun x hx => hW'.lt x (by simp [hx])
  refine (walk a0 z0 k0 l0 a1 w1 W i0 r0 m0).mono fun e W' ⟨he, hg⟩ => ?_
  subst he
  have b0' := Below.trod laidOut (by kernel_rfl) (of_decide_eq_true (by kernel_rfl)) h0 hg lt0
  exact ⟨_, rfl, ⟨_, _, _, [], _, [], hW', trodAll_mk1 (shut_bool Try.underlying4 _), trodAll_mk2 b0' (shut_int Try.underlying5 w1), rfl, hg.frame _, fun h => by cases h⟩⟩

/-- The given statement. -/
theorem proved : Rows.SnapEdgesSaid :=
  OpenClaim.holds_of_wide 4 Try.f4 rfl rfl rfl rfl rfl rfl rfl ⟨rfl, rfl, rfl, rfl, rfl⟩ rfl rfl rfl rfl rfl (by kernel_rfl) Try.func4 (by kernel_rfl)
    (of_decide_eq_true (by kernel_rfl)) (by unfold Func.isWrapper; first | (rw [if_pos (by decide +kernel)]; kernel_rfl) | (rw [if_neg (by decide +kernel)]; exact ⟨rfl, rfl⟩))
    (fun os started H enc _ => lifted os started H enc)
end Go.Proofs.Ytejhegoegmoemaa.snapEdges
