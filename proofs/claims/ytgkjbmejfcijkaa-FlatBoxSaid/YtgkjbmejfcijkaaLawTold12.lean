/-
  Layer 12's laws: told, out of whatever Pieces tells. (Typed by a program: wip/gen_told12.py.)
-/
import Derived.Test.YtgkjbmejfcijkaaJRow
import Derived.OwnWalkIn
namespace Go.Proofs.Ytgkjbmejfcijkaa
open Go.RowKit Go.Shelf
attribute [local go_sem] Oper.semAt_some

/-- A row of curves of the call's own. -/
def KRow (R : Nat) (v : Value) (l : List Crv) (w : World) : Prop := crvL.own R v l w
theorem crv_one_in {F : Fence} {N : Nat} {ops : Array Oper} {rest : List Oper} {o : Oper} {a : Act} {Q : Exit → Act → World → Prop} (w : World) (hgd : o.guard = none) (s x : Operand)
    (ho : o.op = .call { callee := .builtin .append, args := #[s, x], argTypes := #[28, 28] }) {B n : Nat} {v : Value} {l : List Crv} (hn : w.heap.size = n) (g : Crv) (hown : crvL.own B v l w) (hs : a.eval s = v)
    (hx : a.eval x = .slice (some ⟨n, 0, none⟩) 1 1) (hk : l.length ≤ 100000000) (hB : B ≤ w.heap.size)
    (h : ∀ v' w', crvL.own B v' (l ++ [g]) w' → w.grownBy w' v.ownBlock → wpListIn F N Try.prog ops Q rest (a.put o.dst v') w') :
    wpListIn F N Try.prog ops Q (o :: rest) a (w.alloc (.cells g.arr 25)) := by
  obtain ⟨i0, hi, hz0, hz1, hz2⟩ := info_parts info_crv
  exact Lay8.one_in crvL w Try.underlying28 hi hz0 hz1 hz2 rfl (by decide) hgd s x ho hn g hown hs hx hk hB h
/-- Behind a loop: its block for deferred calls is shut. -/
theorem done_row {α : Type} {L : Lay8 α} {R D : Nat} {v : Value} {l : List α} {w X : World} {o : Obj} (h : L.own R v l X) (hK : X.heap[D]? = some (.deferred (some []))) (hb : Below w.heap.size w X) (hD : w.heap.size ≤ D) (hR : w.heap.size ≤ R := by omega) : L.own w.heap.size v l (X.putObj D o) ∧ Below w.heap.size w (X.putObj D o) := by
  refine ⟨(h.stay fun q hq => World.putObj_heap_other fun e => ?_).low hR, hb.grown (grownBy_putObj' X D o) hb.size fun k e => by cases e; exact hD⟩
  obtain ⟨cur, hc⟩ := (h.type q hq).2.2
  rw [e] at hc
  rw [hK] at hc
  cases hc
theorem nil_neq (gf : Nat) (lb : Array Value) (W : World) : Sem.run Try.prog (binOp BinOp.neq 42 (Value.func (.func gf) #[] lb) Value.nilFunc) W = .ok (.bool true) W := by kernel_rfl
set_option maxHeartbeats 4000000 in
set_option maxRecDepth 100000 in
theorem told12 (PI : PiecesOk) (c : Crv) (m : Nat) (w : World) (hc : c.right) (hm : m ≤ 100000) :
    Calls Try.prog 11 #[c.val, .int .i64 (m : Int)] w fun e w' => ∃ v, e = .returned v ∧ crvL.own w.heap.size v ((pieces12 20 c).take m) w' ∧ Below w.heap.size w w' := by
  refine (callsIn_wide (n := 6)).1 ?_
  have PC := Lib.hid (fun w => (callsIn_wide (n := 6 - 1)).2 (PI c w hc))
  clear PI hc
  refine callsIn_of_wp_marks Try.func11 rfl trivial ?_ rfl
  simp only [Try.ntmps11, List.size_toArray, List.length_cons, List.length_nil, Nat.reduceAdd, Nat.reduceSub, Array.replicate_succ, Array.replicate_zero, List.push_toArray, List.append_toArray, List.nil_append, List.cons_append]
  generalize pieces12 20 c = RES at *
  obtain ⟨px, py, qx, qy, rx, ry, sx, sy⟩ := c
  unfold Crv.val at *
  unfold Crv.arr at *
  dsimp only at *
  obtain ⟨k1, k2, k3, k4⟩ := boxes_three w #[.int .i64 px, .int .i64 py, .int .i64 qx, .int .i64 qy, .int .i64 rx, .int .i64 ry, .int .i64 sx, .int .i64 sy] #[.int .i64 (m : Int)] #[.slice none 0 0] 25 3 28
  have HC1 := Lib.hid k1; have HM1 := Lib.hid k2; have HO1 := Lib.hid k3; have HB1 := Lib.hid k4
  clear k1 k2 k3 k4
  have x0 : (((w.alloc (.cells #[.int .i64 px, .int .i64 py, .int .i64 qx, .int .i64 qy, .int .i64 rx, .int .i64 ry, .int .i64 sx, .int .i64 sy] 25)).alloc (.cells #[.int .i64 (m : Int)] 3)).alloc (.cells #[.slice none 0 0] 28)).cell? ⟨w.heap.size, 0, none⟩ = some (.int .i64 px) := HC1.out.c 0 rfl
  have x1 : (((w.alloc (.cells #[.int .i64 px, .int .i64 py, .int .i64 qx, .int .i64 qy, .int .i64 rx, .int .i64 ry, .int .i64 sx, .int .i64 sy] 25)).alloc (.cells #[.int .i64 (m : Int)] 3)).alloc (.cells #[.slice none 0 0] 28)).cell? ⟨w.heap.size, 1, none⟩ = some (.int .i64 py) := HC1.out.c 1 rfl
  have x2 : (((w.alloc (.cells #[.int .i64 px, .int .i64 py, .int .i64 qx, .int .i64 qy, .int .i64 rx, .int .i64 ry, .int .i64 sx, .int .i64 sy] 25)).alloc (.cells #[.int .i64 (m : Int)] 3)).alloc (.cells #[.slice none 0 0] 28)).cell? ⟨w.heap.size, 2, none⟩ = some (.int .i64 qx) := HC1.out.c 2 rfl
  have x3 : (((w.alloc (.cells #[.int .i64 px, .int .i64 py, .int .i64 qx, .int .i64 qy, .int .i64 rx, .int .i64 ry, .int .i64 sx, .int .i64 sy] 25)).alloc (.cells #[.int .i64 (m : Int)] 3)).alloc (.cells #[.slice none 0 0] 28)).cell? ⟨w.heap.size, 3, none⟩ = some (.int .i64 qy) := HC1.out.c 3 rfl
  have x4 : (((w.alloc (.cells #[.int .i64 px, .int .i64 py, .int .i64 qx, .int .i64 qy, .int .i64 rx, .int .i64 ry, .int .i64 sx, .int .i64 sy] 25)).alloc (.cells #[.int .i64 (m : Int)] 3)).alloc (.cells #[.slice none 0 0] 28)).cell? ⟨w.heap.size, 4, none⟩ = some (.int .i64 rx) := HC1.out.c 4 rfl
  have x5 : (((w.alloc (.cells #[.int .i64 px, .int .i64 py, .int .i64 qx, .int .i64 qy, .int .i64 rx, .int .i64 ry, .int .i64 sx, .int .i64 sy] 25)).alloc (.cells #[.int .i64 (m : Int)] 3)).alloc (.cells #[.slice none 0 0] 28)).cell? ⟨w.heap.size, 5, none⟩ = some (.int .i64 ry) := HC1.out.c 5 rfl
  have x6 : (((w.alloc (.cells #[.int .i64 px, .int .i64 py, .int .i64 qx, .int .i64 qy, .int .i64 rx, .int .i64 ry, .int .i64 sx, .int .i64 sy] 25)).alloc (.cells #[.int .i64 (m : Int)] 3)).alloc (.cells #[.slice none 0 0] 28)).cell? ⟨w.heap.size, 6, none⟩ = some (.int .i64 sx) := HC1.out.c 6 rfl
  have x7 : (((w.alloc (.cells #[.int .i64 px, .int .i64 py, .int .i64 qx, .int .i64 qy, .int .i64 rx, .int .i64 ry, .int .i64 sx, .int .i64 sy] 25)).alloc (.cells #[.int .i64 (m : Int)] 3)).alloc (.cells #[.slice none 0 0] 28)).cell? ⟨w.heap.size, 7, none⟩ = some (.int .i64 sy) := HC1.out.c 7 rfl
  gi_wp2_with fail
  refine ⟨trivial, (PC.out _).mono ?_⟩
  clear x0 x1 x2 x3 x4 x5 x6 x7
  generalize (((w.alloc (.cells #[.int .i64 px, .int .i64 py, .int .i64 qx, .int .i64 qy, .int .i64 rx, .int .i64 ry, .int .i64 sx, .int .i64 sy] 25)).alloc (.cells #[.int .i64 (m : Int)] 3)).alloc (.cells #[.slice none 0 0] 28)) = W1 at *
  rintro o W0 ⟨gf, lb, a, b, rfl, eg, b2, ha, hb, hca, hfe⟩
  have HM2 := Lib.hid (HM1.out.next b2); have HO2 := Lib.hid (HO1.out.next b2); have HB2 := Lib.hid (HB1.out.trans (b2.mono HB1.out.size))
  have hlt : w.heap.size + 1 + 1 < W0.heap.size := HO2.out.lt
  have hfe5 := FeedsO.wideAny (n := 5) hfe
  have hrun := nil_neq gf lb W0
  have s1 := HO1.out.lt
  have hda := Nat.le_trans s1 ha
  clear hfe PC HC1 HM1 HO1 HB1 b2
  have AB := Lib.hid (show AbideT T12 W0.heap.size (fun (pre : List Crv) X => (((∃ v, CBox (w.heap.size + 1 + 1) 28 #[v] X ∧ crvL.own W0.heap.size v (pre.take m) X) ∧ CBox (w.heap.size + 1) 3 #[.int .i64 (m : Int)] X) ∧ Below w.heap.size w X ∧ W0.heap.size ≤ X.heap.size)) from ((abideO_rowbox (by unfold T12; decide) hlt (List.take m)).and (abideO_box (by omega)) |>.and (abideO_below (by omega))).abide)
  gi_wp2
  refine wpIn_feedsO (T := T12) (ca := a) (cb := b) (enc := encC) (RES := RES) rfl (by decide) (gf := gf) (lb := lb) rfl trivial eg
    hfe5 (Mid.refl _ _ _) hb (fun _ => rfl) (fun pre X => (((∃ v, CBox (w.heap.size + 1 + 1) 28 #[v] X ∧ crvL.own W0.heap.size v (pre.take m) X) ∧ CBox (w.heap.size + 1) 3 #[.int .i64 (m : Int)] X) ∧ Below w.heap.size w X ∧ W0.heap.size ≤ X.heap.size))
    (fun c pre X => (c = .exit 0 ∧ m ≤ (pre.take m).length) ∧ (((∃ v, CBox (w.heap.size + 1 + 1) 28 #[v] X ∧ crvL.own W0.heap.size v (pre.take m) X) ∧ CBox (w.heap.size + 1) 3 #[.int .i64 (m : Int)] X) ∧ Below w.heap.size w X ∧ W0.heap.size ≤ X.heap.size))
    ((abideO_rowbox (by unfold T12; decide) hlt (List.take m)).and (abideO_box (by omega)) |>.and (abideO_below (by omega))) ?aix ⟨⟨⟨_, HO2.out, by rw [List.take_nil]; exact Lay8.own_nil _ _⟩, HM2.out⟩, HB2.out, Nat.le_refl _⟩
    (fun x a' X => ∃ Bx, CBox Bx 25 x.arr X ∧ a' = { tmps := #[.agg #[.int .i64 px, .int .i64 py, .int .i64 qx, .int .i64 qy, .int .i64 rx, .int .i64 ry, .int .i64 sx, .int .i64 sy], .int .i64 (m : Int), .pointer (some ⟨w.heap.size, 0, none⟩), .pointer (some ⟨w.heap.size + 1, 0, none⟩), .slice none 0 0, .pointer (some ⟨w.heap.size + 1 + 1, 0, none⟩), .func (.func gf) #[] lb, .pointer (some ⟨Bx, 0, none⟩), .agg #[.int .i64 px, .int .i64 py, .int .i64 qx, .int .i64 qy, .int .i64 rx, .int .i64 ry, .int .i64 sx, .int .i64 sy], .func (.func gf) #[] lb, .func (.func gf) #[] lb, .bool true, .func (.func gf) #[] lb, x.val, undef, undef, undef, undef, undef, undef, undef, undef, undef], defers := [] }) ?own ?assign ?body ?done ?stop
  case aix => exact fun c => (abideO_pre (fun pre => c = .exit 0 ∧ m ≤ (pre.take m).length)).and ((abideO_rowbox (by unfold T12; decide) hlt (List.take m)).and (abideO_box (by omega)) |>.and (abideO_below (by omega)))
  case own =>
    rintro x a' _ X X' row ⟨Bx, h1, h3⟩ hg hr
    exact ⟨Bx, h1.free hg (fun r e => (hr r e).2), h3⟩
  case assign =>
    rintro l' pre x X K hj hws hpx hK
    have z2 := (Below.refl X.heap.size X).alloc (Nat.le_refl _) (.cells x.arr 25)
    have hj' := AB.out.new _ _ _ hj z2
    have HJ3 := Lib.hid hj'
    have HZ1 := Lib.hid (CBox.new X 25 x.arr); have HZ2 := Lib.hid z2; have HK := Lib.hid hK
    clear z2 hj hK hj'
    unfold encC
    obtain ⟨ax, ay, bx, by1, cx, cy, dx, dy⟩ := x
    unfold Crv.val at *
    unfold Crv.arr at *
    dsimp only at *
    gi_wp2
    exact HK.out _ _ ((KeepsOthers.alloc _ _).from _) (KeepsT.below HZ2.out (by omega)) HJ3.out ⟨_, HZ1.out, rfl⟩
  case body =>
    rintro l' pre x a' X ⟨⟨⟨v, hv, hrow⟩, hmb⟩, hbel, hsz⟩ ⟨Bx, hbx, rfl⟩ hws hpx
    obtain ⟨ra, rc, rfl, hrc⟩ := hrow.shape
    have HV := Lib.hid hv; have HR := Lib.hid hrow; have HMB := Lib.hid hmb; have HBE := Lib.hid hbel; have HBX := Lib.hid hbx
    clear hv hrow hmb hbel hbx
    have o0 : X.cell? ⟨w.heap.size + 1 + 1, 0, none⟩ = some (.slice ra (pre.take m).length rc) := HV.out.c 0 rfl
    have m0 : X.cell? ⟨w.heap.size + 1, 0, none⟩ = some (.int .i64 (m : Int)) := HMB.out.c 0 rfl
    have htk : (pre.take m).length ≤ m := by rw [List.length_take]; omega
    by_cases hlen : m ≤ (pre.take m).length
    · have e1 : (pre ++ [x]).take m = pre.take m := by
        rw [List.length_take] at hlen
        rw [List.take_append_of_le_length (by omega)]
      have E1 := Lib.hid e1
      have HL := Lib.hid hlen
      have d1 : decide ((m : Int) ≤ ((pre.take m).length : Int)) = true := decide_eq_true (by omega)
      clear e1
      generalize pre.take m = cs at *
      gi_wp2_with fail
      exact ⟨KeepsFrom.refl _ _, ⟨rfl, by rw [E1.out]; exact HL.out⟩, ⟨⟨_, HV.out, by rw [E1.out]; exact HR.out⟩, HMB.out⟩, HBE.out, hsz⟩
    · have e1 : (pre ++ [x]).take m = pre.take m ++ [x] := by
        rw [List.length_take] at hlen
        rw [List.take_of_length_le (by simp; omega), List.take_of_length_le (by omega)]
      have E1 := Lib.hid e1
      have d1 : decide ((m : Int) ≤ ((pre.take m).length : Int)) = false := decide_eq_false (by omega)
      clear e1
      generalize pre.take m = cs at *
      have hno := HV.out.z 0
      obtain ⟨ax, ay, bx, by1, cx, cy, dx, dy⟩ := x
      unfold Crv.val
      unfold Crv.arr at HBX
      dsimp only at HBX
      have b0 : X.cell? ⟨Bx, 0, none⟩ = some (.int .i64 ax) := HBX.out.c 0 rfl
      have b1 : X.cell? ⟨Bx, 1, none⟩ = some (.int .i64 ay) := HBX.out.c 1 rfl
      have b2 : X.cell? ⟨Bx, 2, none⟩ = some (.int .i64 bx) := HBX.out.c 2 rfl
      have b3 : X.cell? ⟨Bx, 3, none⟩ = some (.int .i64 by1) := HBX.out.c 3 rfl
      have b4 : X.cell? ⟨Bx, 4, none⟩ = some (.int .i64 cx) := HBX.out.c 4 rfl
      have b5 : X.cell? ⟨Bx, 5, none⟩ = some (.int .i64 cy) := HBX.out.c 5 rfl
      have b6 : X.cell? ⟨Bx, 6, none⟩ = some (.int .i64 dx) := HBX.out.c 6 rfl
      have b7 : X.cell? ⟨Bx, 7, none⟩ = some (.int .i64 dy) := HBX.out.c 7 rfl
      have hXw : W0.heap.size ≤ X.heap.size := hsz
      have hno2 := HR.out.not_box HV.out (by decide)
      gi_wp2_with (gi_at_builtin; refine crv_one_in _ rfl (.tmp 18) (.tmp 20) rfl rfl ⟨ax, ay, bx, by1, cx, cy, dx, dy⟩ HR.out rfl rfl (by omega) hXw ?_; intro v' w1 hown' hg1; obtain ⟨a3, c3, rfl⟩ := hown'.shape1; have HV1 := HV.out.grown hg1 hno2; have c1 : w1.cell? ⟨w.heap.size + 1 + 1, 0, none⟩ = some (.slice ra cs.length rc) := HV1.c 0 rfl; have f1 := HV1.z 0; have STP := Lib.hid (rowbox_step (T := T12) (a := a) (b := b) (D := W0.heap.size) HV.out HR.out hown' hg1 (by decide) (by unfold T12; decide) hlt (Nat.le_refl _) hb (.inl (by omega)) hsz); clear HV1 hown' hg1)
      obtain ⟨q1, q2, q3, q4, q5, q6, q7⟩ := STP.out
      exact ⟨q1.from _, q2, ⟨⟨_, q3, by rw [E1.out]; exact q4⟩, q6 _ _ _ HMB.out (by omega) (by decide)⟩, q7 _ _ HBE.out (by omega) (by omega) (by omega), Nat.le_trans hsz q5⟩
  case done =>
    rintro D X hD ⟨⟨⟨v, hv, hrow⟩, _⟩, hbel, hsz⟩ hK
    have HV := Lib.hid hv; have HR := Lib.hid hrow; have HBE := Lib.hid hbel; have HK := Lib.hid hK
    have o0 : X.cell? ⟨w.heap.size + 1 + 1, 0, none⟩ = some v := HV.out.c 0 rfl
    clear hv hrow hbel hK
    gi_wp2_with fail
    refine ⟨by simp, .inl ⟨_, _, rfl, run_takeDeferred HK.out, ?_⟩⟩
    exact ⟨_, results_tmp (t := 4) (by rfl) _ _ _, _, rfl, (done_row HR.out HK.out HBE.out (by omega)).1, (done_row HR.out HK.out HBE.out (by omega)).2⟩
  case stop =>
    rintro D c pre X hD hpre ⟨⟨rfl, hmx⟩, ⟨⟨v, hv, hrow⟩, _⟩, hbel, hsz⟩ hK
    have e1 : RES.take m = pre.take m := by
      obtain ⟨t, rfl⟩ := hpre
      rw [List.length_take] at hmx
      rw [List.take_append_of_le_length (by omega)]
    have E1 := Lib.hid e1
    have HV := Lib.hid hv; have HR := Lib.hid hrow; have HBE := Lib.hid hbel; have HK := Lib.hid hK
    have o0 : X.cell? ⟨w.heap.size + 1 + 1, 0, none⟩ = some v := HV.out.c 0 rfl
    clear hv hrow hbel hK e1 hmx
    gi_wp2_with fail
    refine ⟨by simp, .inl ⟨_, _, rfl, run_takeDeferred HK.out, ?_⟩⟩
    exact ⟨_, results_tmp (t := 4) (by rfl) _ _ _, _, rfl, by rw [E1.out]; exact (done_row HR.out HK.out HBE.out (by omega)).1, (done_row HR.out HK.out HBE.out (by omega)).2⟩
end Go.Proofs.Ytgkjbmejfcijkaa
