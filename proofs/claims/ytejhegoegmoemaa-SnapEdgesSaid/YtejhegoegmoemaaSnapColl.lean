/-
  Package snap: All; slices.Collect of what it tells; Edges.
-/
import Derived.Test.YtejhegoegmoemaaSnapAll
import Derived.Test.YtejhegoegmoemaaEdgOne
import Derived.Test.YtejhegoegmoemaaFixed
namespace Go.Proofs.Ytejhegoegmoemaa
open Go.RowKit Go.Shelf
attribute [local go_sem] Oper.semAt_some

set_option maxHeartbeats 1000000 in
set_option maxRecDepth 100000 in
theorem all_any (a : Option Addr) (l : List Edg) (cap : Nat) (w : World) (hl : l.length ≤ 100000000) (hS : ∀ g ∈ l, EdgS g) (hr : RdE a l w) :
    Calls Try.prog 13 #[.slice a l.length cap] w (GivesIt14 (snapL l) w) := by
  have CL := Lib.hid (clone_any a l cap w hl hr)
  have HS := Lib.hid hS
  clear hS hr
  go_enter Try.func13, Try.ntmps13
  go_wp2_with fail
  refine CL.out.mono ?_
  rintro e w1 ⟨v, rfl, ho, hb⟩
  obtain ⟨a', c', rfl, _⟩ := ho.shape
  have bz := (Below.refl w1.heap.size w1).alloc (Nat.le_refl _) (.cells #[.slice a' l.length c'] 28)
  have HX := Lib.hid (CBox.new w1 28 #[.slice a' l.length c'])
  have HO := Lib.hid (ho.next bz)
  have HB := Lib.hid (hb.trans (bz.mono hb.size))
  have hs := hb.size
  have hz : (w1.alloc (.cells #[.slice a' l.length c'] 28)).heap.size = w1.heap.size + 1 := by simp
  clear ho hb bz CL
  go_wp2_with fail
  go_ret
  exact ⟨_, _, w.heap.size, w1.heap.size + 1, rfl, enters_of Try.func19 (by kernel_rfl) rfl, HB.out, Nat.le_refl _, Nat.le_of_eq hz.symm, all_feed a' l c' hl HS.out w1.heap.size w.heap.size _ _ _ HX.out HO.out hs (Nat.lt_succ_self _) (Nat.le_refl _) hz.symm⟩
set_option maxHeartbeats 4000000 in
set_option maxRecDepth 100000 in
theorem appendSeq_any {gf : Nat} {lb : Array Value} {a b : Nat} {RES : List Edg} (w : World) (eg : ∀ args W, (callFunc gf args).run Try.prog W = .ok (.enter gf args) W) (hb : b ≤ w.heap.size) (hl : RES.length ≤ 100000000) (hfe : FeedsO Try.prog T14 a b encE RES Fence.wide 6 gf lb w) :
    Calls Try.prog 21 #[.slice none 0 0, .func (.func gf) #[] lb] w fun e w' => ∃ v, e = .returned v ∧ edgL.own w.heap.size v RES w' ∧ Below w.heap.size w w' := by
  refine (callsIn_wide (n := 6)).1 ?_
  have HL := Lib.hid hl
  have bz := (Below.refl w.heap.size w).alloc (Nat.le_refl _) (.cells #[.slice none 0 0] 28)
  have HO := Lib.hid (CBox.new w 28 #[.slice none 0 0])
  have HB := Lib.hid bz
  have hfe5 := FeedsO.wideAny (n := 5) hfe
  have hm : Mid a b w (w.alloc (.cells #[.slice none 0 0] 28)) := Mid.of_below (bz.mono hb)
  have hz : (w.alloc (.cells #[.slice none 0 0] 28)).heap.size = w.heap.size + 1 := by simp
  clear bz hfe hl
  refine callsIn_of_wp_marks Try.func21 rfl trivial ?_ rfl
  simp only [Try.ntmps21, List.size_toArray, List.length_cons, List.length_nil, Nat.reduceAdd, Nat.reduceSub, Array.replicate_succ, Array.replicate_zero, List.push_toArray, List.append_toArray, List.nil_append, List.cons_append]
  gi_wp2_with fail
  generalize (w.alloc (.cells #[.slice none 0 0] 28)) = W0 at *
  have hlt : w.heap.size < W0.heap.size := by omega
  have AB : AbideO T14 W0.heap.size (fun (pre : List Edg) X => (∃ v, CBox w.heap.size 28 #[v] X ∧ edgL.own W0.heap.size v pre X) ∧ (Below w.heap.size w X ∧ W0.heap.size ≤ X.heap.size)) := (abideO_rowbox (by unfold T14 edgL; decide) hlt (fun pre => pre)).and (abideO_below (by omega))
  have HAB := Lib.hid AB
  refine wpIn_feedsO (T := T14) (ca := a) (cb := b) (enc := encE) (RES := RES) rfl (by decide) (gf := gf) (lb := lb) rfl trivial eg
    hfe5 hm (by omega) (fun _ => rfl) (fun pre X => (∃ v, CBox w.heap.size 28 #[v] X ∧ edgL.own W0.heap.size v pre X) ∧ (Below w.heap.size w X ∧ W0.heap.size ≤ X.heap.size)) (fun _ _ _ => False)
    AB (fun _ => abideO_pre (fun _ => False)) ⟨⟨_, HO.out, Lay8.own_nil _ _⟩, HB.out, Nat.le_refl _⟩
    (fun x a' X => ∃ Bx, W0.heap.size ≤ Bx ∧ CBox Bx 35 x.arr X ∧ a' = { tmps := #[.slice none 0 0, .func (.func gf) #[] lb, .pointer (some ⟨w.heap.size, 0, none⟩), undef, .slice none 0 0, .pointer (some ⟨Bx, 0, none⟩), .func (.func gf) #[] lb, x.val, undef, undef, undef, undef, undef], defers := [] }) ?own ?assign ?body ?done ?stop
  case own =>
    rintro x a' _ X X' row ⟨Bx, h0, h1, h3⟩ hg hr
    exact ⟨Bx, h0, h1.free hg (fun r e => (hr r e).2), h3⟩
  case assign =>
    rintro l' pre x X K hj hws hpx hK
    have z2 := (Below.refl X.heap.size X).alloc (Nat.le_refl _) (.cells x.arr 35)
    have hj' := HAB.out.abide.new _ _ _ hj z2
    have HJ3 := Lib.hid hj'
    have HZ1 := Lib.hid (CBox.new X 35 x.arr); have HZ2 := Lib.hid z2; have HK := Lib.hid hK
    clear z2 hj hK hj' AB
    unfold encE
    obtain ⟨px, py, qx, qy⟩ := x
    unfold Edg.val Edg.arr at *
    dsimp only at *
    gi_wp2
    exact HK.out _ _ ((KeepsOthers.alloc _ _).from _) (KeepsT.below HZ2.out (by omega)) HJ3.out ⟨_, hws, HZ1.out, rfl⟩
  case stop =>
    rintro D c pre X hD hpre h hK
    exact h.elim
  case done =>
    rintro D X hD ⟨⟨v, hv, hrow⟩, hbel, hsz⟩ hK
    have HV := Lib.hid hv; have HR := Lib.hid hrow; have HBE := Lib.hid hbel; have HK := Lib.hid hK
    have o0 : X.cell? ⟨w.heap.size, 0, none⟩ = some v := HV.out.c 0 rfl
    clear hv hrow hbel hK HAB AB
    gi_wp2_with fail
    refine ⟨by simp, .inl ⟨_, _, rfl, run_takeDeferred HK.out, ?_⟩⟩
    exact ⟨_, results_tmp (t := 4) (by rfl) _ _ _, _, rfl, (done_row HR.out HK.out HBE.out (by omega)).1, (done_row HR.out HK.out HBE.out (by omega)).2⟩
  case body =>
    rintro l' pre x a' X ⟨⟨v, hv, hrow⟩, ⟨hbe, hsz⟩⟩ ⟨Bx, hBx, hbx, rfl⟩ hws hpx
    have hpl : pre.length ≤ 100000000 := by have := hpx.length_le; have := HL.out; simp only [List.length_append, List.length_cons, List.length_nil] at *; omega
    obtain ⟨ra, rc, rfl, hrc⟩ := hrow.shape
    have HV := Lib.hid hv; have HR := Lib.hid hrow; have HB0 := Lib.hid hbe; have HBX := Lib.hid hbx
    have hno2 := HR.out.not_box HV.out (by decide)
    have hXw : W0.heap.size ≤ X.heap.size := hsz
    clear hv hrow hbe hbx hpx HAB AB
    obtain ⟨px, py, qx, qy⟩ := x
    unfold Edg.val
    unfold Edg.arr at *
    dsimp only at *
    have o0 : X.cell? ⟨w.heap.size, 0, none⟩ = some (.slice ra pre.length rc) := HV.out.c 0 rfl
    have b0 : X.cell? ⟨Bx, 0, none⟩ = some (.int .i64 px) := HBX.out.c 0 rfl; have b1 : X.cell? ⟨Bx, 1, none⟩ = some (.int .i64 py) := HBX.out.c 1 rfl
    have b2 : X.cell? ⟨Bx, 2, none⟩ = some (.int .i64 qx) := HBX.out.c 2 rfl; have b3 : X.cell? ⟨Bx, 3, none⟩ = some (.int .i64 qy) := HBX.out.c 3 rfl
    have f0 := HV.out.z 0
    gi_wp2_with (gi_at_builtin; refine edg_one_in _ rfl (.tmp 8) (.tmp 10) rfl rfl ⟨px, py, qx, qy⟩ HR.out rfl rfl hpl hXw ?_; intro v' w1 hown' hg1; obtain ⟨a3, c3, rfl⟩ := hown'.shape1; have HV1 := HV.out.grown hg1 hno2; have c1 : w1.cell? ⟨w.heap.size, 0, none⟩ = some (.slice ra pre.length rc) := HV1.c 0 rfl; have f1 := HV1.z 0; have STP := Lib.hid (rowbox_step (T := T14) (a := a) (b := b) (D := W0.heap.size) HV.out HR.out hown' hg1 (by decide) (by unfold T14 edgL; decide) (by omega) (Nat.le_refl _) (by omega) (.inr hb) hsz); clear HV1 hown' hg1)
    obtain ⟨q1, q2, q3, q4, q5, q6, q7⟩ := STP.out
    exact ⟨q1.from _, q2, ⟨_, q3, q4⟩, q7 _ _ HB0.out (Nat.le_refl _) (by omega) (by omega), Nat.le_trans hsz q5⟩
set_option maxRecDepth 100000 in
theorem collect_any {gf : Nat} {lb : Array Value} {a b : Nat} {RES : List Edg} (w : World) (eg : ∀ args W, (callFunc gf args).run Try.prog W = .ok (.enter gf args) W) (hb : b ≤ w.heap.size) (hl : RES.length ≤ 100000000) (hfe : FeedsO Try.prog T14 a b encE RES Fence.wide 6 gf lb w) :
    Calls Try.prog 20 #[.func (.func gf) #[] lb] w fun e w' => ∃ v, e = .returned v ∧ edgL.own w.heap.size v RES w' ∧ Below w.heap.size w w' := by
  have AP := Lib.hid (appendSeq_any w eg hb hl hfe)
  clear eg hb hl hfe
  go_enter Try.func20, Try.ntmps20
  go_wp2_with fail
  refine AP.out.mono ?_
  rintro e w1 ⟨v, rfl, ho, hb⟩
  have HO := Lib.hid ho; have HB := Lib.hid hb
  clear ho hb
  go_wp2_with fail
  go_ret
  exact ⟨_, rfl, HO.out, HB.out⟩
set_option maxRecDepth 100000 in
theorem snap_edges (a : Option Addr) (l : List Edg) (cap : Nat) (w : World) (hl : l.length ≤ 100000000) (hS : ∀ g ∈ l, EdgS g) (hr : RdE a l w) :
    Calls Try.prog 15 #[.slice a l.length cap] w fun e w' => ∃ v, e = .returned v ∧ edgL.own w.heap.size v (snapL l) w' ∧ Below w.heap.size w w' := by
  have AA := Lib.hid (all_any a l cap w hl hS hr)
  have hll := Nat.le_trans (snapL_len l) hl
  clear hl hS hr
  go_enter Try.func15, Try.ntmps15
  go_wp2_with fail
  refine AA.out.mono ?_
  rintro e w1 ⟨gf, lb, a, b, rfl, eg, b2, ha, hb, hfe⟩
  have CO := Lib.hid (collect_any w1 eg hb hll hfe)
  have HB1 := Lib.hid b2
  clear hll eg b2 ha hb hfe AA
  go_wp2_with fail
  refine CO.out.mono ?_
  rintro e w2 ⟨v, rfl, ho, hb⟩
  have HO := Lib.hid (ho.low HB1.out.size); have HB := Lib.hid (HB1.out.trans (hb.mono HB1.out.size))
  clear ho hb
  go_wp2_with fail
  go_ret
  exact ⟨_, rfl, HO.out, HB.out⟩
end Go.Proofs.Ytejhegoegmoemaa
