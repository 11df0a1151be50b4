/-
  The document's answer of layer 8: All.
-/
import Derived.Test.YtmchompeciikdaaAffApply
import Derived.Test.YtmchompeciikdaaAffAllP
import Derived.Test.YtmchompeciikdaaAffCell
import Derived.Deep.DeepCutAuto
import Derived.LoopTactic
namespace Go.Proofs.Ytmchompeciikdaa
open Go.RowKit Go.Shelf

def RAInv (m : Mtx) (l : List Pt) (B : Nat) (w : World) (o i : Value) (wr : World) : Prop :=
  ∃ k : Nat, k ≤ l.length ∧ i = .int .i64 (k : Int) ∧ Pts B o ((l.take k).map (imgP m)) wr ∧ Below B w wr ∧ Hid (∀ p ∈ l.take k, okP m p)
theorem map_next (m : Mtx) (l : List Pt) (k : Nat) (h : k < l.length) : (l.take (k + 1)).map (imgP m) = (l.take k).map (imgP m) ++ [imgP m (l.getD k (0, 0))] := by
  have eg : l.getD k (0, 0) = l[k] := by simp [List.getD, List.getElem?_eq_getElem h]
  rw [eg, List.take_succ_eq_append_getElem h, List.map_append]; rfl
set_option maxHeartbeats 4000000 in
set_option maxRecDepth 100000 in
theorem rall8 (m : Mtx) (a : Option Addr) (l : List Pt) (cap : Nat) (w : World) (rd : RdP a l w) (hn : l.length ≤ 1000) :
    Calls Try.prog 16 #[m.val, .slice a l.length cap] w (AllP m l w) := by
  have RR := Lib.hid (fun w => rright8 m w)
  have RA := Lib.hid (fun x y w => rapply8 m x y w)
  have hm := MBox.new w m
  have al := (Below.refl w.heap.size w).alloc (Nat.le_refl _) (.cells m.cells 23)
  have rd1 := rd.next al
  clear rd
  obtain ⟨PP, hPP⟩ : ∃ PP, AllP m l w = PP := ⟨_, rfl⟩
  rw [hPP]
  have HPP := Lib.hid hPP
  clear hPP
  obtain ⟨n, en⟩ : ∃ n, n = l.length := ⟨_, rfl⟩
  rw [← en] at hn ⊢
  have EN := Lib.hid en
  clear en
  have hn' : (n : Int) ≤ 1000 := by omega
  by_cases hr : m.right
  case neg =>
    have hA := Lib.hid (all_wrong hr l)
    rw [decide_eq_false hr] at RR
    clear RA hr
    obtain ⟨ma, mb, mc, md, me, mf⟩ := m
    unfold Mtx.val at RR
    simp only [Mtx.cells] at RR hm al rd1
    show Calls _ _ #[.agg #[.int .i64 ma, .int .i64 mb, .int .i64 mc, .int .i64 md, .int .i64 me, .int .i64 mf], _] w _
    go_enter Try.func16, Try.ntmps16
    go_wp2_with fail
    refine (RR.out _).mono ?_
    rintro e w2 ⟨rfl, b2⟩
    go_wp2_with fail
    show PP (.returned (.tuple #[_, _])) _
    rw [← HPP.out]
    exact allp_mk hA.out (Pts.nil _ _) (al.trans (b2.mono al.size))
  rw [decide_eq_true hr] at RR
  have HRi := Lib.hid hr
  clear hr
  obtain ⟨mv, emv⟩ : ∃ mv, mv = m.val := ⟨_, rfl⟩
  rw [← emv] at RA
  obtain ⟨M, eM⟩ : ∃ M, M = m := ⟨_, rfl⟩
  rw [← eM] at RA HPP HRi
  clear eM
  obtain ⟨ma, mb, mc, md, me, mf⟩ := m
  unfold Mtx.val at RR emv
  simp only [Mtx.cells] at RR emv hm al rd1
  subst emv
  have HM1 := Lib.hid hm
  have HB1 := Lib.hid al
  have HR1 := Lib.hid rd1
  clear hm al rd1
  show Calls _ _ #[.agg #[.int .i64 ma, .int .i64 mb, .int .i64 mc, .int .i64 md, .int .i64 me, .int .i64 mf], _] w _
  go_enter Try.func16, Try.ntmps16
  go_wp2_with fail
  generalize w.alloc (.cells #[.int .i64 ma, .int .i64 mb, .int .i64 mc, .int .i64 md, .int .i64 me, .int .i64 mf] 23) = w1 at *
  refine (RR.out _).mono ?_
  rintro e w2 ⟨rfl, b2⟩
  have HB2 := Lib.hid (HB1.out.trans (b2.mono HB1.out.size))
  have HM2 := Lib.hid (HM1.out.next b2)
  have HR2 := Lib.hid (HR1.out.next b2)
  have l2 := HB2.out.size
  clear b2 HM1 HB1 HR1 RR
  go_wp2_with fail
  go_loopw [6, 7] (fun o i wr => RAInv M l w2.heap.size w2 o i wr) (fun _ i _ => n - (intOf i).toNat)
  case atStart => exact ⟨0, Nat.zero_le _, rfl, by simp only [List.take_zero, List.map_nil]; exact Pts.nil _ _, Below.refl _ _, Lib.hid (by simp)⟩
  case round =>
    obtain ⟨k, hk, rfl, hv, hb, hok⟩ := hrel
    have HV := Lib.hid hv
    have HB := Lib.hid hb
    rw [← EN.out] at hk
    clear hv hb
    by_cases hlt : k < n
    · have hk' : (k : Int) < n := by omega
      have hk0 : (0 : Int) ≤ k := by omega
      have HMr := Lib.hid (HM2.out.next HB.out)
      obtain ⟨b, off, ea, hlb, hcc⟩ := (HR2.out.next HB.out).pos (by rw [← EN.out]; omega)
      have HC := Lib.hid (hcc k (by rw [← EN.out]; exact hlt))
      clear hcc
      have ST := Lib.hid (fun h => all_stop HRi.out (l := l) (k := k) (by rw [← EN.out]; exact hlt) hok.out h)
      have TK := Lib.hid (fun h => take_ok (l := l) (k := k) (by rw [← EN.out]; exact hlt) hok.out h)
      have MX := Lib.hid (map_next M l k (by rw [← EN.out]; exact hlt))
      have hlen : ((l.take k).map (imgP M)).length ≤ 1000000000 := by simp; omega
      generalize l.getD k (0, 0) = g at *
      have R := Lib.hid (RA.out g.1 g.2)
      have OKd : Hid (okP M g ↔ (applyS M g.1 g.2).2 = 0) := Lib.hid Iff.rfl
      have IM : Hid (imgP M g = (applyS M g.1 g.2).1) := Lib.hid rfl
      have ER : Hid (errP M g = (applyS M g.1 g.2).2) := Lib.hid rfl
      unfold PE at R
      generalize applyS M g.1 g.2 = S at *
      obtain ⟨⟨X, Y⟩, z⟩ := S
      obtain ⟨x, y⟩ := g
      subst ea
      dsimp only at R OKd IM ER
      have HMw := Lib.hid HMr.out
      have p0 : wr.cell? ⟨b, off + k * 2, none⟩ = some (.int .i64 x) := HC.out.c0
      have p1 : wr.cell? ⟨b, off + k * 2 + 1, none⟩ = some (.int .i64 y) := HC.out.c1
      have m0 := HMr.out.c0; have m1 := HMr.out.c1; have m2 := HMr.out.c2; have m3 := HMr.out.c3; have m4 := HMr.out.c4; have m5 := HMr.out.c5
      dsimp only at m0 m1 m2 m3 m4 m5
      have lm := HMr.out.lt
      go_upto_region 7 with fail
      go_cut [8, 9] (fun s8 s9 wc => s9 = .int .i64 z ∧ ∃ q : Nat, s8 = .pointer (some ⟨q, 0, none⟩) ∧ PBox q X Y wc ∧ Below wr.heap.size wr wc)
      case first =>
        go_region_held3 (fun w' => w'.cell? ⟨w.heap.size, 0, none⟩ = some (.int .i64 ma) ∧ w'.cell? ⟨w.heap.size, 1, none⟩ = some (.int .i64 mb) ∧ w'.cell? ⟨w.heap.size, 2, none⟩ = some (.int .i64 mc) ∧ w'.cell? ⟨w.heap.size, 3, none⟩ = some (.int .i64 md) ∧ w'.cell? ⟨w.heap.size, 4, none⟩ = some (.int .i64 me) ∧ w'.cell? ⟨w.heap.size, 5, none⟩ = some (.int .i64 mf) ∧ w'.cell? ⟨b, off + k * 2, none⟩ = some (.int .i64 x) ∧ w'.cell? ⟨b, off + k * 2 + 1, none⟩ = some (.int .i64 y)) (first | (refine ⟨?_, ?_, ?_, ?_, ?_, ?_, ?_, ?_⟩ <;> first | with_reducible assumption | (with_reducible refine cell_alloc ?_; with_reducible assumption) | (with_reducible refine cell_far (cell_far ?_ ?_) ?_ <;> with_reducible assumption)) | (simp [go_sem, *]; done))
          (first
          | (go_at_call 10; (with_reducible refine (R.out _).mono ?_); rintro e w5 ⟨rfl, b5⟩; have HB5 := Lib.hid ((Below.refl wr.heap.size wr).drew.trans b5); have hmm := HMw.out.next HB5.out; have hcc := HC.out.below HB5.out hlb; have y0 : w5.cell? ⟨w.heap.size, 0, none⟩ = some (.int .i64 ma) := hmm.c0; have y1 : w5.cell? ⟨w.heap.size, 1, none⟩ = some (.int .i64 mb) := hmm.c1; have y2 : w5.cell? ⟨w.heap.size, 2, none⟩ = some (.int .i64 mc) := hmm.c2; have y3 : w5.cell? ⟨w.heap.size, 3, none⟩ = some (.int .i64 md) := hmm.c3; have y4 : w5.cell? ⟨w.heap.size, 4, none⟩ = some (.int .i64 me) := hmm.c4; have y5 : w5.cell? ⟨w.heap.size, 5, none⟩ = some (.int .i64 mf) := hmm.c5; have y6 := hcc.c0; have y7 := hcc.c1; have lm5 := hmm.lt; have lb5 : b < w5.heap.size := Nat.lt_of_lt_of_le hlb HB5.out.size; clear hmm hcc b5)
          | (go_at_call 10; (with_reducible refine (R.out _).mono ?_); rintro e w5 ⟨rfl, b5⟩; have HBq := Lib.hid ((Below.refl wr.heap.size wr).alloc (Nat.le_refl _) (.cells #[.int .i64 0, .int .i64 0] 25)).drew; have HQq : Hid (PBox wr.heap.size 0 0 (wr.alloc (.cells #[.int .i64 0, .int .i64 0] 25)).drew) := Lib.hid (PBox.new wr 0 0); have HB5 := Lib.hid (HBq.out.trans (b5.mono HBq.out.size)); have HQ := Lib.hid (HQq.out.next b5); have u0 := HQ.out.c0; have u1 := HQ.out.c1; have r0 := HQ.out.z 0; have r1 := HQ.out.z 1; have lq := HQ.out.lt; have hmm := HMw.out.next HB5.out; have hcc := HC.out.below HB5.out hlb; have y0 : w5.cell? ⟨w.heap.size, 0, none⟩ = some (.int .i64 ma) := hmm.c0; have y1 : w5.cell? ⟨w.heap.size, 1, none⟩ = some (.int .i64 mb) := hmm.c1; have y2 : w5.cell? ⟨w.heap.size, 2, none⟩ = some (.int .i64 mc) := hmm.c2; have y3 : w5.cell? ⟨w.heap.size, 3, none⟩ = some (.int .i64 md) := hmm.c3; have y4 : w5.cell? ⟨w.heap.size, 4, none⟩ = some (.int .i64 me) := hmm.c4; have y5 : w5.cell? ⟨w.heap.size, 5, none⟩ = some (.int .i64 mf) := hmm.c5; have y6 := hcc.c0; have y7 := hcc.c1; have lm5 := hmm.lt; have lb5 : b < w5.heap.size := Nat.lt_of_lt_of_le hlb HB5.out.size; clear hmm hcc b5)
          )
        all_goals
          go_wp2_with fail
          go_meet
          first
          | exact ⟨rfl, _, rfl, PBox.new w5 X Y, HB5.out.alloc HB5.out.size _⟩
          | exact ⟨rfl, _, rfl, HQ.out.set X Y, Below.setCell (Below.setCell HB5.out (by exact Nat.le_refl _) _) (by exact Nat.le_refl _) _⟩
      case rest =>
        obtain ⟨rfl, q, rfl, hq, hbc⟩ := hcut
        have HQ := Lib.hid hq
        have HBc := Lib.hid (HB.out.trans (hbc.mono HB.out.size))
        have HVc := Lib.hid (HV.out.next hbc)
        clear hq hbc p0 p1 m0 m1 m2 m3 m4 m5 lm HMw HMr HC R
        by_cases hz : z = 0
        · subst hz
          have ho := OKd.out.2 rfl
          have TO' := Lib.hid (TK.out ho)
          have im := IM.out
          have mx := MX.out
          rw [im] at mx
          have MX' := Lib.hid mx
          clear ho im mx ST TK OKd IM ER MX
          have q0 := HQ.out.c0
          have q1 := HQ.out.c1
          obtain ⟨oa, ocap, rfl⟩ := HVc.out.shape
          have hBw : w2.heap.size ≤ wc.heap.size := HBc.out.size
          go_wp2_with (first | (at_builtin; refine append_pt _ rfl _ _ rfl rfl X Y HVc.out rfl rfl hlen hBw ?_; intro v' w7 hv7 hg7; obtain ⟨a7, cap7, rfl⟩ := hv7.shape))
          have hb7 := HBc.out.grown hg7 HBc.out.size (fun j hj => (own_type8 HVc.out j hj).2.1)
          go_roundw
          case rel =>
            have e7 : (List.map (imgP M) (List.take k l) ++ [(X, Y)]).length = min k l.length + 1 := by simp
            rw [e7] at hv7
            exact ⟨k + 1, by have := EN.out; omega, by go_num, by rw [MX'.out]; exact hv7, hb7, TO'⟩
          case measure => simp [intOf]; omega
        · have ho : ¬ okP M (x, y) := fun h => hz (OKd.out.1 h)
          have ST' := Lib.hid (ST.out ho)
          have er := ER.out
          rw [er] at ST'
          have z1 : (z == 0) = false := by simpa using hz
          have z2 : (z != 0) = true := by simpa using hz
          clear ho ST TK OKd IM ER MX er hz
          go_wp2_with fail
          show PP (.returned (.tuple #[_, _])) _
          rw [← HPP.out]
          exact allp_mk ST'.out (Pts.nil _ _) (HB2.out.trans (HBc.out.mono l2))
    · obtain rfl : k = n := by omega
      have hall : ∀ p ∈ l, okP M p := by have := hok.out; rwa [EN.out, List.take_length] at this
      have HA := Lib.hid (all_end HRi.out hall)
      have hv := HV.out
      rw [EN.out, List.take_length] at hv
      have HV' := Lib.hid hv
      clear hall hok HV hv
      obtain ⟨oa, ocap, rfl⟩ := HV'.out.shape
      go_wp2_with fail
      show PP (.returned (.tuple #[_, _])) _
      rw [← HPP.out]
      exact allp_mk HA.out (HV'.out.lower l2) (HB2.out.trans (HB.out.mono l2))
end Go.Proofs.Ytmchompeciikdaa
