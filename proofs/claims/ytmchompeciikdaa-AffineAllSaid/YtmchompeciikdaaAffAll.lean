/-
  Package affine: All.
-/
import Derived.Test.YtmchompeciikdaaAffRight
import Derived.Test.YtmchompeciikdaaAffTake
import Derived.Test.YtmchompeciikdaaAffAllM
import Derived.Deep.DeepCutAuto
import Derived.LoopTactic
namespace Go.Proofs.Ytmchompeciikdaa
open Go.RowKit Go.Shelf

/-- A box with a slice of points. -/
def SBox (n : Nat) (v : Value) (w : World) : Prop := w.heap[n]? = some (.cells #[v] 36)
theorem SBox.new (w : World) (v : Value) : SBox w.heap.size v (w.alloc (.cells #[v] 36)) := World.alloc_heap_new w _
theorem SBox.c0 {n : Nat} {v : Value} {w : World} (h : SBox n v w) : w.cell? ⟨n, 0, none⟩ = some v := by unfold SBox at h; simp [World.cell?, h]
theorem SBox.lt {n : Nat} {v : Value} {w : World} (h : SBox n v w) : n < w.heap.size := (Array.getElem?_eq_some_iff.1 h).1
theorem SBox.next {n : Nat} {v : Value} {w w' : World} (h : SBox n v w) (t : Below w.heap.size w w') : SBox n v w' := by
  have := h.lt
  unfold SBox at *; rw [t.block n this]; exact h
theorem takeE_bad {m : Mtx} {p : Pt} (h : ¬ okP m p) : takeE (applyS m p.1 p.2) = .panicked [{ v := .iface 27 (.int .i64 (errP m p)), recovered := false }] := by
  unfold okP at h
  unfold errP
  generalize applyS m p.1 p.2 = r at *
  unfold takeE
  rw [if_neg h]; rfl
theorem takeE_fine {m : Mtx} {p : Pt} (h : okP m p) : takeE (applyS m p.1 p.2) = .returned (.agg #[.int .i64 (imgP m p).1, .int .i64 (imgP m p).2]) := by
  rw [apply_is h]; rfl
/-- What All's work leaves. -/
def AllPost (m : Mtx) (l : List Pt) (B : Nat) (w : World) (e : Ending) (w' : World) : Prop :=
  ((allA m l).2 = 0 → ∃ v, e = .returned v ∧ Pts B v (allA m l).1 w') ∧ ((allA m l).2 ≠ 0 → e = .panicked [{ v := .iface 27 (.int .i64 (allA m l).2), recovered := false }]) ∧ Below B w w'
theorem errP_ne {m : Mtx} {p : Pt} (h : ¬ okP m p) : errP m p ≠ 0 := h
theorem post_bad {m : Mtx} {l : List Pt} {B : Nat} {w w' : World} {z : Int} (h : allA m l = ([], z)) (hz : z ≠ 0) (hb : Below B w w') : AllPost m l B w (.panicked [{ v := .iface 27 (.int .i64 z), recovered := false }]) w' := by
  unfold AllPost; rw [h]
  exact ⟨fun h0 => absurd h0 hz, fun _ => rfl, hb⟩
theorem post_good {m : Mtx} {l L : List Pt} {B : Nat} {w w' : World} {v : Value} (h : allA m l = (L, 0)) (hv : Pts B v L w') (hb : Below B w w') : AllPost m l B w (.returned v) w' := by
  unfold AllPost; rw [h]
  exact ⟨fun _ => ⟨v, rfl, hv⟩, fun h0 => absurd rfl h0, hb⟩
def AllInv (m : Mtx) (l : List Pt) (n B g : Nat) (w : World) (i : Value) (wr : World) : Prop :=
  ∃ k : Nat, k ≤ n ∧ i = .int .i64 (k : Int) ∧ Pts B (.slice (some ⟨g, 0, none⟩) n n) (fillP m l k) wr ∧ Below B w wr ∧ Hid (∀ p ∈ l.take k, okP m p)
set_option maxHeartbeats 4000000 in
set_option maxRecDepth 100000 in
theorem clos_S (p q : Nat) (m : Mtx) (a : Option Addr) (l : List Pt) (cap : Nat) (w : World) (hm : MBox p m w) (hq : SBox q (.slice a l.length cap) w) (rd : RdP a l w) (i : MI64 m) (hl : ∀ g ∈ l, I64 g.1 ∧ I64 g.2) (hn : l.length ≤ 1000) :
    Calls Try.prog 26 #[.pointer (some ⟨p, 0, none⟩), .pointer (some ⟨q, 0, none⟩)] w (AllPost m l w.heap.size w) := by
  have AR := Lib.hid (fun w => aright8 m w i)
  have MN := Lib.hid (fun w => must_no 1 w)
  have MK := Lib.hid (fun w => must_ok 1 w)
  unfold Gives at MN
  have HM0 := Lib.hid hm
  have HQ0 := Lib.hid hq
  have HR0 := Lib.hid rd
  have HL := Lib.hid hl
  have c0 := hm.c0; have c1 := hm.c1; have c2 := hm.c2; have c3 := hm.c3; have c4 := hm.c4; have c5 := hm.c5
  have TK := Lib.hid (fun hr x y hx hy w => take_any m x y w hr hx hy)
  clear hm hq rd hl i
  obtain ⟨PP, hPP⟩ : ∃ PP, AllPost m l w.heap.size w = PP := ⟨_, rfl⟩
  rw [hPP]
  have HPP := Lib.hid hPP
  clear hPP
  by_cases hr : m.right
  case neg =>
    have hA := Lib.hid (all_wrong hr l)
    rw [decide_eq_false hr] at AR
    clear TK hr
    obtain ⟨ma, mb, mc, md, me, mf⟩ := m
    unfold Mtx.val at AR
    simp only [Mtx.cells] at AR
    dsimp only at c0 c1 c2 c3 c4 c5
    go_enter Try.func26, Try.ntmps26
    go_wp2_with fail
    refine (AR.out _).mono ?_
    rintro e w2 ⟨rfl, b2⟩
    go_wp2_with fail
    refine (MN.out _).mono ?_
    rintro e wm ⟨rfl, rfl⟩
    go_wp2_with fail
    exact ⟨rfl, by rw [← HPP.out]; exact post_bad hA.out (by decide) b2⟩
  rw [decide_eq_true hr] at AR
  have TK' := Lib.hid (TK.out hr)
  have HRi := Lib.hid hr
  clear TK MN hr
  have hn' : (l.length : Int) ≤ 1000 := by omega
  obtain ⟨n, en⟩ : ∃ n, n = l.length := ⟨_, rfl⟩
  rw [← en] at HQ0 hn hn'
  have EN := Lib.hid en
  clear en
  obtain ⟨mv, emv⟩ : ∃ mv, mv = m.val := ⟨_, rfl⟩
  rw [← emv] at TK'
  obtain ⟨M, eM⟩ : ∃ M, M = m := ⟨_, rfl⟩
  rw [← eM] at HRi HPP TK'
  clear eM
  obtain ⟨ma, mb, mc, md, me, mf⟩ := m
  unfold Mtx.val at AR emv
  simp only [Mtx.cells] at AR emv
  subst emv
  dsimp only at c0 c1 c2 c3 c4 c5
  go_enter Try.func26, Try.ntmps26
  go_wp2_with fail
  refine (AR.out _).mono ?_
  rintro e w2 ⟨rfl, b2⟩
  have HB2 := Lib.hid b2
  have HM2 := Lib.hid (HM0.out.next b2)
  have HQ2 := Lib.hid (HQ0.out.next b2)
  have HR2 := Lib.hid (HR0.out.next b2)
  clear b2 c0 c1 c2 c3 c4 c5 AR
  go_wp2_with fail
  refine (MK.out _).mono ?_
  rintro e wm ⟨rfl, rfl⟩
  have cq := HQ2.out.c0
  go_wp2_with (at_make; refine make_pts _ rfl _ _ rfl n _ rfl rfl (by omega) (by omega) ?_; intro w3 hown3 hb3 hlt3; have cq3 := (HQ2.out.next hb3).c0)
  have HV3 := Lib.hid hown3
  have HB3 := Lib.hid hb3
  have hs2 := HB2.out.size
  clear hown3 hb3 hlt3 cq cq3 HQ0 HM0 HR0 MK
  go_loopw [14] (fun i wr => AllInv M l n w2.heap.size w2.heap.size w2 i wr) (fun i _ => n - (intOf i).toNat)
  case atStart => exact ⟨0, Nat.zero_le _, rfl, by rw [fillP_zero, ← EN.out]; exact HV3.out, HB3.out, Lib.hid (by simp)⟩
  case round =>
    obtain ⟨k, hk, rfl, hv, hb, hok⟩ := hrel
    have HV := Lib.hid hv
    have HB := Lib.hid hb
    clear hv hb HV3 HB3 HQ2
    by_cases hlt : k < n
    · have hlt' : k < l.length := by rw [← EN.out]; exact hlt
      have hk' : (k : Int) < n := by omega
      have hk0 : (0 : Int) ≤ k := by omega
      obtain ⟨b, off, ea, hlb, hcc⟩ := (HR2.out.next HB.out).pos (by omega)
      have HC := Lib.hid (hcc k hlt')
      clear hcc
      subst ea
      have hgi := HL.out (l.getD k (0, 0)) (by simp [List.getD, List.getElem?_eq_getElem hlt'])
      have T := Lib.hid (TK'.out _ _ hgi.1 hgi.2)
      have ST := Lib.hid (fun h => all_stop HRi.out hlt' hok.out h)
      have TO := Lib.hid (fun h => take_ok hlt' hok.out h)
      have FN := Lib.hid (fillP_next M l k hlt')
      have FL := Lib.hid (fillP_len M l k (by omega))
      clear hgi
      generalize l.getD k (0, 0) = g at *
      have HC0 := HC.out.c0
      have HC1 := HC.out.c1
      have lpb : b < wr.heap.size := hlb
      go_upto_region 6 with fail
      clear HC0 HC1 lpb
      have al := (Below.refl wr.heap.size wr).alloc (Nat.le_refl _) (.cells #[.int .i64 g.1, .int .i64 g.2] 25)
      have HP4 := Lib.hid (PBox.new wr g.1 g.2)
      have HB4 := Lib.hid (HB.out.alloc HB.out.size (.cells #[.int .i64 g.1, .int .i64 g.2] 25))
      have HV4 := Lib.hid (HV.out.next al)
      clear al
      generalize wr.alloc (.cells #[.int .i64 g.1, .int .i64 g.2] 25) = w4 at *
      generalize wr.heap.size = pq at *
      have HM4 := Lib.hid (HM2.out.next HB4.out)
      have m0 := HM4.out.c0; have m1 := HM4.out.c1; have m2 := HM4.out.c2; have m3 := HM4.out.c3; have m4 := HM4.out.c4; have m5 := HM4.out.c5
      dsimp only at m0 m1 m2 m3 m4 m5
      have p0 := HP4.out.c0
      have p1 := HP4.out.c1
      by_cases ho : okP M g
      · rw [takeE_fine ho] at T
        have TO' := Lib.hid (TO.out ho)
        clear ST TO ho
        go_wp2_with (first | (go_at_call 22; refine (T.out _).mono ?_; rintro e w5 ⟨rfl, b5⟩; have HV5 := Lib.hid (HV4.out.next b5); have HB5 := Lib.hid (HB4.out.trans (b5.mono HB4.out.size)); obtain ⟨⟨u0, q0⟩, ⟨u1, q1⟩, f0, f1⟩ := pts_cells HV5.out (FL.out.trans EN.out.symm) k hlt; clear b5 m0 m1 m2 m3 m4 m5 p0 p1))
        have HW := Lib.hid (pts_set HV5.out (FL.out.trans EN.out.symm) k hlt (imgP M g))
        rw [FN.out] at HW
        have HBW := Lib.hid ((HB5.out.setCell (p := ⟨w2.heap.size, k * 2, none⟩) (Nat.le_refl _) (.int .i64 (imgP M g).1)).setCell (p := ⟨w2.heap.size, k * 2 + 1, none⟩) (Nat.le_refl _) (.int .i64 (imgP M g).2))
        go_roundw
        case rel => exact ⟨k + 1, by omega, by go_num, HW.out, HBW.out, TO'⟩
        case measure => simp [intOf]; omega
      · rw [takeE_bad ho] at T
        have ST' := Lib.hid (ST.out ho)
        have hne := Lib.hid (errP_ne ho)
        clear ST TO ho
        go_wp2_with (first | (go_at_call 22; refine (T.out _).mono ?_; rintro e w5 ⟨rfl, b5⟩; have HB5 := Lib.hid (HB4.out.trans (b5.mono HB4.out.size))))
        exact ⟨rfl, by rw [← HPP.out]; exact post_bad ST'.out hne.out (HB2.out.trans (HB5.out.mono hs2))⟩
    · obtain rfl : k = n := by omega
      have hall : ∀ p ∈ l, okP M p := by have := hok.out; rwa [EN.out, List.take_length] at this
      have HA := Lib.hid (all_end HRi.out hall)
      have HV' := Lib.hid HV.out
      rw [show fillP M l k = l.map (imgP M) from by rw [EN.out]; exact fillP_end M l] at HV'
      clear hall hok HV
      go_wp2_with fail
      show PP (.returned (.slice (some ⟨w2.heap.size, 0, none⟩) k k)) wr
      rw [← HPP.out]
      exact post_good HA.out (HV'.out.lower hs2) (HB2.out.trans (HB.out.mono hs2))
end Go.Proofs.Ytmchompeciikdaa
