/- Joined: AffAll, AffCatch, AffCatchS, AffBeginS, AffAllA, AffCell, CrvRet, OutPen, ArcMem, OutLine, FeedO. -/
import Derived.Test.YtbjabclgekkpaaaGreatDoorQOM01
import Derived.Test.YtbjabclgekkpaaaGreatDoorQOM02
import Derived.Test.YtbjabclgekkpaaaGreatDoorQOM06
import Derived.Deep.DeepCutAuto
import Derived.Deep.RegionHeld3
import Derived.LoopTactic
namespace Go.Proofs.YtbjabclgekkpaaaGreatDoor
open Go.RowKit Go.Shelf
/-- A box with a slice of points. -/
def SBox (n : Nat) (v : Value) (w : World) : Prop := w.heap[n]? = some (.cells #[v] 47)
theorem SBox.new (w : World) (v : Value) : SBox w.heap.size v (w.alloc (.cells #[v] 47)) := World.alloc_heap_new w _
theorem SBox.c0 {n : Nat} {v : Value} {w : World} (h : SBox n v w) : w.cell? ⟨n, 0, none⟩ = some v := by unfold SBox at h; simp [World.cell?, h]
theorem SBox.lt {n : Nat} {v : Value} {w : World} (h : SBox n v w) : n < w.heap.size := (Array.getElem?_eq_some_iff.1 h).1
theorem SBox.next {n : Nat} {v : Value} {w w' : World} (h : SBox n v w) (t : Below w.heap.size w w') : SBox n v w' := by
  have := h.lt
  unfold SBox at *; rw [t.block n this]; exact h
theorem takeE_bad {m : Mtx} {p : Pt} (h : ¬ okP m p) : takeE (applyS m p.1 p.2) = .panicked [{ v := .iface 28 (.int .i64 (errP m p)), recovered := false }] := by
  unfold okP at h
  unfold errP
  generalize applyS m p.1 p.2 = r at *
  unfold takeE
  rw [if_neg h]; rfl
theorem takeE_fine {m : Mtx} {p : Pt} (h : okP m p) : takeE (applyS m p.1 p.2) = .returned (.agg #[.int .i64 (imgP m p).1, .int .i64 (imgP m p).2]) := by
  rw [apply_is h]; rfl
/-- What All's work leaves. -/
def AllPost (m : Mtx) (l : List Pt) (B : Nat) (w : World) (e : Ending) (w' : World) : Prop :=
  ((allA m l).2 = 0 → ∃ v, e = .returned v ∧ Pts B v (allA m l).1 w') ∧ ((allA m l).2 ≠ 0 → e = .panicked [{ v := .iface 28 (.int .i64 (allA m l).2), recovered := false }]) ∧ Below B w w'
theorem errP_ne {m : Mtx} {p : Pt} (h : ¬ okP m p) : errP m p ≠ 0 := h
theorem post_bad {m : Mtx} {l : List Pt} {B : Nat} {w w' : World} {z : Int} (h : allA m l = ([], z)) (hz : z ≠ 0) (hb : Below B w w') : AllPost m l B w (.panicked [{ v := .iface 28 (.int .i64 z), recovered := false }]) w' := by
  unfold AllPost; rw [h]
  exact ⟨fun h0 => absurd h0 hz, fun _ => rfl, hb⟩
theorem post_good {m : Mtx} {l L : List Pt} {B : Nat} {w w' : World} {v : Value} (h : allA m l = (L, 0)) (hv : Pts B v L w') (hb : Below B w w') : AllPost m l B w (.returned v) w' := by
  unfold AllPost; rw [h]
  exact ⟨fun _ => ⟨v, rfl, hv⟩, fun h0 => absurd rfl h0, hb⟩
def AllInv (m : Mtx) (l : List Pt) (n B g : Nat) (w : World) (i : Value) (wr : World) : Prop :=
  ∃ k : Nat, k ≤ n ∧ i = .int .i64 (k : Int) ∧ Pts B (.slice (some ⟨g, 0, none⟩) n n) (fillP m l k) wr ∧ Below B w wr ∧ Hid (∀ p ∈ l.take k, okP m p)
set_option maxHeartbeats 4000000 in
set_option maxRecDepth 100000 in
theorem clos_S (p q : Nat) (m : Mtx) (a : Option Addr) (l : List Pt) (cap : Nat) (w : World) (hm : MBox p m w) (hq : SBox q (.slice a l.length cap) w) (rd : RdP a l w) (i : MI64 m) (hl : ∀ g ∈ l, I64 g.1 ∧ I64 g.2) (hn : l.length ≤ 1000) :
    Calls Tryz.prog 140 #[.pointer (some ⟨p, 0, none⟩), .pointer (some ⟨q, 0, none⟩)] w (AllPost m l w.heap.size w) := by
  have AR := Lib.hid (fun w => aright8 m w i)
  have MN := Lib.hid (fun w => must_no 1 w)
  have MK := Lib.hid (fun w => must_ok 1 w)
  unfold Gives at MN
  have HM0 := Lib.hid hm
  have HQ0 := Lib.hid hq
  have HR0 := Lib.hid rd
  have HL := Lib.hid hl
  have c0 := hm.c0; have c1 := hm.c1; have c2 := hm.c2; have c3 := hm.c3; have c4 := hm.c4; have c5 := hm.c5
  have TK := Lib.hid (fun hr x y hx hy w => atake_any m x y w hr hx hy)
  clear hm hq rd hl i
  obtain ⟨PP, hPP⟩ : ∃ PP, AllPost m l w.heap.size w = PP := ⟨_, rfl⟩
  rw [hPP]
  have HPP := Lib.hid hPP
  clear hPP
  by_cases hr : m.right
  case neg =>
    have hA := Lib.hid (all_wrong hr l)
    rw [decide_eq_false hr] at AR
    clear TK hr
    obtain ⟨ma, mb, mc, md, me, mf⟩ := m
    unfold Mtx.val at AR
    simp only [Mtx.cells] at AR
    dsimp only at c0 c1 c2 c3 c4 c5
    go_enter Tryz.func140, Tryz.ntmps140
    go_wp2_with fail
    refine (AR.out _).mono ?_
    rintro e w2 ⟨rfl, b2⟩
    go_wp2_with fail
    refine (MN.out _).mono ?_
    rintro e wm ⟨rfl, rfl⟩
    go_wp2_with fail
    exact ⟨rfl, by rw [← HPP.out]; exact post_bad hA.out (by decide) b2⟩
  rw [decide_eq_true hr] at AR
  have TK' := Lib.hid (TK.out hr)
  have HRi := Lib.hid hr
  clear TK MN hr
  have hn' : (l.length : Int) ≤ 1000 := by omega
  obtain ⟨n, en⟩ : ∃ n, n = l.length := ⟨_, rfl⟩
  rw [← en] at HQ0 hn hn'
  have EN := Lib.hid en
  clear en
  obtain ⟨mv, emv⟩ : ∃ mv, mv = m.val := ⟨_, rfl⟩
  rw [← emv] at TK'
  obtain ⟨M, eM⟩ : ∃ M, M = m := ⟨_, rfl⟩
  rw [← eM] at HRi HPP TK'
  clear eM
  obtain ⟨ma, mb, mc, md, me, mf⟩ := m
  unfold Mtx.val at AR emv
  simp only [Mtx.cells] at AR emv
  subst emv
  dsimp only at c0 c1 c2 c3 c4 c5
  go_enter Tryz.func140, Tryz.ntmps140
  go_wp2_with fail
  refine (AR.out _).mono ?_
  rintro e w2 ⟨rfl, b2⟩
  have HB2 := Lib.hid b2
  have HM2 := Lib.hid (HM0.out.next b2)
  have HQ2 := Lib.hid (HQ0.out.next b2)
  have HR2 := Lib.hid (HR0.out.next b2)
  clear b2 c0 c1 c2 c3 c4 c5 AR
  go_wp2_with fail
  refine (MK.out _).mono ?_
  rintro e wm ⟨rfl, rfl⟩
  have cq := HQ2.out.c0
  go_wp2_with (at_make; refine make_pts _ rfl _ _ rfl n _ rfl rfl (by omega) (by omega) ?_; intro w3 hown3 hb3 hlt3; have cq3 := (HQ2.out.next hb3).c0)
  have HV3 := Lib.hid hown3
  have HB3 := Lib.hid hb3
  have hs2 := HB2.out.size
  clear hown3 hb3 hlt3 cq cq3 HQ0 HM0 HR0 MK
  go_loopw [14] (fun i wr => AllInv M l n w2.heap.size w2.heap.size w2 i wr) (fun i _ => n - (intOf i).toNat)
  case atStart => exact ⟨0, Nat.zero_le _, rfl, by rw [fillP_zero, ← EN.out]; exact HV3.out, HB3.out, Lib.hid (by simp)⟩
  case round =>
    obtain ⟨k, hk, rfl, hv, hb, hok⟩ := hrel
    have HV := Lib.hid hv
    have HB := Lib.hid hb
    clear hv hb HV3 HB3 HQ2
    by_cases hlt : k < n
    · have hlt' : k < l.length := by rw [← EN.out]; exact hlt
      have hk' : (k : Int) < n := by omega
      have hk0 : (0 : Int) ≤ k := by omega
      obtain ⟨b, off, ea, hlb, hcc⟩ := (HR2.out.next HB.out).pos (by omega)
      have HC := Lib.hid (hcc k hlt')
      clear hcc
      subst ea
      have hgi := HL.out (l.getD k (0, 0)) (by simp [List.getD, List.getElem?_eq_getElem hlt'])
      have T := Lib.hid (TK'.out _ _ hgi.1 hgi.2)
      have ST := Lib.hid (fun h => all_stop HRi.out hlt' hok.out h)
      have TO := Lib.hid (fun h => take_ok hlt' hok.out h)
      have FN := Lib.hid (fillP_next M l k hlt')
      have FL := Lib.hid (fillP_len M l k (by omega))
      clear hgi
      generalize l.getD k (0, 0) = g at *
      have HC0 := HC.out.c0
      have HC1 := HC.out.c1
      have lpb : b < wr.heap.size := hlb
      go_upto_region 6 with fail
      clear HC0 HC1 lpb
      have al := (Below.refl wr.heap.size wr).alloc (Nat.le_refl _) (.cells #[.int .i64 g.1, .int .i64 g.2] 40)
      have HP4 := Lib.hid (PBox.new wr g.1 g.2)
      have HB4 := Lib.hid (HB.out.alloc HB.out.size (.cells #[.int .i64 g.1, .int .i64 g.2] 40))
      have HV4 := Lib.hid (HV.out.next al)
      clear al
      generalize wr.alloc (.cells #[.int .i64 g.1, .int .i64 g.2] 40) = w4 at *
      generalize wr.heap.size = pq at *
      have HM4 := Lib.hid (HM2.out.next HB4.out)
      have m0 := HM4.out.c0; have m1 := HM4.out.c1; have m2 := HM4.out.c2; have m3 := HM4.out.c3; have m4 := HM4.out.c4; have m5 := HM4.out.c5
      dsimp only at m0 m1 m2 m3 m4 m5
      have p0 := HP4.out.c0
      have p1 := HP4.out.c1
      by_cases ho : okP M g
      · rw [takeE_fine ho] at T
        have TO' := Lib.hid (TO.out ho)
        clear ST TO ho
        go_wp2_with (first | (go_at_call 142; refine (T.out _).mono ?_; rintro e w5 ⟨rfl, b5⟩; have HV5 := Lib.hid (HV4.out.next b5); have HB5 := Lib.hid (HB4.out.trans (b5.mono HB4.out.size)); obtain ⟨⟨u0, q0⟩, ⟨u1, q1⟩, f0, f1⟩ := pts_cells HV5.out (FL.out.trans EN.out.symm) k hlt; clear b5 m0 m1 m2 m3 m4 m5 p0 p1))
        have HW := Lib.hid (pts_set HV5.out (FL.out.trans EN.out.symm) k hlt (imgP M g))
        rw [FN.out] at HW
        have HBW := Lib.hid ((HB5.out.setCell (p := ⟨w2.heap.size, k * 2, none⟩) (Nat.le_refl _) (.int .i64 (imgP M g).1)).setCell (p := ⟨w2.heap.size, k * 2 + 1, none⟩) (Nat.le_refl _) (.int .i64 (imgP M g).2))
        go_roundw
        case rel => exact ⟨k + 1, by omega, by go_num, HW.out, HBW.out, TO'⟩
        case measure => simp [intOf]; omega
      · rw [takeE_bad ho] at T
        have ST' := Lib.hid (ST.out ho)
        have hne := Lib.hid (errP_ne ho)
        clear ST TO ho
        go_wp2_with (first | (go_at_call 142; refine (T.out _).mono ?_; rintro e w5 ⟨rfl, b5⟩; have HB5 := Lib.hid (HB4.out.trans (b5.mono HB4.out.size))))
        exact ⟨rfl, by rw [← HPP.out]; exact post_bad ST'.out hne.out (HB2.out.trans (HB5.out.mono hs2))⟩
    · obtain rfl : k = n := by omega
      have hall : ∀ p ∈ l, okP M p := by have := hok.out; rwa [EN.out, List.take_length] at this
      have HA := Lib.hid (all_end HRi.out hall)
      have HV' := Lib.hid HV.out
      rw [show fillP M l k = l.map (imgP M) from by rw [EN.out]; exact fillP_end M l] at HV'
      clear hall hok HV
      go_wp2_with fail
      show PP (.returned (.slice (some ⟨w2.heap.size, 0, none⟩) k k)) wr
      rw [← HPP.out]
      exact post_good HA.out (HV'.out.lower hs2) (HB2.out.trans (HB.out.mono hs2))
end Go.Proofs.YtbjabclgekkpaaaGreatDoor
namespace Go.Proofs.YtbjabclgekkpaaaGreatDoor
open Go.RowKit Go.Shelf
/-- A box with an error's number. -/
def EBox (n : Nat) (z : Int) (w : World) : Prop := w.heap[n]? = some (.cells #[.int .i64 z] 28)
theorem EBox.new (w : World) (z : Int) : EBox w.heap.size z (w.alloc (.cells #[.int .i64 z] 28)) := World.alloc_heap_new w _
theorem EBox.c0 {n : Nat} {z : Int} {w : World} (h : EBox n z w) : w.cell? ⟨n, 0, none⟩ = some (.int .i64 z) := by unfold EBox at h; simp [World.cell?, h]
theorem EBox.z {n : Nat} {z : Int} {w : World} (h : EBox n z w) (o : Nat) : w.frozen? ⟨n, o, none⟩ = false := by unfold EBox at h; simp [World.frozen?, h]
theorem EBox.lt {n : Nat} {z : Int} {w : World} (h : EBox n z w) : n < w.heap.size := (Array.getElem?_eq_some_iff.1 h).1
theorem EBox.next {n : Nat} {z : Int} {w w' : World} (h : EBox n z w) (t : Below w.heap.size w w') : EBox n z w' := by
  have := h.lt
  unfold EBox at *; rw [t.block n this]; exact h
theorem EBox.set {n : Nat} {z : Int} {w : World} (h : EBox n z w) (z' : Int) : EBox n z' (w.setCell ⟨n, 0, none⟩ (.int .i64 z')) := by
  unfold EBox at *
  simp only [World.setCell, Array.getElem?_modify, h]
  simp
theorem assert_none (w : World) : Sem.run Tryz.prog (Instr.typeAssert Value.nilIface 20 28 true) w = .ok (.tuple #[.int .i64 0, .bool false]) w := by kernel_rfl
theorem assert_some (z : Int) (w : World) : Sem.run Tryz.prog (Instr.typeAssert (.iface 28 (.int .i64 z)) 20 28 true) w = .ok (.tuple #[.int .i64 z, .bool true]) w := by kernel_rfl
end Go.Proofs.YtbjabclgekkpaaaGreatDoor
namespace Go.Proofs.YtbjabclgekkpaaaGreatDoor
open Go.RowKit Go.Shelf
theorem catch_none_S (q : Addr) (w : World) : CallsD Tryz.prog 172 #[.pointer (some q)] .returning w fun e u' w' => e = .returned (.tuple #[]) ∧ u' = .returning ∧ w' = w := by
  refine callsD_of_wpS Tryz.func172 rfl fun c₀ cs hu => ?_
  apply wpS_seq
  apply wpS_region
  simp [wpOpsS, go_sem, recoverD, hu, Tryz.ntmps172, Exit.thenS, assert_none]
  apply wpS_seq
  apply wpS_region
  simp [wpOpsS, go_sem, Exit.thenS]
  refine wpS_cond (t := false) (by simp [Act.eval, Array.replicate]) ?_
  simp only [Bool.false_eq_true, if_false]
  refine wpS_of_wp (wp_skip ?_)
  cases c₀
  simp_all [bodyPostS, results, Tryz.results172]
theorem catch_some_S (q : Addr) (z0 z : Int) (older : List PanicEntry) (w : World) (hc : w.cell? q = some (.int .i64 z0)) (hz : w.frozen? q = false) :
    CallsD Tryz.prog 172 #[.pointer (some q)] (.panicking ({ v := .iface 28 (.int .i64 z), recovered := false } :: older)) w fun e u' w' =>
      e = .returned (.tuple #[]) ∧ u' = .panicking ({ v := .iface 28 (.int .i64 z), recovered := true } :: older) ∧ w' = w.setCell q (.int .i64 z) := by
  refine callsD_of_wpS Tryz.func172 rfl fun c₀ cs hu => ?_
  apply wpS_seq
  apply wpS_region
  simp [wpOpsS, go_sem, recoverD, hu, Tryz.ntmps172, Exit.thenS, assert_some]
  apply wpS_seq
  apply wpS_region
  simp [wpOpsS, go_sem, Exit.thenS]
  refine wpS_cond (t := true) (by simp [Act.eval, Array.replicate]) ?_
  simp only [if_true]
  apply wpS_region
  simp [wpOpsS, go_sem, hc, hz, bodyPostS, results, Tryz.results172]
end Go.Proofs.YtbjabclgekkpaaaGreatDoor
namespace Go.Proofs.YtbjabclgekkpaaaGreatDoor
open Go.RowKit Go.Shelf
set_option maxHeartbeats 1000000 in
theorem begin_S_ok (p q : Addr) (l : List Pt) (w : World) (HK : ∀ w1, Below w.heap.size w w1 → Calls Tryz.prog 140 #[.pointer (some p), .pointer (some q)] w1 fun e w' => ∃ v, e = .returned v ∧ Pts w1.heap.size v l w' ∧ Below w1.heap.size w1 w') :
    Calls Tryz.prog 139 #[.func (Fn.func 140) #[] #[.pointer (some p), .pointer (some q)]] w fun e w' => ∃ v, e = .returned (.tuple #[v, .int .i64 0]) ∧ Pts w.heap.size v l w' ∧ Below w.heap.size w w' := by
  have HC := Lib.hid HK
  clear HK
  have hmf : ∀ (fn : Fn) (first cap : Array Value) (w : World), (Instr.makeFunc fn first cap).run Tryz.prog w = .ok (.func fn first cap) w := fun _ _ _ _ => rfl
  have hb0 := Below.refl w.heap.size w
  go_enter_defers Tryz.func139, Tryz.ntmps139
  go_wp2_with fail
  have al := (Below.refl w.heap.size w).alloc (Nat.le_refl _) (.cells #[.int .i64 0] 28)
  have hb1 := hb0.alloc hb0.size (.cells #[.int .i64 0] 28)
  have he1 := EBox.new w 0
  clear al hb0
  generalize w.alloc (.cells #[.int .i64 0] 28) = wb at *
  refine (HC.out _ hb1).mono ?_
  rintro e w2 ⟨v, rfl, hv, b2⟩
  have hb2 := hb1.trans (b2.mono hb1.size)
  have he2 := he1.next b2
  have le := he1.lt
  clear b2 HC hb1 he1
  have e0 := he2.c0
  have g0 := he2.z 0
  go_wp2_with fail
  clear e0 g0  hmf
  have he3 := EBox.set he2 0
  have hv3 := hv.set (q := w.heap.size) le 0 (.int .i64 0)
  have hb3 := hb2.setCell (p := ⟨w.heap.size, 0, none⟩) (by simp) (.int .i64 0)
  generalize w2.setCell ⟨w.heap.size, 0, none⟩ (.int .i64 0) = w3 at *
  have e0 := he3.c0
  refine leaves_cons (f := 172) (args := #[.pointer (some ⟨w.heap.size, 0, none⟩)]) (by simp) (by simp [go_sem]) ?_
  refine (catch_none_S ⟨w.heap.size, 0, none⟩ _).mono ?_
  rintro e u' w'' ⟨rfl, rfl, rfl⟩
  exact ⟨.tuple #[v, .int .i64 0], by simp [results, Tryz.results139, go_sem, e0], v, rfl, hv3.lower (by omega), hb3⟩
set_option maxHeartbeats 1000000 in
theorem begin_S_no (p q : Addr) (z : Int) (w : World) (HK : ∀ w1, Below w.heap.size w w1 → Calls Tryz.prog 140 #[.pointer (some p), .pointer (some q)] w1 fun e w' => e = .panicked [{ v := .iface 28 (.int .i64 z), recovered := false }] ∧ Below w1.heap.size w1 w') :
    Calls Tryz.prog 139 #[.func (Fn.func 140) #[] #[.pointer (some p), .pointer (some q)]] w fun e w' => e = .returned (.tuple #[.slice none 0 0, .int .i64 z]) ∧ Below w.heap.size w w' := by
  have HC := Lib.hid HK
  clear HK
  have hmf : ∀ (fn : Fn) (first cap : Array Value) (w : World), (Instr.makeFunc fn first cap).run Tryz.prog w = .ok (.func fn first cap) w := fun _ _ _ _ => rfl
  have hb0 := Below.refl w.heap.size w
  go_enter_defers Tryz.func139, Tryz.ntmps139
  go_wp2_with fail
  have al := (Below.refl w.heap.size w).alloc (Nat.le_refl _) (.cells #[.int .i64 0] 28)
  have hb1 := hb0.alloc hb0.size (.cells #[.int .i64 0] 28)
  have he1 := EBox.new w 0
  clear al hb0
  generalize w.alloc (.cells #[.int .i64 0] 28) = wb at *
  refine (HC.out _ hb1).mono ?_
  rintro e w2 ⟨rfl, b2⟩
  have hb2 := hb1.trans (b2.mono hb1.size)
  have he2 := he1.next b2
  have le := he1.lt
  clear b2 HC hb1 he1
  have e0 := he2.c0
  have g0 := he2.z 0
  go_wp2_with fail
  refine leaves_cons (f := 172) (args := #[.pointer (some ⟨w.heap.size, 0, none⟩)]) (by simp) (by simp [go_sem]) ?_
  refine (catch_some_S ⟨w.heap.size, 0, none⟩ 0 z [] _ e0 g0).mono ?_
  clear e0 g0  hmf
  rintro e u' w'' ⟨rfl, rfl, rfl⟩
  have he3 := he2.set z
  have hb3 := hb2.setCell (p := ⟨w.heap.size, 0, none⟩) (by simp) (.int .i64 z)
  generalize w2.setCell ⟨w.heap.size, 0, none⟩ (.int .i64 z) = w3 at *
  have e0 := he3.c0
  exact ⟨.tuple #[.slice none 0 0, .int .i64 z], by simp [results, Tryz.results139, go_sem, e0], rfl, hb3⟩
end Go.Proofs.YtbjabclgekkpaaaGreatDoor
namespace Go.Proofs.YtbjabclgekkpaaaGreatDoor
open Go.RowKit Go.Shelf
set_option maxHeartbeats 4000000 in
set_option maxRecDepth 100000 in
theorem aall8 (m : Mtx) (a : Option Addr) (l : List Pt) (cap : Nat) (w : World) (rd : RdP a l w) (i : MI64 m) (hl : ∀ g ∈ l, I64 g.1 ∧ I64 g.2) (hn : l.length ≤ 1000) :
    Calls Tryz.prog 102 #[m.val, .slice a l.length cap] w (AllP m l w) := by
  have hmf : ∀ (fn : Fn) (first cap : Array Value) (w : World), (Instr.makeFunc fn first cap).run Tryz.prog w = .ok (.func fn first cap) w := fun _ _ _ _ => rfl
  have b1 := (Below.refl w.heap.size w).alloc (Nat.le_refl _) (.cells m.cells 23)
  have m1 := MBox.new w m
  have r1 := rd.next b1
  generalize hA : w.alloc (.cells m.cells 23) = A at *
  have sA : A.heap.size = w.heap.size + 1 := by rw [← hA]; simp
  have b2 := (Below.refl A.heap.size A).alloc (Nat.le_refl _) (.cells #[.slice a l.length cap] 47)
  have p2 := SBox.new A (.slice a l.length cap)
  rw [sA] at p2
  have m2 := m1.next b2
  have r2 := r1.next b2
  have hb := b1.trans (b2.mono b1.size)
  have BG : Hid (∀ w1 : World, MBox w.heap.size m w1 → SBox (w.heap.size + 1) (.slice a l.length cap) w1 → RdP a l w1 → Calls Tryz.prog 139 #[.func (Fn.func 140) #[] #[.pointer (some ⟨w.heap.size, 0, none⟩), .pointer (some ⟨w.heap.size + 1, 0, none⟩)]] w1 fun e w' => ∃ v, e = .returned (.tuple #[v, .int .i64 (allA m l).2]) ∧ Pts w1.heap.size v (allA m l).1 w' ∧ Below w1.heap.size w1 w') := Lib.hid (by
    intro w1 h1 h2 h3
    have hz := all_zero m l
    have K := fun (w2 : World) (b : Below w1.heap.size w1 w2) => clos_S w.heap.size (w.heap.size + 1) m a l cap w2 (h1.next b) (h2.next b) (h3.next b) i hl hn
    unfold AllPost at K
    generalize allA m l = R at *
    obtain ⟨L, z⟩ := R
    dsimp only at K hz ⊢
    by_cases h0 : z = 0
    · subst h0
      exact begin_S_ok _ _ L w1 (fun w2 b => (K w2 b).mono (fun e w' h => by obtain ⟨v, e1, hv⟩ := h.1 rfl; exact ⟨v, e1, hv, h.2.2⟩))
    · obtain rfl : L = [] := hz h0
      exact (begin_S_no _ _ z w1 (fun w2 b => (K w2 b).mono (fun e w' h => ⟨h.2.1 h0, h.2.2⟩))).mono (fun e w' h => ⟨_, h.1, Pts.nil _ _, h.2⟩))
  obtain ⟨PP, hPP⟩ : ∃ PP, AllP m l w = PP := ⟨_, rfl⟩
  rw [hPP]
  have hPP' : Hid (∀ v e w', e = .returned (.tuple #[v, .int .i64 (allA m l).2]) → Pts w.heap.size v (allA m l).1 w' → Below w.heap.size w w' → PP e w') := Lib.hid (by
    intro v e w' he hv hb; rw [← hPP]; exact ⟨v, he, hv, hb⟩)
  clear hPP
  generalize allA m l = R at *
  obtain ⟨L, z⟩ := R
  obtain ⟨ma, mb, mc, md, me, mf⟩ := m
  subst hA
  clear i hl hn rd b1 m1 r1 sA b2
  simp only [Mtx.cells] at p2 m2 r2 hb
  have HM1 := Lib.hid m2
  have HS1 := Lib.hid p2
  have HR1 := Lib.hid r2
  have HB1 := Lib.hid hb
  clear m2 p2 r2 hb
  dsimp only at BG hPP'
  show Calls _ _ #[.agg #[.int .i64 ma, .int .i64 mb, .int .i64 mc, .int .i64 md, .int .i64 me, .int .i64 mf], _] w _
  go_enter Tryz.func102, Tryz.ntmps102
  go_wp2_with fail
  generalize (w.alloc (.cells #[.int .i64 ma, .int .i64 mb, .int .i64 mc, .int .i64 md, .int .i64 me, .int .i64 mf] 23)).alloc (.cells #[.slice a l.length cap] 47) = w1 at *
  refine (BG.out _ HM1.out HS1.out HR1.out).mono ?_
  rintro e w2 ⟨v, rfl, hv, b2⟩
  have HB2 := Lib.hid (HB1.out.trans (b2.mono HB1.out.size))
  have HV := Lib.hid (hv.lower HB1.out.size)
  clear b2 hv
  go_wp2_with fail
  show PP (.returned (.tuple #[_, _])) _
  exact hPP'.out _ _ _ rfl HV.out HB2.out
end Go.Proofs.YtbjabclgekkpaaaGreatDoor
namespace Go.Proofs.YtbjabclgekkpaaaGreatDoor
open Go.RowKit Go.Shelf
theorem cell_alloc {W : World} {o : Obj} {n i : Nat} {v : Value} (h : W.cell? ⟨n, i, none⟩ = some v) : (W.alloc o).cell? ⟨n, i, none⟩ = some v :=
  (World.cell?_alloc_some W _ o (by rw [h]; rfl)).trans h
theorem cell_alloc_drew {W : World} {o : Obj} {n i : Nat} {v : Value} (h : W.cell? ⟨n, i, none⟩ = some v) : (W.alloc o).drew.cell? ⟨n, i, none⟩ = some v := cell_alloc h
theorem cell_far {W : World} {n q i o : Nat} {v u : Value} (h : W.cell? ⟨n, i, none⟩ = some v) (hn : n < q) : (W.setCell ⟨q, o, none⟩ u).cell? ⟨n, i, none⟩ = some v :=
  (World.cell?_setCell_far W ⟨q, o, none⟩ ⟨n, i, none⟩ u (by exact Nat.ne_of_gt hn)).trans h
end Go.Proofs.YtbjabclgekkpaaaGreatDoor
namespace Go.Proofs.YtbjabclgekkpaaaGreatDoor
open Go.RowKit Go.Shelf
theorem boxes_four (w : World) (a b c d : Array Value) (s t u v : TypeId) : CBox w.heap.size s a ((((w.alloc (.cells a s)).alloc (.cells b t)).alloc (.cells c u)).alloc (.cells d v)) ∧ CBox (w.heap.size + 1) t b ((((w.alloc (.cells a s)).alloc (.cells b t)).alloc (.cells c u)).alloc (.cells d v)) ∧
    CBox (w.heap.size + 1 + 1) u c ((((w.alloc (.cells a s)).alloc (.cells b t)).alloc (.cells c u)).alloc (.cells d v)) ∧ CBox (w.heap.size + 1 + 1 + 1) v d ((((w.alloc (.cells a s)).alloc (.cells b t)).alloc (.cells c u)).alloc (.cells d v)) ∧ Below w.heap.size w ((((w.alloc (.cells a s)).alloc (.cells b t)).alloc (.cells c u)).alloc (.cells d v)) := by
  obtain ⟨p1, p2, p3, b1⟩ := boxes_three w a b c s t u
  generalize hA : ((w.alloc (.cells a s)).alloc (.cells b t)).alloc (.cells c u) = A at *
  have sA : A.heap.size = w.heap.size + 1 + 1 + 1 := by rw [← hA]; simp
  have b2 := (Below.refl A.heap.size A).alloc (Nat.le_refl _) (.cells d v)
  have p4 := CBox.new A v d
  rw [sA] at p4
  exact ⟨p1.next b2, p2.next b2, p3.next b2, p4, b1.trans (b2.mono b1.size)⟩
end Go.Proofs.YtbjabclgekkpaaaGreatDoor
namespace Go.Proofs.YtbjabclgekkpaaaGreatDoor
open Go.RowKit Go.Shelf
set_option linter.unusedSimpArgs false
def penC (m : Mtx) (s : Pen) : Array Value := #[.int .i64 m.a, .int .i64 m.b, .int .i64 m.c, .int .i64 m.d, .int .i64 m.e, .int .i64 m.f, .int .i64 s.x, .int .i64 s.y, .int .i64 s.u, .int .i64 s.v, .bool s.o]
/-- Block q is the pen. -/
def PenB (q : Nat) (m : Mtx) (s : Pen) (w : World) : Prop := CBox q 74 (penC m s) w
/-- What a stroke leaves: its edges and its error; the pen alone has turned. -/
def StrP (q : Nat) (m : Mtx) (s : Pen) (r : List Edg × Int) (w : World) (e : Ending) (w' : World) : Prop :=
  ∃ v, e = .returned (.tuple #[v, .int .i64 r.2]) ∧ Edgs w.heap.size v r.1 w' ∧ PenB q m s w' ∧ But w.heap.size q w w'
theorem rdP_two (w : World) (x y u v : Int) : RdP (some ⟨w.heap.size, 0, none⟩) [(x, y), (u, v)] (w.alloc (.cells #[.int .i64 x, .int .i64 y, .int .i64 u, .int .i64 v] 40)) := by
  refine .inr ⟨w.heap.size, 0, rfl, by simp, fun i hi => ?_⟩
  have k := CBox.new w 40 #[.int .i64 x, .int .i64 y, .int .i64 u, .int .i64 v]
  have h2 : i = 0 ∨ i = 1 := by simp at hi; omega
  rcases h2 with rfl | rfl
  · exact ⟨k.c 0 rfl, k.c 1 rfl⟩
  · exact ⟨k.c 2 rfl, k.c 3 rfl⟩
theorem below_dn13 (w : World) (n : Nat) : Below w.heap.size w (w.drewN n) := ⟨rfl, rfl, rfl, Nat.le_refl _, fun _ _ => rfl⟩
theorem edgs_nil (R : Nat) (w : World) : Edgs R (.slice none 0 0) [] w := Lay8.own_nil R w
/-- A row of two points that a call has left. -/
theorem pts_two {R : Nat} {v : Value} {L : List Pt} {w : World} (h : Pts R v L w) (hl : L.length = 2) : ∃ b cap, v = .slice (some ⟨b, 0, none⟩) 2 cap ∧ b < w.heap.size ∧ (w.cell? ⟨b, 0, none⟩ = some (.int .i64 (L.getD 0 (0, 0)).1) ∧ w.cell? ⟨b, 1, none⟩ = some (.int .i64 (L.getD 0 (0, 0)).2)) ∧ w.cell? ⟨b, 2, none⟩ = some (.int .i64 (L.getD 1 (0, 0)).1) ∧ w.cell? ⟨b, 3, none⟩ = some (.int .i64 (L.getD 1 (0, 0)).2) := by
  obtain ⟨a, cap, rfl, hr, _⟩ := h.reads
  rw [hl]
  have hb : ∃ b, a = some ⟨b, 0, none⟩ := by
    rcases h.2 with ⟨_, h0⟩ | ⟨g, c, cur, hv, _⟩
    · omega
    · cases hv; exact ⟨g, rfl⟩
  obtain ⟨b, rfl⟩ := hb
  obtain ⟨b', off, ha, hlt, hc⟩ := hr.pos (by omega)
  cases ha
  have k0 := hc 0 (by omega)
  have k1 := hc 1 (by omega)
  exact ⟨b, cap, rfl, hlt, ⟨k0.1, k0.2⟩, k1.1, k1.2⟩
set_option maxHeartbeats 4000000 in
set_option maxRecDepth 100000 in
theorem line_any (q : Nat) (m : Mtx) (s : Pen) (tx ty : Int) (w : World) (h : PenB q m s w) (hm : MI64 m) (h1 : I64 s.x) (h2 : I64 s.y) (h3 : I64 tx) (h4 : I64 ty) :
    Calls Tryz.prog 56 #[.pointer (some ⟨q, 0, none⟩), .agg #[.int .i64 tx, .int .i64 ty]] w fun e w' => ∃ v, e = .returned (.tuple #[v, .int .i64 (lineO m (s.x, s.y) (tx, ty)).2]) ∧ Edgs w.heap.size v (lineO m (s.x, s.y) (tx, ty)).1 w' ∧ Below w.heap.size w w' := by
  have AA : Hid (∀ (N : Nat) (W : World), RdP (some ⟨N, 0, none⟩) [(s.x, s.y), (tx, ty)] W → Calls Tryz.prog 102 #[m.val, .slice (some ⟨N, 0, none⟩) 2 2] W (AllP m [(s.x, s.y), (tx, ty)] W)) := Lib.hid (fun N W h => aall8 m (some ⟨N, 0, none⟩) [(s.x, s.y), (tx, ty)] 2 W h hm (by intro g hg; simp at hg; rcases hg with rfl | rfl <;> exact ⟨by assumption, by assumption⟩) (by simp))
  unfold AllP at AA
  obtain ⟨r, hr⟩ : ∃ r, lineO m (s.x, s.y) (tx, ty) = r := ⟨_, rfl⟩
  have hlen : (allA m [(s.x, s.y), (tx, ty)]).2 = 0 → (allA m [(s.x, s.y), (tx, ty)]).1.length = 2 := fun h => by rw [(all_mem h).2.2]; rfl
  rw [hr]
  unfold lineO at hr
  generalize allA m [(s.x, s.y), (tx, ty)] = R at *
  obtain ⟨L, z⟩ := R
  dsimp only at AA hr hlen
  have HR := Lib.hid hr
  have HLen := Lib.hid hlen
  clear hr hlen
  have k0 := CBox.new w 40 #[.int .i64 tx, .int .i64 ty]
  have k1 := (Below.refl w.heap.size w).alloc (Nat.le_refl _) (.cells #[.int .i64 tx, .int .i64 ty] 40)
  have HP0 := Lib.hid (show CBox q 74 (penC m s) (w.alloc (.cells #[.int .i64 tx, .int .i64 ty] 40)) from CBox.next h k1)
  have HT0 := Lib.hid k0; have HB0 := Lib.hid k1
  clear h k0 k1 h1 h2 h3 h4 hm
  obtain ⟨ma, mb, mc, md, me, mf⟩ := m
  obtain ⟨sx, sy, su, sv, so⟩ := s
  unfold Mtx.val Mtx.cells at AA
  unfold penC at HP0
  dsimp only at *
  go_enter Tryz.func56, Tryz.ntmps56
  go_upto_region 1 with fail
  generalize (w.alloc (.cells #[.int .i64 tx, .int .i64 ty] 40)) = w1 at *
  go_cut [6, 7] (fun s6 s7 wc => ∃ a cap, s6 = .slice a L.length cap ∧ s7 = .int .i64 z ∧ Pts w1.heap.size (.slice a L.length cap) L wc ∧ Below w1.heap.size w1 wc)
  case first =>
    have x0 : w1.cell? ⟨q, 0, none⟩ = some (.int .i64 ma) := HP0.out.c 0 rfl
    have x1 : w1.cell? ⟨q, 1, none⟩ = some (.int .i64 mb) := HP0.out.c 1 rfl
    have x2 : w1.cell? ⟨q, 2, none⟩ = some (.int .i64 mc) := HP0.out.c 2 rfl
    have x3 : w1.cell? ⟨q, 3, none⟩ = some (.int .i64 md) := HP0.out.c 3 rfl
    have x4 : w1.cell? ⟨q, 4, none⟩ = some (.int .i64 me) := HP0.out.c 4 rfl
    have x5 : w1.cell? ⟨q, 5, none⟩ = some (.int .i64 mf) := HP0.out.c 5 rfl
    have x6 : w1.cell? ⟨q, 6, none⟩ = some (.int .i64 sx) := HP0.out.c 6 rfl
    have x7 : w1.cell? ⟨q, 7, none⟩ = some (.int .i64 sy) := HP0.out.c 7 rfl
    have y0 : w1.cell? ⟨w.heap.size, 0, none⟩ = some (.int .i64 tx) := HT0.out.c 0 rfl
    have y1 : w1.cell? ⟨w.heap.size, 1, none⟩ = some (.int .i64 ty) := HT0.out.c 1 rfl
    have A1 := Lib.hid (AA.out w1.heap.size ((w1.alloc (.cells #[.int .i64 sx, .int .i64 sy, .int .i64 tx, .int .i64 ty] 40)).drew) ((rdP_two w1 sx sy tx ty).next (Below.refl _ _).drew))
    have HBd := Lib.hid (((Below.refl w1.heap.size w1).alloc (Nat.le_refl _) (.cells #[.int .i64 sx, .int .i64 sy, .int .i64 tx, .int .i64 ty] 40)).drew)
    go_region_held3 (fun w' => w'.cell? ⟨q, 0, none⟩ = some (.int .i64 ma) ∧ w'.cell? ⟨q, 1, none⟩ = some (.int .i64 mb) ∧ w'.cell? ⟨q, 2, none⟩ = some (.int .i64 mc) ∧ w'.cell? ⟨q, 3, none⟩ = some (.int .i64 md) ∧ w'.cell? ⟨q, 4, none⟩ = some (.int .i64 me) ∧ w'.cell? ⟨q, 5, none⟩ = some (.int .i64 mf) ∧ w'.cell? ⟨q, 6, none⟩ = some (.int .i64 sx) ∧ w'.cell? ⟨q, 7, none⟩ = some (.int .i64 sy) ∧ w'.cell? ⟨w.heap.size, 0, none⟩ = some (.int .i64 tx) ∧ w'.cell? ⟨w.heap.size, 1, none⟩ = some (.int .i64 ty)) (first | (refine ⟨?_, ?_, ?_, ?_, ?_, ?_, ?_, ?_, ?_, ?_⟩ <;> first | with_reducible assumption | (with_reducible refine cell_alloc_drew ?_; with_reducible assumption) | (with_reducible refine cell_alloc ?_; with_reducible assumption)) | (simp [go_sem, *]; done))
      (first
      | (go_at_call 102; (with_reducible refine A1.out.mono ?_); rintro e w2 ⟨v, rfl, hv, b2⟩; obtain ⟨a2, c2, rfl⟩ := hv.shape; have hB2 := HBd.out.trans (b2.mono HBd.out.size); have hP2 := HP0.out.next hB2; have hT2 := HT0.out.next hB2; clear x0 x1 x2 x3 x4 x5 x6 x7 y0 y1; have x0 : w2.cell? ⟨q, 0, none⟩ = some (.int .i64 ma) := hP2.c 0 rfl; have x1 : w2.cell? ⟨q, 1, none⟩ = some (.int .i64 mb) := hP2.c 1 rfl; have x2 : w2.cell? ⟨q, 2, none⟩ = some (.int .i64 mc) := hP2.c 2 rfl; have x3 : w2.cell? ⟨q, 3, none⟩ = some (.int .i64 md) := hP2.c 3 rfl; have x4 : w2.cell? ⟨q, 4, none⟩ = some (.int .i64 me) := hP2.c 4 rfl; have x5 : w2.cell? ⟨q, 5, none⟩ = some (.int .i64 mf) := hP2.c 5 rfl; have x6 : w2.cell? ⟨q, 6, none⟩ = some (.int .i64 sx) := hP2.c 6 rfl; have x7 : w2.cell? ⟨q, 7, none⟩ = some (.int .i64 sy) := hP2.c 7 rfl; have y0 : w2.cell? ⟨w.heap.size, 0, none⟩ = some (.int .i64 tx) := hT2.c 0 rfl; have y1 : w2.cell? ⟨w.heap.size, 1, none⟩ = some (.int .i64 ty) := hT2.c 1 rfl; have HB2 := Lib.hid hB2; have HV2 := Lib.hid (hv.lower (show w1.heap.size ≤ _ by simp)); clear hB2 hP2 hT2 hv b2)
      )
    all_goals
      go_wp2_with fail
      go_meet
      exact ⟨_, _, rfl, rfl, HV2.out, HB2.out⟩
  case rest =>
    obtain ⟨a, cap, rfl, rfl, hv, hb⟩ := hcut
    have HB2 := Lib.hid (HB0.out.trans (hb.mono HB0.out.size))
    have HV2 := Lib.hid (hv.lower HB0.out.size)
    clear HP0 HT0 HB0 hv hb AA
    by_cases hz : z = 0
    · subst hz
      have hl := HLen.out rfl
      obtain ⟨b, cap2, hv2, hlt, ⟨c0, c1⟩, c2, c3⟩ := pts_two HV2.out hl
      injection hv2 with e1 e2 e3
      subst e1 e3
      have hr := HR.out
      rw [if_pos rfl] at hr
      rw [hl]
      generalize L.getD 0 (0, 0) = P0 at *
      generalize L.getD 1 (0, 0) = P1 at *
      obtain ⟨ax, ay⟩ := P0
      obtain ⟨bx, by0⟩ := P1
      dsimp only at *
      have HR1 := Lib.hid hr
      clear hr HR HLen HV2 hl e2
      have i0 : (0 : Int) < 2 := by decide
      have i1 : (1 : Int) < 2 := by decide
      by_cases ex : ax = bx ∧ ay = by0
      · obtain ⟨rfl, rfl⟩ := ex
        go_wp2_with fail
        go_quiet (fail)
        go_wp2_with fail
        have hr : r = ([], 0) := by rw [← HR1.out]; simp
        subst hr
        refine bodyPost_ret (results_tmp2 (t := 4) (u := 5) rfl _ _ _) rfl ?_
        exact ⟨_, rfl, edgs_nil _ _, HB2.out.trans ((below_dn13 _ _).mono HB2.out.size)⟩
      · have hr : r = ([edgO (ax, ay) (bx, by0)], 0) := by rw [← HR1.out, if_neg (fun h => ex ⟨congrArg Prod.fst h, congrArg Prod.snd h⟩)]
        subst hr
        clear HR1
        have EX := Lib.hid ex
        clear ex
        by_cases e0 : ax = bx
        · subst e0
          have d1 : (ay == by0) = false := beq_eq_false_iff_ne.2 (fun h => EX.out ⟨rfl, h⟩)
          go_wp2_with fail
          go_quiet (fail)
          have b3 := below_dn13 wc nq
          have cc0 : (wc.drewN nq).cell? ⟨b, 0, none⟩ = some (.int .i64 ax) := c0
          have cc1 : (wc.drewN nq).cell? ⟨b, 1, none⟩ = some (.int .i64 ay) := c1
          have cc2 : (wc.drewN nq).cell? ⟨b, 2, none⟩ = some (.int .i64 ax) := c2
          have cc3 : (wc.drewN nq).cell? ⟨b, 3, none⟩ = some (.int .i64 by0) := c3
          have hlt3 : b < (wc.drewN nq).heap.size := hlt
          clear c0 c1 c2 c3 hlt
          generalize wc.drewN nq = w3 at *
          have HB3 := Lib.hid (HB2.out.trans (b3.mono HB2.out.size))
          clear b3 HB2
          go_wp2_with fail
          go_region_held3 (fun w' => w'.cell? ⟨b, 0, none⟩ = some (.int .i64 ax) ∧ w'.cell? ⟨b, 1, none⟩ = some (.int .i64 ay) ∧ w'.cell? ⟨b, 2, none⟩ = some (.int .i64 ax) ∧ w'.cell? ⟨b, 3, none⟩ = some (.int .i64 by0)) (first | (refine ⟨?_, ?_, ?_, ?_⟩ <;> first | with_reducible assumption | (with_reducible refine cell_alloc_drew ?_; with_reducible assumption) | (with_reducible refine cell_alloc ?_; with_reducible assumption)) | (simp [go_sem, *]; done)) (fail)
          go_wp2_with fail
          refine bodyPost_ret (results_tmp2 (t := 4) (u := 5) rfl _ _ _) rfl ?_
          exact ⟨_, rfl, (Lay8.own_one edgL w3 (edgO (ax, ay) (ax, by0)) HB3.out.size).next (Below.refl _ _).drew, (HB3.out.alloc HB3.out.size _).drew⟩
        · have d1 : (ax == bx) = false := beq_eq_false_iff_ne.2 e0
          go_wp2_with fail
          go_quiet (fail)
          have b3 := below_dn13 wc nq
          have cc0 : (wc.drewN nq).cell? ⟨b, 0, none⟩ = some (.int .i64 ax) := c0
          have cc1 : (wc.drewN nq).cell? ⟨b, 1, none⟩ = some (.int .i64 ay) := c1
          have cc2 : (wc.drewN nq).cell? ⟨b, 2, none⟩ = some (.int .i64 bx) := c2
          have cc3 : (wc.drewN nq).cell? ⟨b, 3, none⟩ = some (.int .i64 by0) := c3
          have hlt3 : b < (wc.drewN nq).heap.size := hlt
          clear c0 c1 c2 c3 hlt
          generalize wc.drewN nq = w3 at *
          have HB3 := Lib.hid (HB2.out.trans (b3.mono HB2.out.size))
          clear b3 HB2
          go_wp2_with fail
          go_region_held3 (fun w' => w'.cell? ⟨b, 0, none⟩ = some (.int .i64 ax) ∧ w'.cell? ⟨b, 1, none⟩ = some (.int .i64 ay) ∧ w'.cell? ⟨b, 2, none⟩ = some (.int .i64 bx) ∧ w'.cell? ⟨b, 3, none⟩ = some (.int .i64 by0)) (first | (refine ⟨?_, ?_, ?_, ?_⟩ <;> first | with_reducible assumption | (with_reducible refine cell_alloc_drew ?_; with_reducible assumption) | (with_reducible refine cell_alloc ?_; with_reducible assumption)) | (simp [go_sem, *]; done)) (fail)
          go_wp2_with fail
          refine bodyPost_ret (results_tmp2 (t := 4) (u := 5) rfl _ _ _) rfl ?_
          exact ⟨_, rfl, (Lay8.own_one edgL w3 (edgO (ax, ay) (bx, by0)) HB3.out.size).next (Below.refl _ _).drew, (HB3.out.alloc HB3.out.size _).drew⟩
    · have hr := HR.out
      rw [if_neg hz] at hr
      subst hr
      have d1 : (z != 0) = true := bne_iff_ne.2 hz
      clear HR HLen HV2 hz
      go_wp2_with fail
      go_quiet (fail)
      go_wp2_with fail
      refine bodyPost_ret (results_tmp2 (t := 4) (u := 5) rfl _ _ _) rfl ?_
      exact ⟨_, rfl, edgs_nil _ _, HB2.out.trans ((below_dn13 _ _).mono HB2.out.size)⟩
set_option maxHeartbeats 4000000 in
set_option maxRecDepth 100000 in
theorem finish_any (q : Nat) (m : Mtx) (s : Pen) (w : World) (h : PenB q m s w) (hm : MI64 m) (hs : PenIn s) :
    Calls Tryz.prog 28 #[.pointer (some ⟨q, 0, none⟩)] w (StrP q m { s with o := false } (finO m s) w) := by
  obtain ⟨⟨i1, i2⟩, i3, i4⟩ := hs
  have HP0 := Lib.hid h
  have hz := CBox.z h 9
  have hz := CBox.z h 10
  have hf := CBox.lt h
  unfold StrP finO
  obtain ⟨sx, sy, su, sv, so⟩ := s
  dsimp only at *
  cases so with
  | false =>
    have x10 : w.cell? ⟨q, 10, none⟩ = some (.bool false) := HP0.out.c 10 rfl
    rw [if_neg (by decide)]
    clear h
    go_enter Tryz.func28, Tryz.ntmps28
    go_wp2_with fail
    refine bodyPost_ret (results_tmp2 (t := 2) (u := 3) rfl _ _ _) rfl ?_
    exact ⟨_, rfl, edgs_nil _ _, HP0.out, ⟨rfl, rfl, rfl, Nat.le_refl _, fun _ _ _ => rfl⟩⟩
  | true =>
    have x10 : w.cell? ⟨q, 10, none⟩ = some (.bool true) := HP0.out.c 10 rfl
    have hp1 : PenB q m ⟨sx, sy, su, sv, false⟩ (w.setCell ⟨q, 10, none⟩ (.bool false)) := CBox.set h 10 (.bool false) (show 10 < 11 by decide)
    have LI := Lib.hid (line_any q m ⟨sx, sy, su, sv, false⟩ su sv (w.setCell ⟨q, 10, none⟩ (.bool false)) hp1 hm i1.i i2.i i3.i i4.i)
    have x8 : (w.setCell ⟨q, 10, none⟩ (.bool false)).cell? ⟨q, 8, none⟩ = some (.int .i64 su) := CBox.c hp1 8 rfl
    have x9 : (w.setCell ⟨q, 10, none⟩ (.bool false)).cell? ⟨q, 9, none⟩ = some (.int .i64 sv) := CBox.c hp1 9 rfl
    have HP1 := Lib.hid hp1
    rw [if_pos rfl]
    dsimp only at LI
    generalize lineO m (sx, sy) (su, sv) = r at *
    clear h hp1 HP0
    go_enter Tryz.func28, Tryz.ntmps28
    go_wp2_with fail
    refine LI.out.mono ?_
    rintro e w2 ⟨v, rfl, hv, b2⟩
    obtain ⟨a, cap, rfl, _⟩ := Lay8.own.shape hv
    have HV := Lib.hid hv; have HB2 := Lib.hid b2
    clear hv b2 x8 x9 x10
    go_wp2_with fail
    refine bodyPost_ret (results_tmp2 (t := 2) (u := 3) rfl _ _ _) rfl ?_
    refine ⟨_, rfl, HV.out.low (by simp [World.setCell]), CBox.next HP1.out HB2.out, ⟨HB2.out.os, HB2.out.tape, HB2.out.output, ?_, fun k hk hne => ?_⟩⟩
    · have := HB2.out.size; simpa [World.setCell] using this
    · exact (HB2.out.block k (by simpa [World.setCell] using hk)).trans (Below.heap_setCell _ _ _ _ (by exact hne))
end Go.Proofs.YtbjabclgekkpaaaGreatDoor
namespace Go.Proofs.YtbjabclgekkpaaaGreatDoor
open Go.RowKit Go.Shelf
/-- A segment's cells. -/
def Seg.arr (g : Seg) : Array Value := #[.int .i64 g.kind, .int .i64 g.tx, .int .i64 g.ty, .int .i64 g.ax, .int .i64 g.ay, .int .i64 g.cx, .int .i64 g.cy, .int .i64 g.rx, .int .i64 g.ry, .int .i64 g.turn, .bool g.lg, .bool g.sw]
end Go.Proofs.YtbjabclgekkpaaaGreatDoor
namespace Go.Proofs.YtbjabclgekkpaaaGreatDoor
open Go.RowKit Go.Shelf
set_option linter.unusedSimpArgs false
/-- What package outline answers of draw, for segments of a kind. -/
def DrawOk (m : Mtx) (D : Pen → Seg → List Edg × Int) (Kd : Seg → Prop) : Prop :=
  ∀ (s : Pen) (g : Seg) (q : Nat) (w : World), PenIn s → aloneP g → Kd g → PenB q m s w → Calls Tryz.prog 27 #[.pointer (some ⟨q, 0, none⟩), .agg g.arr] w (StrP q m (stepO s g) (D s g) w)
theorem But.set {R B o : Nat} {W W' : World} (h : But R B W W') (v : Value) : But R B W (W'.setCell ⟨B, o, none⟩ v) :=
  ⟨h.os, h.tape, h.output, by have := h.size; simpa [World.setCell] using this, fun k hk hn => (Below.heap_setCell _ _ _ _ (by exact hn)).trans (h.block k hk hn)⟩
theorem But.after {q : Nat} {w w0 w2 : World} (b : Below w.heap.size w w0) (h : But w0.heap.size q w0 w2) : But w.heap.size q w w2 :=
  ⟨h.os.trans b.os, h.tape.trans b.tape, h.output.trans b.output, Nat.le_trans b.size h.size, fun k hk hn => (h.block k (Nat.lt_of_lt_of_le hk b.size) hn).trans (b.block k hk)⟩
theorem edgs_set {R q o : Nat} {v u : Value} {l : List Edg} {w : World} (h : Edgs R v l w) (hq : q < R) : Edgs R v l (w.setCell ⟨q, o, none⟩ u) :=
  Lay8.own.stay h fun k hk => Below.heap_setCell _ _ _ _ (by have := (Lay8.own.type h k hk).2.1; exact Nat.ne_of_gt (Nat.lt_of_lt_of_le hq this))
theorem pen_set2 {q : Nat} {m : Mtx} {s : Pen} {w : World} (h : PenB q m s w) (x y : Int) : PenB q m ⟨x, y, s.u, s.v, s.o⟩ ((w.setCell ⟨q, 6, none⟩ (.int .i64 x)).setCell ⟨q, 7, none⟩ (.int .i64 y)) :=
  CBox.set (CBox.set h 6 (.int .i64 x) (show 6 < 11 by decide)) 7 (.int .i64 y) (show 7 < 11 by decide)
theorem pen_set3 {q : Nat} {m : Mtx} {s : Pen} {w : World} (h : PenB q m s w) (x y : Int) : PenB q m ⟨s.x, s.y, x, y, true⟩ (((w.setCell ⟨q, 8, none⟩ (.int .i64 x)).setCell ⟨q, 9, none⟩ (.int .i64 y)).setCell ⟨q, 10, none⟩ (.bool true)) :=
  CBox.set (CBox.set (CBox.set h 8 (.int .i64 x) (show 8 < 11 by decide)) 9 (.int .i64 y) (show 9 < 11 by decide)) 10 (.bool true) (show 10 < 11 by decide)
theorem alone_to {g : Seg} (h : aloneP g) : In32 g.tx ∧ In32 g.ty := ⟨h.2.2.2.1.1, h.2.2.2.1.2.1⟩
set_option maxHeartbeats 4000000 in
set_option maxRecDepth 100000 in
theorem draw_line (m : Mtx) (hm : MI64 m) : DrawOk m (drawL m) (fun g => g.kind = 1 ∨ g.kind = 2) := by
  intro s g q w hs hg hk h
  obtain ⟨t1, t2⟩ := alone_to hg
  have hq := CBox.lt h
  have ka := (Below.refl w.heap.size w).alloc (Nat.le_refl _) (.cells g.arr 51)
  have kb := CBox.new w 51 g.arr
  have hp0 : PenB q m s (w.alloc (.cells g.arr 51)) := CBox.next h ka
  have FI := Lib.hid (finish_any q m s _ hp0 hm hs)
  have LI := Lib.hid (line_any q m s g.tx g.ty _ hp0 hm hs.1.1.i hs.1.2.i t1.i t2.i)
  have HP0 := Lib.hid hp0; have HG0 := Lib.hid kb; have HB0 := Lib.hid ka
  have hsz : (w.alloc (.cells g.arr 51)).heap.size = w.heap.size + 1 := by simp
  clear h hp0 ka kb hg t1 t2 hs hm
  obtain ⟨kd, tx, ty, ax, ay, cx, cy, rx, ry, tn, lg, sw⟩ := g
  unfold StrP drawL stepO
  unfold StrP at FI
  skip
  unfold Seg.arr at *
  dsimp only at *
  rcases hk with rfl | rfl
  · rw [if_neg (by decide)]
    generalize finO m s = r at *
    go_enter Tryz.func27, Tryz.ntmps27
    go_upto_region 1 with fail
    generalize hw0 : (w.alloc (.cells #[.int .i64 1, .int .i64 tx, .int .i64 ty, .int .i64 ax, .int .i64 ay, .int .i64 cx, .int .i64 cy, .int .i64 rx, .int .i64 ry, .int .i64 tn, .bool lg, .bool sw] 51)) = w0 at *
    have x0 : w0.cell? ⟨w.heap.size, 0, none⟩ = some (.int .i64 1) := HG0.out.c 0 rfl
    go_wp2_with fail
    refine FI.out.mono ?_
    rintro e w2 ⟨v, rfl, hv, hp2, hb2⟩
    obtain ⟨a, cap, rfl, _⟩ := Lay8.own.shape hv
    have hg2 : CBox w.heap.size 51 #[.int .i64 1, .int .i64 tx, .int .i64 ty, .int .i64 ax, .int .i64 ay, .int .i64 cx, .int .i64 cy, .int .i64 rx, .int .i64 ry, .int .i64 tn, .bool lg, .bool sw] w2 := (hb2.block _ (by omega) (by omega)).trans HG0.out
    have HV := Lib.hid hv; have HP2 := Lib.hid hp2; have HB2 := Lib.hid (hb2.after HB0.out); have HG2 := Lib.hid hg2
    clear x0 hv hp2 hb2 hg2 FI LI
    have x1 : w2.cell? ⟨w.heap.size, 1, none⟩ = some (.int .i64 tx) := HG2.out.c 1 rfl
    have x2 : w2.cell? ⟨w.heap.size, 2, none⟩ = some (.int .i64 ty) := HG2.out.c 2 rfl
    have p6 : w2.cell? ⟨q, 6, none⟩ = some (.int .i64 s.x) := CBox.c HP2.out 6 rfl
    have p7 : w2.cell? ⟨q, 7, none⟩ = some (.int .i64 s.y) := CBox.c HP2.out 7 rfl
    have p8 : w2.cell? ⟨q, 8, none⟩ = some (.int .i64 s.u) := CBox.c HP2.out 8 rfl
    have p9 : w2.cell? ⟨q, 9, none⟩ = some (.int .i64 s.v) := CBox.c HP2.out 9 rfl
    have p10 : w2.cell? ⟨q, 10, none⟩ = some (.bool false) := CBox.c HP2.out 10 rfl
    have z6 := CBox.z HP2.out 6; have z7 := CBox.z HP2.out 7; have z8 := CBox.z HP2.out 8; have z9 := CBox.z HP2.out 9; have z10 := CBox.z HP2.out 10
    have ne1 : ¬ w.heap.size = q := by omega
    have ne2 : ¬ q = w.heap.size := by omega
    go_wp2_with fail
    refine bodyPost_ret (results_tmp2 (t := 4) (u := 5) rfl _ _ _) rfl ?_
    refine ⟨_, rfl, ?_, pen_set2 (pen_set3 HP2.out tx ty) tx ty, But.set (But.set (But.set (But.set (But.set HB2.out _) _) _) _) _⟩
    exact edgs_set (edgs_set (edgs_set (edgs_set (edgs_set (Lay8.own.low HV.out HB0.out.size) hq) hq) hq) hq) hq
  · rw [if_pos rfl]
    generalize lineO m (s.x, s.y) (tx, ty) = r at *
    go_enter Tryz.func27, Tryz.ntmps27
    go_upto_region 1 with fail
    generalize hw0 : (w.alloc (.cells #[.int .i64 2, .int .i64 tx, .int .i64 ty, .int .i64 ax, .int .i64 ay, .int .i64 cx, .int .i64 cy, .int .i64 rx, .int .i64 ry, .int .i64 tn, .bool lg, .bool sw] 51)) = w0 at *
    have x0 : w0.cell? ⟨w.heap.size, 0, none⟩ = some (.int .i64 2) := HG0.out.c 0 rfl
    have x1 : w0.cell? ⟨w.heap.size, 1, none⟩ = some (.int .i64 tx) := HG0.out.c 1 rfl
    have x2 : w0.cell? ⟨w.heap.size, 2, none⟩ = some (.int .i64 ty) := HG0.out.c 2 rfl
    go_wp2_with fail
    refine LI.out.mono ?_
    rintro e w2 ⟨v, rfl, hv, b2⟩
    obtain ⟨a, cap, rfl, _⟩ := Lay8.own.shape hv
    have HV := Lib.hid hv; have HP2 := Lib.hid (show PenB q m s w2 from CBox.next HP0.out b2); have HB2 := Lib.hid (HB0.out.trans (b2.mono HB0.out.size)); have HG2 := Lib.hid (HG0.out.next b2)
    clear x0 x1 x2 hv b2 FI LI
    have x1 : w2.cell? ⟨w.heap.size, 1, none⟩ = some (.int .i64 tx) := HG2.out.c 1 rfl
    have x2 : w2.cell? ⟨w.heap.size, 2, none⟩ = some (.int .i64 ty) := HG2.out.c 2 rfl
    have p6 : w2.cell? ⟨q, 6, none⟩ = some (.int .i64 s.x) := CBox.c HP2.out 6 rfl
    have p7 : w2.cell? ⟨q, 7, none⟩ = some (.int .i64 s.y) := CBox.c HP2.out 7 rfl
    have z6 := CBox.z HP2.out 6; have z7 := CBox.z HP2.out 7
    have ne1 : ¬ w.heap.size = q := by omega
    have ne2 : ¬ q = w.heap.size := by omega
    go_wp2_with fail
    refine bodyPost_ret (results_tmp2 (t := 4) (u := 5) rfl _ _ _) rfl ?_
    refine ⟨_, rfl, ?_, pen_set2 HP2.out tx ty, But.set (But.set ⟨HB2.out.os, HB2.out.tape, HB2.out.output, HB2.out.size, fun k hk _ => HB2.out.block k hk⟩ _) _⟩
    exact edgs_set (edgs_set (Lay8.own.low HV.out HB0.out.size) hq) hq
end Go.Proofs.YtbjabclgekkpaaaGreatDoor
namespace Go.Proofs.YtbjabclgekkpaaaGreatDoor
open Go.RowKit Go.Shelf
/-- What an invariant of the loop abides besides: that a block which holds no cells is turned (another loop's record), from block D on. -/
structure AbideO {β : Type} (T : TypeId → Prop) (D : Nat) (J : List β → World → Prop) : Prop where
  abide : AbideT T D J
  own : OwnFrom D J
theorem ownFrom_later {β : Type} {B B' : Nat} {I : β → World → Prop} (h : OwnFrom B I) (hb : B ≤ B') : OwnFrom B' I :=
  fun s W W' row hs hg hr => h s W W' row hs hg (fun r e => ⟨Nat.le_trans hb (hr r e).1, (hr r e).2⟩)
theorem AbideO.later {β : Type} {T : TypeId → Prop} {D D' : Nat} {J : List β → World → Prop} (h : AbideO T D J) (hd : D ≤ D') : AbideO T D' J :=
  ⟨h.abide.later hd, ownFrom_later h.own hd⟩
theorem ownFrom_block {β : Type} {B k : Nat} {o : Obj} (hk : k < B) : OwnFrom B (fun (_ : β) W => W.heap[k]? = some o) :=
  fun _ W W' row hs hg hr => (hg.block k (Array.getElem?_eq_some_iff.1 hs).1 (fun e => by have := (hr k e.symm).1; omega)).trans hs
theorem AbideO.beside {β : Type} {T : TypeId → Prop} {D k k' : Nat} {o o' : Obj} {J : List β → World → Prop} (h : AbideO T D J) (ho : o.isCells = false) (ho' : o'.isCells = false) (hk : k < D) (hk' : k' < D) :
    AbideO T D (fun pre W => J pre W ∧ W.heap[k]? = some o ∧ W.heap[k']? = some o') :=
  ⟨h.abide.beside ho ho', h.own.and ((ownFrom_block hk).and (ownFrom_block hk'))⟩
theorem AbideO.some {β γ : Type} {T : TypeId → Prop} {D : Nat} {J : γ → List β → World → Prop} (h : ∀ c, AbideO T D (J c)) : AbideO T D (fun pre W => ∃ c, J c pre W) :=
  ⟨⟨fun pre W W' ⟨c, hc⟩ hb => ⟨c, (h c).abide.new pre W W' hc hb⟩, fun pre W W' b t cs z ⟨c, hc⟩ h1 h2 h3 h4 => ⟨c, (h c).abide.priv pre W W' b t cs z hc h1 h2 h3 h4⟩⟩,
   fun pre W W' row ⟨c, hc⟩ hg hr => ⟨c, (h c).own pre W W' row hc hg hr⟩⟩
theorem AbideO.pure {β : Type} {T : TypeId → Prop} {D : Nat} {J : List β → World → Prop} (h : AbideO T D J) (p : Prop) : AbideO T D (fun pre W => p ∧ J pre W) :=
  ⟨⟨fun _ W W' hj hb => ⟨hj.1, h.abide.new _ W W' hj.2 hb⟩, fun _ W W' b t cs z hj h1 h2 h3 h4 => ⟨hj.1, h.abide.priv _ W W' b t cs z hj.2 h1 h2 h3 h4⟩⟩, fun _ W W' row hj hg hr => ⟨hj.1, h.own _ W W' row hj.2 hg hr⟩⟩
theorem keepsFrom_later {B B' : Nat} {W W' : World} (h : KeepsFrom B W W') (hb : B ≤ B') : KeepsFrom B' W W' := ⟨h.size, fun k o hk ho hc => h.same k o (Nat.le_trans hb hk) ho hc⟩
theorem keepsFrom_put {B : Nat} (W : World) {l : Nat} (o : Obj) (hl : l < B) : KeepsFrom B W (W.putObj l o) := ⟨by simp [World.putObj], fun k o hk ho _ => (World.putObj_heap_other (by omega)).trans ho⟩
/-- A round at the wide fence, however deep, and within a round. -/
theorem RoundIn.wideAny {m n : Nat} {P : Program} {l : Nat} {f : FuncId} {tmps : Array Value} {assign body : Code} {w : World} {R : Ending → World → Prop} (h : RoundIn Fence.wide m P l f tmps assign body w R) : RoundIn Fence.wide n P l f tmps assign body w R :=
  ⟨h.1, fun c cs _ => h.2 c cs (room_wide _)⟩
end Go.Proofs.YtbjabclgekkpaaaGreatDoor
