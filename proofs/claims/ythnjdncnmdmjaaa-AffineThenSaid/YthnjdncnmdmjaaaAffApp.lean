/-
  Package affine: Apply.
-/
import Derived.Test.YthnjdncnmdmjaaaAffRight
import Derived.Test.YthnjdncnmdmjaaaAffSame
import Derived.Test.YthnjdncnmdmjaaaAffTake
import Derived.Test.YthnjdncnmdmjaaaAffBegin
namespace Go.Proofs.Ythnjdncnmdmjaaa
open Go.RowKit Go.Shelf

theorem takeE_no {z : Int} (h : z ≠ 0) (p : Int × Int) : takeE (p, z) = .panicked [{ v := .iface 27 (.int .i64 z), recovered := false }] := by
  unfold takeE; rw [if_neg h]; rfl
theorem apply_zero (m : Mtx) (x y : Int) (h : (applyS m x y).2 ≠ 0) : (applyS m x y).1 = (0, 0) := by
  unfold applyS at *
  split at h
  · split at h
    · exact absurd rfl h
    · rename_i h1 h2; rw [if_pos h1, if_neg h2]
  · rename_i h1; rw [if_neg h1]
set_option maxHeartbeats 4000000 in
set_option maxRecDepth 100000 in
theorem clos_P (p q : Nat) (m : Mtx) (x y : Int) (w : World) (hm : MBox p m w) (hp : PBox q x y w) (i : MI64 m) (hx : I64 x) (hy : I64 y) :
    Calls Try.prog 35 #[.pointer (some ⟨p, 0, none⟩), .pointer (some ⟨q, 0, none⟩)] w fun e w' => e = takeE (applyS m x y) ∧ Below w.heap.size w w' := by
  have AR := Lib.hid (fun w => aright8 m w i)
  have MN := Lib.hid (fun w => must_no 1 w)
  have MK := Lib.hid (fun w => must_ok 1 w)
  unfold Gives at MN
  have al := (Below.refl w.heap.size w).alloc (Nat.le_refl _) (.cells #[.int .i64 0, .int .i64 0] 25)
  have HB1 := Lib.hid al
  have HM1 := Lib.hid (hm.next al)
  have HP1 := Lib.hid (hp.next al)
  have HZ1 := Lib.hid (PBox.new w 0 0)
  have TK := Lib.hid (fun w hr => take_any m x y w hr hx hy)
  clear al hm hp hx hy i
  obtain ⟨RR, hRR⟩ : ∃ RR, takeE (applyS m x y) = RR := ⟨_, rfl⟩
  rw [hRR]
  have HE := Lib.hid hRR
  clear hRR
  go_enter Try.func35, Try.ntmps35
  go_upto_region 1 with fail
  generalize w.alloc (.cells #[.int .i64 0, .int .i64 0] 25) = w1 at *
  have c0 := HM1.out.c0; have c1 := HM1.out.c1; have c2 := HM1.out.c2; have c3 := HM1.out.c3; have c4 := HM1.out.c4; have c5 := HM1.out.c5
  by_cases hr : m.right
  case neg =>
    obtain rfl : .panicked [{ v := .iface 27 (.int .i64 1), recovered := false }] = RR := by rw [← HE.out]; unfold applyS; rw [if_neg (fun h => hr h.1)]; rfl
    rw [decide_eq_false hr] at AR
    clear hr TK HE
    obtain ⟨a, b, c, d, e0, f⟩ := m
    unfold Mtx.val at AR
    simp only [Mtx.cells] at AR
    dsimp only at c0 c1 c2 c3 c4 c5
    go_wp2_with fail
    refine (AR.out _).mono ?_
    rintro e w2 ⟨rfl, b2⟩
    have HB2 := Lib.hid (HB1.out.trans (b2.mono HB1.out.size))
    clear b2 c0 c1 c2 c3 c4 c5
    go_wp2_with fail
    refine (MN.out _).mono ?_
    rintro e wm ⟨rfl, rfl⟩
    go_wp2_with fail
    exact ⟨rfl, rfl, HB2.out⟩
  rw [decide_eq_true hr] at AR
  have TK' := Lib.hid (fun w => TK.out w hr)
  obtain ⟨R, hR⟩ : ∃ R, applyS m x y = R := ⟨_, rfl⟩
  rw [hR] at TK'
  have HE' := HE.out
  rw [hR] at HE'
  clear TK hr hR MN HE
  obtain ⟨⟨X, Y⟩, z⟩ := R
  have HE := Lib.hid HE'
  clear HE'
  obtain ⟨a, b, c, d, e0, f⟩ := m
  unfold Mtx.val at AR TK'
  simp only [Mtx.cells] at AR TK'
  dsimp only at c0 c1 c2 c3 c4 c5
  go_wp2_with fail
  refine (AR.out _).mono ?_
  rintro e w2 ⟨rfl, b2⟩
  have HB2 := Lib.hid (HB1.out.trans (b2.mono HB1.out.size))
  have HM2 := Lib.hid (HM1.out.next b2)
  have HP2 := Lib.hid (HP1.out.next b2)
  have HZ2 := Lib.hid (HZ1.out.next b2)
  clear b2 c0 c1 c2 c3 c4 c5
  go_wp2_with fail
  refine (MK.out _).mono ?_
  rintro e wm ⟨rfl, rfl⟩
  have c0 := HM2.out.c0; have c1 := HM2.out.c1; have c2 := HM2.out.c2; have c3 := HM2.out.c3; have c4 := HM2.out.c4; have c5 := HM2.out.c5
  have p0 := HP2.out.c0; have p1 := HP2.out.c1
  dsimp only at c0 c1 c2 c3 c4 c5
  by_cases hz : z = 0
  · subst hz
    obtain rfl : .returned (.agg #[.int .i64 X, .int .i64 Y]) = RR := HE.out
    rw [takeE_ok] at TK'
    go_wp2_with fail
    refine (TK'.out _).mono ?_
    rintro e w3 ⟨rfl, b3⟩
    have HB3 := Lib.hid (HB2.out.trans (b3.mono HB2.out.size))
    have HZ3 := Lib.hid (HZ2.out.next b3)
    clear b3 c0 c1 c2 c3 c4 c5 p0 p1
    have z0 := HZ3.out.c0; have z1 := HZ3.out.c1; have z2 := HZ3.out.z 0; have z3 := HZ3.out.z 1
    go_wp2_with fail
    exact pe_ret Try.results35 (HZ3.out.set X Y) (below_pt8 HB3.out (Nat.le_refl _) (.int .i64 X) (.int .i64 Y)) rfl
  · obtain rfl : .panicked [{ v := .iface 27 (.int .i64 z), recovered := false }] = RR := by rw [← HE.out, takeE_no hz]
    rw [takeE_no hz] at TK'
    go_wp2_with fail
    refine (TK'.out _).mono ?_
    rintro e w3 ⟨rfl, b3⟩
    have HB3 := Lib.hid (HB2.out.trans (b3.mono HB2.out.size))
    clear b3 c0 c1 c2 c3 c4 c5 p0 p1
    go_wp2_with fail
    exact ⟨rfl, rfl, HB3.out⟩
set_option maxHeartbeats 4000000 in
set_option maxRecDepth 100000 in
theorem aapply8 (m : Mtx) (x y : Int) (w : World) (i : MI64 m) (hx : I64 x) (hy : I64 y) :
    Calls Try.prog 11 #[m.val, .agg #[.int .i64 x, .int .i64 y]] w fun e w' => e = .returned (PE (applyS m x y)) ∧ Below w.heap.size w w' := by
  have hmf : ∀ (fn : Fn) (first cap : Array Value) (w : World), (Instr.makeFunc fn first cap).run Try.prog w = .ok (.func fn first cap) w := fun _ _ _ _ => rfl
  obtain ⟨hbm, hbp, hbz, hbb⟩ := boxes3 w m x y
  have BG : Hid (∀ w1 : World, MBox w.heap.size m w1 → PBox (w.heap.size + 1) x y w1 → Calls Try.prog 34 #[.func (Fn.func 35) #[] #[.pointer (some ⟨w.heap.size, 0, none⟩), .pointer (some ⟨w.heap.size + 1, 0, none⟩)]] w1 fun e w' => e = .returned (PE (applyS m x y)) ∧ Below w1.heap.size w1 w') := Lib.hid (by
    intro w1 h1 h2
    have hz := apply_zero m x y
    have K := fun (w2 : World) (b : Below w1.heap.size w1 w2) => clos_P w.heap.size (w.heap.size + 1) m x y w2 (h1.next b) (h2.next b) i hx hy
    generalize applyS m x y = R at *
    obtain ⟨⟨X, Y⟩, z⟩ := R
    by_cases h0 : z = 0
    · subst h0
      exact begin_P_ok _ _ X Y w1 K
    · obtain ⟨rfl, rfl⟩ : X = 0 ∧ Y = 0 := by have := hz h0; simpa using this
      rw [takeE_no h0] at K
      exact begin_P_no _ _ z w1 K)
  generalize applyS m x y = R at *
  obtain ⟨⟨X, Y⟩, z⟩ := R
  obtain ⟨a, b, c, d, e0, f⟩ := m
  clear i hx hy
  unfold PE at BG
  simp only [Mtx.cells] at hbm hbp hbz hbb
  have HM1 := Lib.hid hbm
  have HP1 := Lib.hid hbp
  have HZ1 := Lib.hid hbz
  have HB1 := Lib.hid hbb
  clear hbm hbp hbz hbb
  show Calls _ _ #[.agg #[.int .i64 a, .int .i64 b, .int .i64 c, .int .i64 d, .int .i64 e0, .int .i64 f], _] w _
  go_enter Try.func11, Try.ntmps11
  go_wp2_with fail
  generalize ((w.alloc (.cells #[.int .i64 a, .int .i64 b, .int .i64 c, .int .i64 d, .int .i64 e0, .int .i64 f] 23)).alloc (.cells #[.int .i64 x, .int .i64 y] 25)).alloc (.cells #[.int .i64 0, .int .i64 0] 25) = w1 at *
  refine (BG.out _ HM1.out HP1.out).mono ?_
  rintro e w2 ⟨rfl, b2⟩
  have HB2 := Lib.hid (HB1.out.trans (b2.mono HB1.out.size))
  have HZ2 := Lib.hid (HZ1.out.next b2)
  clear b2
  have z0 := HZ2.out.c0; have z1 := HZ2.out.c1; have z2 := HZ2.out.z 0; have z3 := HZ2.out.z 1
  go_wp2_with fail
  exact pe_close8 Try.results11 (HZ2.out.set X Y) (below_pt8 HB2.out (by omega) (.int .i64 X) (.int .i64 Y)) rfl rfl
end Go.Proofs.Ythnjdncnmdmjaaa
