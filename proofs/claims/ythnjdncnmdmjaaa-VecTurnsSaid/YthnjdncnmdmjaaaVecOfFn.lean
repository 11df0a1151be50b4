/-
  Package vec: lengthen, share, Of.
-/
import Derived.Test.YthnjdncnmdmjaaaVecMath
import Derived.Test.YthnjdncnmdmjaaaWithin
import Derived.Test.YthnjdncnmdmjaaaOps
import Derived.Test.YthnjdncnmdmjaaaRootHyp
import Derived.Test.YthnjdncnmdmjaaaAffMem
import Derived.Lib.MinMax
import Derived.Test.YthnjdncnmdmjaaaAffThenM
namespace Go.Proofs.Ythnjdncnmdmjaaa
open Go.RowKit Go.Shelf

/-- A new block with two numbers is a row of them. -/
theorem two_row (W : World) (x y : Int) : IntsK .i64 (some ⟨W.heap.size, 0, none⟩) [x, y] (W.alloc (.cells #[.int .i64 x, .int .i64 y] 2)) := by
  have hn := World.alloc_heap_new W (.cells #[.int .i64 x, .int .i64 y] 2)
  refine Or.inr ⟨W.heap.size, 0, rfl, by simp, fun i hi => ?_⟩
  rw [Nat.zero_add]
  unfold World.cell?
  rw [hn]
  have hi' : i < 2 := hi
  match i, hi' with
  | 0, _ => rfl
  | 1, _ => rfl
theorem in62_i {x : Int} (h : In62 x) : I64 x := by unfold In62 at h; unfold I64; omega
theorem wi_two (k x y : Int) (w : World) (hk : I64 k) (hx : I64 x) (hy : I64 y) (n : Nat) (h : IntsK .i64 (some ⟨n, 0, none⟩) [x, y] w) :
    Calls Try.prog 39 #[.int .i64 k, .slice (some ⟨n, 0, none⟩) 2 2] w fun e w' => e = .returned (.bool (wiB k x && wiB k y)) ∧ w = w' := by
  have := within_any k (some ⟨n, 0, none⟩) [x, y] 2 w hk (by intro z hz; simp at hz; rcases hz with rfl | rfl <;> assumption) (show (2 : Nat) ≤ maxLen by unfold maxLen; omega) h
  simpa [List.all_cons] using this
theorem wi_short (x y : Int) : (wiB 1152921504606846977 x && wiB 1152921504606846977 y) = decide (short x y) := by
  rw [Bool.eq_iff_iff]
  simp only [wiB, Bool.and_eq_true, decide_eq_true_eq]; unfold short; omega
theorem wi_62 (x y : Int) : (wiB 4611686018427387905 x && wiB 4611686018427387905 y) = decide (In62 x ∧ In62 y) := by
  rw [Bool.eq_iff_iff]
  simp only [wiB, Bool.and_eq_true, decide_eq_true_eq]; unfold In62; omega
/-- What lengthen's loop keeps. -/
def LenInv (R : Int × Int) (w : World) (xv yv : Value) (wr : World) : Prop :=
  ∃ (j : Nat) (x y : Int), xv = .int .i64 x ∧ yv = .int .i64 y ∧ lenL x y j = R ∧ Room x y j ∧ In62 x ∧ In62 y ∧ Below w.heap.size w wr
def lenMu (xv yv : Value) : Nat := (4611686018427387904 - (intOf xv).natAbs) + (4611686018427387904 - (intOf yv).natAbs)
theorem room_some {x y : Int} {j : Nat} (h : Room x y j) : x ≠ 0 ∨ y ≠ 0 := by
  unfold Room at h
  by_cases hx : x = 0
  · by_cases hy : y = 0
    · subst hx hy; simp at h
    · exact Or.inr hy
  · exact Or.inl hx
theorem len_step {x y : Int} {j : Nat} {R : Int × Int} (e : lenL x y j = R) (h : Room x y j) (hs : short x y) : ∃ i, lenL (x + x) (y + y) i = R ∧ Room (x + x) (y + y) i ∧ In62 (x + x) ∧ In62 (y + y) := by
  cases j with
  | zero => exact absurd hs (room_zero h)
  | succ i =>
    unfold lenL at e
    rw [if_pos hs] at e
    unfold short at hs
    exact ⟨i, e, room_next h, by unfold In62; omega, by unfold In62; omega⟩
theorem len_stop {x y : Int} {j : Nat} {R : Int × Int} (e : lenL x y j = R) (hs : ¬ short x y) : R = (x, y) := by
  cases j with
  | zero => exact e.symm
  | succ i => unfold lenL at e; rw [if_neg hs] at e; exact e.symm
theorem vlen_close {x y x2 y2 : Int} {j : Nat} {R : Int × Int} {w w1 : World} (e : lenL x y j = R) (h : Room x y j) (hs : short x y) (hb : Below w.heap.size w w1) (ex : x2 = x + x) (ey : y2 = y + y) : LenInv R w (.int .i64 x2) (.int .i64 y2) w1 := by
  subst ex ey
  obtain ⟨i, h1, h2, h3, h4⟩ := len_step e h hs
  exact ⟨i, _, _, rfl, rfl, h1, h2, h3, h4, hb⟩
set_option maxHeartbeats 4000000 in
set_option maxRecDepth 100000 in
theorem lengthen_any (x y : Int) (w : World) (h0 : ¬ (x = 0 ∧ y = 0)) (hx : In62 x) (hy : In62 y) :
    Calls Try.prog 43 #[.int .i64 x, .int .i64 y] w fun e w' => e = .returned (.tuple #[.int .i64 (lenL x y 61).1, .int .i64 (lenL x y 61).2]) ∧ Below w.heap.size w w' := by
  have R0 := Lib.hid (room_start h0)
  have X0 := Lib.hid (And.intro hx hy)
  obtain ⟨R, hR⟩ : ∃ R, lenL x y 61 = R := ⟨_, rfl⟩
  rw [hR]
  have HR := Lib.hid hR
  clear hR h0 hx hy
  go_enter Try.func43, Try.ntmps43
  go_wp2_with fail
  go_loopw [0, 1] (fun xv yv wr => LenInv R w xv yv wr) (fun xv yv _ => lenMu xv yv)
  case atStart => exact ⟨61, x, y, rfl, rfl, HR.out, R0.out, X0.out.1, X0.out.2, Below.refl _ _⟩
  case round =>
    obtain ⟨j, cx, cy, rfl, rfl, hr, hm, hx, hy, hb⟩ := hrel
    have WI := Lib.hid (fun w n h => wi_two 1152921504606846977 cx cy w ⟨by decide, by decide⟩ (in62_i hx) (in62_i hy) n h)
    rw [wi_short] at WI
    have HRr := Lib.hid hr
    have HM := Lib.hid hm
    have HB := Lib.hid hb
    have hk := room_some hm
    have HI := two_row wr cx cy
    have hb1 := Lib.hid (hb.alloc hb.size (.cells #[.int .i64 cx, .int .i64 cy] 2))
    unfold In62 at hx hy
    clear hr hm hb
    by_cases hs : short cx cy
    · rw [decide_eq_true hs] at WI
      have HS := Lib.hid hs
      unfold short at hs
      go_wp2_with fail
      refine (WI.out _ _ HI).mono ?_
      rintro e w3 ⟨rfl, rfl⟩
      clear HI WI
      go_wp2_with fail
      go_roundw
      case rel => exact vlen_close HRr.out HM.out HS.out hb1.out (by omega) (by omega)
      case measure => simp only [lenMu, intOf]; omega
    · rw [decide_eq_false hs] at WI
      have HS := Lib.hid hs
      clear hs
      go_wp2_with fail
      refine (WI.out _ _ HI).mono ?_
      rintro e w3 ⟨rfl, rfl⟩
      clear HI WI
      go_wp2_with fail
      go_ret2
      exact ⟨by rw [len_stop HRr.out HS.out]; rfl, hb1.out⟩
theorem muldiv_share (n : Int) (h : Nat) (hh : 0 < h) : muldiv n 1073741824 (h : Int) = shareN n h := by
  unfold muldiv shareN
  rw [if_pos (by omega), Int.natAbs_natCast]
theorem share_i {n : Int} {h : Nat} (hh : 0 < h) (hn : n.natAbs ≤ h) : I64 (shareN n h) := by
  have := share_in hh hn
  unfold I64; omega
set_option maxHeartbeats 1000000 in
set_option maxRecDepth 100000 in
theorem share_any (n : Int) (h : Nat) (w : World) (hh : 0 < h) (hb : h < 9223372036854775808) (hn : n.natAbs ≤ h) :
    Calls Try.prog 45 #[.int .i64 n, .int .i64 (h : Int)] w fun e w' => e = .returned (.int .i64 (shareN n h)) ∧ Below w.heap.size w w' := by
  have M := Lib.hid (fun w => muldiv_any n 1073741824 (h : Int) w (by unfold I64; omega) (by unfold I64; omega) (by unfold I64; omega) (by omega))
  rw [muldiv_share n h hh, pair_i64 (share_i hh hn)] at M
  generalize shareN n h = s at *
  clear hh hb hn
  generalize (h : Int) = k at *
  go_enter Try.func45, Try.ntmps45
  go_wp2_with fail
  refine (M.out _).mono ?_
  rintro e w1 ⟨rfl, b1⟩
  go_wp2_with fail
  go_ret
  exact ⟨rfl, b1⟩
/-- A point and a flag. -/
def DOk (r : (Int × Int) × Bool) : Value := .tuple #[.agg #[.int .i64 r.1.1, .int .i64 r.1.2], .bool r.2]
theorem dok_ret {f : Func} {k j : Nat} (hres : f.results = #[ResultVar.cell k 25, ResultVar.tmp j]) {n : Nat} {w wr : World} {x y : Int} {b : Bool} {ts : Array Value} (hp : PBox n x y wr) (hb : Below w.heap.size w wr) (hts : ts[k]? = some (.pointer (some ⟨n, 0, none⟩))) (htj : ts[j]? = some (.bool b)) :
    bodyPost Try.prog f (fun e w' => e = .returned (DOk ((x, y), b)) ∧ Below w.heap.size w w') .ret { tmps := ts, defers := [] } wr := by
  have c0 := hp.c0; have c1 := hp.c1
  exact bodyPost_ret (v := DOk ((x, y), b)) (by simp [results, hres, go_sem, c0, c1, hts, htj, DOk]) rfl ⟨rfl, hb⟩
theorem ofS_no {x y : Int} (h : ¬ (¬ (x = 0 ∧ y = 0) ∧ In62 x ∧ In62 y)) : ofS x y = ((0, 0), false) := by unfold ofS; rw [if_neg h]
theorem ofS_yes {x y : Int} (h : ¬ (x = 0 ∧ y = 0) ∧ In62 x ∧ In62 y) : ofS x y = ((shareN (lenL x y 61).1 (hypN (lenL x y 61).1 (lenL x y 61).2), shareN (lenL x y 61).2 (hypN (lenL x y 61).1 (lenL x y 61).2)), true) := by unfold ofS; rw [if_pos h]
set_option maxHeartbeats 4000000 in
set_option maxRecDepth 100000 in
theorem vof_any (x y : Int) (w : World) (hx : I64 x) (hy : I64 y) :
    Calls Try.prog 20 #[.int .i64 x, .int .i64 y] w fun e w' => e = .returned (DOk (ofS x y)) ∧ Below w.heap.size w w' := by
  have WI := Lib.hid (fun w n h => wi_two 4611686018427387905 x y w ⟨by decide, by decide⟩ hx hy n h)
  rw [wi_62] at WI
  have al := (Below.refl w.heap.size w).alloc (Nat.le_refl _) (.cells #[.int .i64 0, .int .i64 0] 25)
  have HB0 := Lib.hid al
  have HP0 := Lib.hid (PBox.new w 0 0)
  have hs0 : (w.alloc (.cells #[.int .i64 0, .int .i64 0] 25)).heap.size = w.heap.size + 1 := by simp
  have HS0 := Lib.hid hs0
  clear al hs0
  by_cases h0 : x = 0 ∧ y = 0
  · obtain ⟨rfl, rfl⟩ := h0
    rw [ofS_no (by simp)]
    clear hx hy WI
    go_enter Try.func20, Try.ntmps20
    go_upto_region 1 with fail
    generalize w.alloc (.cells #[.int .i64 0, .int .i64 0] 25) = w1 at *
    have z0 := HP0.out.c0; have z1 := HP0.out.c1; have z2 := HP0.out.z 0; have z3 := HP0.out.z 1
    go_wp2_with fail
    exact dok_ret Try.results20 (HP0.out.set 0 0) (below_pt8 HB0.out (Nat.le_refl _) (.int .i64 0) (.int .i64 0)) rfl rfl
  have hd : decide (x = 0) = true → decide (y = 0) = false := fun h => decide_eq_false (fun k => h0 ⟨of_decide_eq_true h, k⟩)
  by_cases hin : In62 x ∧ In62 y
  case neg =>
    rw [ofS_no (fun k => hin k.2)]
    rw [decide_eq_false hin] at WI
    clear hin hx hy
    go_enter Try.func20, Try.ntmps20
    go_upto_region 1 with fail
    generalize w.alloc (.cells #[.int .i64 0, .int .i64 0] 25) = w1 at *
    have HI := two_row w1 x y
    have al := (Below.refl w1.heap.size w1).alloc (Nat.le_refl _) (.cells #[.int .i64 x, .int .i64 y] 2)
    have HB1 := Lib.hid (HB0.out.trans (al.mono HB0.out.size))
    have HP1 := Lib.hid (HP0.out.next al)
    clear al
    have q1 : ¬ (x = 0 ∧ y = 0) := h0
    by_cases hx0 : x = 0
    all_goals
      first
      | (subst hx0; have hy0 : ¬ y = 0 := fun k => q1 ⟨rfl, k⟩)
      | skip
      clear q1 h0 hd
      go_wp2_with fail
      refine (WI.out _ _ HI).mono ?_
      rintro e w2 ⟨rfl, rfl⟩
      clear HI WI
      have z0 := HP1.out.c0; have z1 := HP1.out.c1; have z2 := HP1.out.z 0; have z3 := HP1.out.z 1
      go_wp2_with fail
      exact dok_ret Try.results20 (HP1.out.set 0 0) (below_pt8 HB1.out (Nat.le_refl _) (.int .i64 0) (.int .i64 0)) rfl rfl
  rw [ofS_yes ⟨h0, hin⟩]
  rw [decide_eq_true hin] at WI
  have LN := Lib.hid (fun w => lengthen_any x y w h0 hin.1 hin.2)
  obtain ⟨hs, hX, hY⟩ := len_is 61 x y (room_start h0) hin.1 hin.2
  generalize (lenL x y 61).1 = X at *
  generalize (lenL x y 61).2 = Y at *
  have hl := hyp_long hs hX hY
  have ax := in62_abs hX
  have ay := in62_abs hY
  have ab := abs_le_hyp (x := X) (y := Y) (by omega) (by omega)
  have HY := Lib.hid (fun w => Hypot_any X Y w (in62_i hX) (in62_i hY))
  rw [show rt (X.natAbs * X.natAbs + Y.natAbs * Y.natAbs) = hypN X Y from rfl] at HY
  generalize hypN X Y = k at *
  have SX := Lib.hid (fun w => share_any X k w (by omega) hl.2 ab.1)
  have SY := Lib.hid (fun w => share_any Y k w (by omega) hl.2 ab.2)
  generalize shareN X k = P at *
  generalize shareN Y k = Q at *
  clear hs hX hY ax ay ab hin hx hy
  go_enter Try.func20, Try.ntmps20
  go_upto_region 1 with fail
  generalize w.alloc (.cells #[.int .i64 0, .int .i64 0] 25) = w1 at *
  have HI := two_row w1 x y
  have al := (Below.refl w1.heap.size w1).alloc (Nat.le_refl _) (.cells #[.int .i64 x, .int .i64 y] 2)
  have HB1 := Lib.hid (HB0.out.trans (al.mono HB0.out.size))
  have HP1 := Lib.hid (HP0.out.next al)
  clear al
  have q1 : ¬ (x = 0 ∧ y = 0) := h0
  by_cases hx0 : x = 0
  all_goals
    first
    | (subst hx0; have hy0 : ¬ y = 0 := fun k => q1 ⟨rfl, k⟩)
    | skip
    clear q1 h0 hd
    go_wp2_with fail
    refine (WI.out _ _ HI).mono ?_
    rintro e w2 ⟨rfl, rfl⟩
    clear HI WI
    generalize w1.alloc (.cells _ 2) = w2 at *
    go_wp2_with fail
    refine (LN.out _).mono ?_
    rintro e w3 ⟨rfl, b3⟩
    have HB3 := Lib.hid (HB1.out.trans (b3.mono HB1.out.size))
    have HP3 := Lib.hid (HP1.out.next b3)
    clear b3
    go_wp2_with fail
    refine (HY.out _).mono ?_
    rintro e w4 ⟨rfl, b4⟩
    have HB4 := Lib.hid (HB3.out.trans (b4.mono HB3.out.size))
    have HP4 := Lib.hid (HP3.out.next b4)
    clear b4
    go_wp2_with fail
    refine (SX.out _).mono ?_
    rintro e w5 ⟨rfl, b5⟩
    have HB5 := Lib.hid (HB4.out.trans (b5.mono HB4.out.size))
    have HP5 := Lib.hid (HP4.out.next b5)
    clear b5
    go_wp2_with fail
    refine (SY.out _).mono ?_
    rintro e w6 ⟨rfl, b6⟩
    have HB6 := Lib.hid (HB5.out.trans (b6.mono HB5.out.size))
    have HP6 := Lib.hid (HP5.out.next b6)
    clear b6
    have z0 := HP6.out.c0; have z1 := HP6.out.c1; have z2 := HP6.out.z 0; have z3 := HP6.out.z 1
    go_wp2_with fail
    exact dok_ret Try.results20 (HP6.out.set P Q) (below_pt8 HB6.out (Nat.le_refl _) (.int .i64 P) (.int .i64 Q)) rfl rfl
end Go.Proofs.Ythnjdncnmdmjaaa
