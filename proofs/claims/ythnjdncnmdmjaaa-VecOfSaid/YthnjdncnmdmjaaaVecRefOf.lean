/-
  The document's answers of layer 9: Of.
-/
import Derived.Test.YthnjdncnmdmjaaaVecRef
import Derived.Test.YthnjdncnmdmjaaaVecOfFn
import Derived.Test.YthnjdncnmdmjaaaRef2Squares
import Derived.Test.YthnjdncnmdmjaaaRef2Root
namespace Go.Proofs.Ythnjdncnmdmjaaa
open Go.RowKit Go.Shelf

def OfInv9 (R : Int × Int) (w1 : World) (xv yv : Value) (wr : World) : Prop :=
  ∃ (j : Nat) (x y : Int), xv = .int .i64 x ∧ yv = .int .i64 y ∧ lenL x y j = R ∧ Room x y j ∧ In62 x ∧ In62 y ∧ wr = w1
theorem of_close9 {x y x2 y2 : Int} {j : Nat} {R : Int × Int} {w1 : World} (e : lenL x y j = R) (h : Room x y j) (hs : short x y) (ex : x2 = x + x) (ey : y2 = y + y) : OfInv9 R w1 (.int .i64 x2) (.int .i64 y2) w1 := by
  subst ex ey
  obtain ⟨i, h1, h2, h3, h4⟩ := len_step e h hs
  exact ⟨i, _, _, rfl, rfl, h1, h2, h3, h4, rfl⟩
/-- The four ways in which a point isn't short. -/
theorem long_how {x y : Int} (h : ¬ short x y) : ¬ x ≤ 1152921504606846976 ∨ (x ≤ 1152921504606846976 ∧ ¬ -1152921504606846976 ≤ x) ∨ (x ≤ 1152921504606846976 ∧ -1152921504606846976 ≤ x ∧ ¬ y ≤ 1152921504606846976) ∨ (x ≤ 1152921504606846976 ∧ -1152921504606846976 ≤ x ∧ y ≤ 1152921504606846976 ∧ ¬ -1152921504606846976 ≤ y) := by
  unfold short at h; omega
theorem two_abs (X Y : Int) (hX : In62 X) (hY : In62 Y) : X.natAbs * X.natAbs + Y.natAbs * Y.natAbs < 340282366920938463463374607431768211456 := by
  have s1 := sq_le_nat X _ (in62_abs hX)
  have s2 := sq_le_nat Y _ (in62_abs hY)
  omega
set_option maxHeartbeats 4000000 in
set_option maxRecDepth 100000 in
theorem rof_yes (x y : Int) (w : World) (h0 : ¬ (x = 0 ∧ y = 0)) (hx : In62 x) (hy : In62 y) :
    Calls Try.prog 21 #[.int .i64 x, .int .i64 y] w fun e w' => e = .returned (DOk (ofS x y)) ∧ Below w.heap.size w w' := by
  rw [ofS_yes ⟨h0, hx, hy⟩]
  have R0 := Lib.hid (room_start h0)
  have X0 := Lib.hid (And.intro hx hy)
  obtain ⟨R, hR⟩ : ∃ R, lenL x y 61 = R := ⟨_, rfl⟩
  rw [hR]
  have HR := Lib.hid hR
  obtain ⟨P, hP⟩ : ∃ P, shareN R.1 (hypN R.1 R.2) = P := ⟨_, rfl⟩
  obtain ⟨Q, hQ⟩ : ∃ Q, shareN R.2 (hypN R.1 R.2) = Q := ⟨_, rfl⟩
  rw [hP, hQ]
  have EP := Lib.hid hP
  have EQ := Lib.hid hQ
  clear hR hP hQ
  have al := (Below.refl w.heap.size w).alloc (Nat.le_refl _) (.cells #[.int .i64 0, .int .i64 0] 25)
  have HB0 := Lib.hid al
  have HP0 := Lib.hid (PBox.new w 0 0)
  clear al
  have g1 : ¬ 4611686018427387904 < x := by unfold In62 at hx; omega
  have g2 : ¬ x < -4611686018427387904 := by unfold In62 at hx; omega
  have g3 : ¬ 4611686018427387904 < y := by unfold In62 at hy; omega
  have g4 : ¬ y < -4611686018427387904 := by unfold In62 at hy; omega
  go_enter Try.func21, Try.ntmps21
  go_upto_region 1 with fail
  generalize w.alloc (.cells #[.int .i64 0, .int .i64 0] 25) = w1 at *
  by_cases hx0 : x = 0
  all_goals
    first
    | (subst hx0; have hy0 : ¬ y = 0 := fun k => h0 ⟨rfl, k⟩)
    | skip
    clear h0
    go_wp2_with fail
    clear hx hy g1 g2 g3 g4
    go_loopw [0, 1] (fun xv yv wr => OfInv9 R w1 xv yv wr) (fun xv yv _ => lenMu xv yv)
    case atStart => exact ⟨61, _, _, rfl, rfl, HR.out, R0.out, X0.out.1, X0.out.2, rfl⟩
    case round =>
      obtain ⟨j, cx, cy, rfl, rfl, hr, hm, hx, hy, rfl⟩ := hrel
      have HRr := Lib.hid hr
      have HM := Lib.hid hm
      have HX := Lib.hid (And.intro hx hy)
      have hk := room_some hm
      clear hr hm
      unfold In62 at hx hy
      by_cases hs : short cx cy
      · have HS := Lib.hid hs
        obtain ⟨⟨s1, s2⟩, s3, s4⟩ := hs
        go_wp2_with fail
        go_roundw
        case rel => exact of_close9 HRr.out HM.out HS.out (by omega) (by omega)
        case measure => simp only [lenMu, intOf]; omega
      · obtain rfl := len_stop HRr.out hs
        have SQ := Lib.hid (fun w => squares_z cx cy w (in62_i HX.out.1) (in62_i HX.out.2))
        have RT := Lib.hid (fun v w h => root2_any v (cx.natAbs * cx.natAbs + cy.natAbs * cy.natAbs) w (two_abs cx cy HX.out.1 HX.out.2) h)
        rw [show rt (cx.natAbs * cx.natAbs + cy.natAbs * cy.natAbs) = hypN cx cy from rfl] at RT
        have hl := hyp_long hs HX.out.1 HX.out.2
        have ab := abs_le_hyp (x := cx) (y := cy) (by omega) (by omega)
        have eP : shareN cx (hypN cx cy) = P := EP.out
        have eQ : shareN cy (hypN cx cy) = Q := EQ.out
        obtain ⟨k, hk'⟩ : ∃ k, hypN cx cy = k := ⟨_, rfl⟩
        rw [hk'] at RT hl ab eP eQ
        clear hk'
        have SX : Hid (∀ w : World, Calls Try.prog 48 #[.int .i64 cx, .int .i64 1073741824, .int .i64 (k : Int)] w fun e w' => e = .returned (.int .i64 P) ∧ Below w.heap.size w w') := Lib.hid (fun w => by
          have q := rnear9 cx 1073741824 (k : Int) w (in62_i HX.out.1) (by unfold I64; omega) (by unfold I64; omega) (by omega) (by rw [muldiv_share cx k (by omega)]; exact share_i (by omega) ab.1)
          rw [muldiv_share cx k (by omega), eP] at q
          exact q)
        have SY : Hid (∀ w : World, Calls Try.prog 48 #[.int .i64 cy, .int .i64 1073741824, .int .i64 (k : Int)] w fun e w' => e = .returned (.int .i64 Q) ∧ Below w.heap.size w w') := Lib.hid (fun w => by
          have q := rnear9 cy 1073741824 (k : Int) w (in62_i HX.out.2) (by unfold I64; omega) (by unfold I64; omega) (by omega) (by rw [muldiv_share cy k (by omega)]; exact share_i (by omega) ab.2)
          rw [muldiv_share cy k (by omega), eQ] at q
          exact q)
        have h5 : (k : Int) < 9223372036854775808 := by omega
        have h6 : 0 ≤ (k : Int) := by omega
        have HW := Lib.hid (long_how hs)
        clear hl ab hs HRr HM EP EQ R0 X0 HR hk HX hx hy eP eQ
        generalize (k : Int) = K at *
        rcases HW.out with q1 | ⟨q1, q2⟩ | ⟨q1, q2, q3⟩ | ⟨q1, q2, q3, q4⟩
        all_goals
          clear HW
          go_wp2_with fail
          refine (SQ.out _).mono ?_
          rintro e w3 ⟨v3, rfl, n3, b3⟩
          have N3 := Lib.hid n3
          have HB3 := Lib.hid (HB0.out.trans (b3.mono HB0.out.size))
          have HP3 := Lib.hid (HP0.out.next b3)
          clear n3 b3
          go_wp2_with fail
          refine (RT.out _ _ N3.out).mono ?_
          rintro e w4 ⟨rfl, b4⟩
          have HB4 := Lib.hid (HB3.out.trans (b4.mono HB3.out.size))
          have HP4 := Lib.hid (HP3.out.next b4)
          clear b4
          go_wp2_with fail
          refine (SX.out _).mono ?_
          rintro e w5 ⟨rfl, b5⟩
          have HB5 := Lib.hid (HB4.out.trans (b5.mono HB4.out.size))
          have HP5 := Lib.hid (HP4.out.next b5)
          clear b5
          go_wp2_with fail
          refine (SY.out _).mono ?_
          rintro e w6 ⟨rfl, b6⟩
          have HB6 := Lib.hid (HB5.out.trans (b6.mono HB5.out.size))
          have HP6 := Lib.hid (HP5.out.next b6)
          clear b6
          have z0 := HP6.out.c0; have z1 := HP6.out.c1; have z2 := HP6.out.z 0; have z3 := HP6.out.z 1
          go_wp2_with fail
          exact dok_ret Try.results21 (HP6.out.set P Q) (below_pt8 HB6.out (Nat.le_refl _) (.int .i64 P) (.int .i64 Q)) rfl rfl
set_option maxHeartbeats 4000000 in
set_option maxRecDepth 100000 in
theorem rof_no (x y : Int) (w : World) (h : ¬ (¬ (x = 0 ∧ y = 0) ∧ In62 x ∧ In62 y)) :
    Calls Try.prog 21 #[.int .i64 x, .int .i64 y] w fun e w' => e = .returned (DOk (ofS x y)) ∧ Below w.heap.size w w' := by
  rw [ofS_no h]
  have al := (Below.refl w.heap.size w).alloc (Nat.le_refl _) (.cells #[.int .i64 0, .int .i64 0] 25)
  have HB0 := Lib.hid al
  have HP0 := Lib.hid (PBox.new w 0 0)
  clear al
  have q : (x = 0 ∧ y = 0) ∨ (x = 0 ∧ ¬ y = 0 ∧ 4611686018427387904 < y) ∨ (x = 0 ∧ ¬ y = 0 ∧ ¬ 4611686018427387904 < y ∧ y < -4611686018427387904) ∨ (¬ x = 0 ∧ 4611686018427387904 < x) ∨ (¬ x = 0 ∧ ¬ 4611686018427387904 < x ∧ x < -4611686018427387904) ∨ (¬ x = 0 ∧ ¬ 4611686018427387904 < x ∧ ¬ x < -4611686018427387904 ∧ 4611686018427387904 < y) ∨ (¬ x = 0 ∧ ¬ 4611686018427387904 < x ∧ ¬ x < -4611686018427387904 ∧ ¬ 4611686018427387904 < y ∧ y < -4611686018427387904) := by
    unfold In62 at h; omega
  clear h
  go_enter Try.func21, Try.ntmps21
  go_upto_region 1 with fail
  generalize w.alloc (.cells #[.int .i64 0, .int .i64 0] 25) = w1 at *
  have z0 := HP0.out.c0; have z1 := HP0.out.c1; have z2 := HP0.out.z 0; have z3 := HP0.out.z 1
  rcases q with ⟨rfl, rfl⟩ | ⟨rfl, q1, q2⟩ | ⟨rfl, q1, q2, q3⟩ | ⟨q0, q1⟩ | ⟨q0, q1, q2⟩ | ⟨q0, q1, q2, q3⟩ | ⟨q0, q1, q2, q3, q4⟩
  all_goals
    go_wp2_with fail
    exact dok_ret Try.results21 (HP0.out.set 0 0) (below_pt8 HB0.out (Nat.le_refl _) (.int .i64 0) (.int .i64 0)) rfl rfl
theorem rof9 (x y : Int) (w : World) :
    Calls Try.prog 21 #[.int .i64 x, .int .i64 y] w fun e w' => e = .returned (DOk (ofS x y)) ∧ Below w.heap.size w w' := by
  by_cases h : ¬ (x = 0 ∧ y = 0) ∧ In62 x ∧ In62 y
  · exact rof_yes x y w h.1 h.2.1 h.2.2
  · exact rof_no x y w h
end Go.Proofs.Ythnjdncnmdmjaaa
