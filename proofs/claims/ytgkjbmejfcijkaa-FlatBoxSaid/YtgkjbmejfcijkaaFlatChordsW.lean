/-
  FlatChords, whatever tells the pieces, counts them and makes the chords. (Typed by a program: wip/gen_chords12.py.)
-/
import Derived.Test.YtgkjbmejfcijkaaLawWakes12
import Derived.Test.YtgkjbmejfcijkaaRefFlat
import Derived.Test.YtgkjbmejfcijkaaRefSame
import Derived.Test.YtgkjbmejfcijkaaRefChords
namespace Go.Proofs.Ytgkjbmejfcijkaa
open Go.RowKit Go.Shelf

/-- What Chords tells. -/
def ChordsOk : Prop := ∀ (c : Crv) (w : World), c.right → Calls Try.prog 15 #[c.val] w fun e w' => ∃ v, e = .returned v ∧ Edgs w.heap.size v (chords12 (pieces12 20 c)) w' ∧ Below w.heap.size w w'
theorem pieces12_big (c : Crv) : (pieces12 20 c).length ≤ 1048576 := Nat.le_trans (pieces12_le 20 c) (by decide)
set_option maxHeartbeats 8000000 in
set_option maxRecDepth 100000 in
theorem chords12_walk (PI : PiecesOk) (CO : CountOk) (CH : ChordsOk) (c : Crv) (w : World) : Calls Try.prog 4 #[c.val] w fun e w' => e = .returned (.bool true) ∧ Below w.heap.size w w' := by
  have K := Lib.hid (fun w => wakes12 PI CO w)
  have RR := Lib.hid (fun w => rright11 c w)
  by_cases hr : c.right
  · rw [decide_eq_true hr] at RR
    have RP := Lib.hid (fun w => rpieces12 20 c 4096 w (Nat.le_refl _) hr ⟨by decide, by decide⟩)
    rw [show (20 : Int) - ((20 : Nat) : Int) = 0 from by decide, show (4096 : Int).toNat = 4096 from by decide] at RP
    have CN := Lib.hid (fun w => CO c w hr)
    have CC := Lib.hid (fun w => CH c w hr)
    have hbig := pieces12_big c
    clear PI CO CH hr
    generalize pieces12 20 c = RES at *
    obtain ⟨px, py, qx, qy, rx, ry, sx, sy⟩ := c
    unfold Crv.val Crv.arr at *
    dsimp only at *
    have hmin : ((min 4096 RES.length : Nat) : Int) = ((RES.take 4096).length : Int) := by rw [List.length_take]
    rw [hmin] at CN
    clear hmin
    have hne : (((RES.take 4096).length : Int) != ((RES.take 4096).length : Int)) = false := by simp
    by_cases h4 : 4096 ≤ RES.length
    ·
      have hq : (((RES.take 4096).length : Int) == 4096) = true := by rw [beq_iff_eq, List.length_take]; omega
      have hl : (RES.take 4096).length ≤ 100000000 := by rw [List.length_take]; omega
      generalize RES.take 4096 = lw at *
      have k1 := CBox.new w 25 #[.int .i64 px, .int .i64 py, .int .i64 qx, .int .i64 qy, .int .i64 rx, .int .i64 ry, .int .i64 sx, .int .i64 sy]
      have HC0 := Lib.hid k1
      have HB0 := Lib.hid ((Below.refl w.heap.size w).alloc (Nat.le_refl _) (.cells #[.int .i64 px, .int .i64 py, .int .i64 qx, .int .i64 qy, .int .i64 rx, .int .i64 ry, .int .i64 sx, .int .i64 sy] 25))
      clear k1
      go_enter Try.func4, Try.ntmps4
      go_upto_region 1 with fail
      generalize w.alloc (.cells #[.int .i64 px, .int .i64 py, .int .i64 qx, .int .i64 qy, .int .i64 rx, .int .i64 ry, .int .i64 sx, .int .i64 sy] 25) = w1 at *
      go_wp2_with fail
      refine (K.out _).mono ?_
      rintro e w2 ⟨rfl, b1⟩
      have HB1 := Lib.hid (HB0.out.trans (b1.mono HB0.out.size))
      have HC1 := Lib.hid (HC0.out.next b1)
      clear b1
      go_upto_region 3 with fail
      have xC0 : w2.cell? ⟨w.heap.size, 0, none⟩ = some (.int .i64 px) := HC1.out.c 0 rfl
      have xC1 : w2.cell? ⟨w.heap.size, 1, none⟩ = some (.int .i64 py) := HC1.out.c 1 rfl
      have xC2 : w2.cell? ⟨w.heap.size, 2, none⟩ = some (.int .i64 qx) := HC1.out.c 2 rfl
      have xC3 : w2.cell? ⟨w.heap.size, 3, none⟩ = some (.int .i64 qy) := HC1.out.c 3 rfl
      have xC4 : w2.cell? ⟨w.heap.size, 4, none⟩ = some (.int .i64 rx) := HC1.out.c 4 rfl
      have xC5 : w2.cell? ⟨w.heap.size, 5, none⟩ = some (.int .i64 ry) := HC1.out.c 5 rfl
      have xC6 : w2.cell? ⟨w.heap.size, 6, none⟩ = some (.int .i64 sx) := HC1.out.c 6 rfl
      have xC7 : w2.cell? ⟨w.heap.size, 7, none⟩ = some (.int .i64 sy) := HC1.out.c 7 rfl
      go_wp2_with fail
      refine (RR.out _).mono ?_
      rintro e w3 ⟨rfl, b2⟩
      clear xC0 xC1 xC2 xC3 xC4 xC5 xC6 xC7
      have HB2 := Lib.hid (HB1.out.trans (b2.mono HB1.out.size))
      have HC2 := Lib.hid (HC1.out.next b2)
      clear b2
      have xC0 : w3.cell? ⟨w.heap.size, 0, none⟩ = some (.int .i64 px) := HC2.out.c 0 rfl
      have xC1 : w3.cell? ⟨w.heap.size, 1, none⟩ = some (.int .i64 py) := HC2.out.c 1 rfl
      have xC2 : w3.cell? ⟨w.heap.size, 2, none⟩ = some (.int .i64 qx) := HC2.out.c 2 rfl
      have xC3 : w3.cell? ⟨w.heap.size, 3, none⟩ = some (.int .i64 qy) := HC2.out.c 3 rfl
      have xC4 : w3.cell? ⟨w.heap.size, 4, none⟩ = some (.int .i64 rx) := HC2.out.c 4 rfl
      have xC5 : w3.cell? ⟨w.heap.size, 5, none⟩ = some (.int .i64 ry) := HC2.out.c 5 rfl
      have xC6 : w3.cell? ⟨w.heap.size, 6, none⟩ = some (.int .i64 sx) := HC2.out.c 6 rfl
      have xC7 : w3.cell? ⟨w.heap.size, 7, none⟩ = some (.int .i64 sy) := HC2.out.c 7 rfl
      go_wp2_with fail
      refine (RP.out _).mono ?_
      rintro e w4 ⟨v, rfl, hv, b3, _⟩
      obtain ⟨aA, cA, rfl, hcA⟩ := hv.shape
      have HV3 := Lib.hid hv
      clear hv
      clear xC0 xC1 xC2 xC3 xC4 xC5 xC6 xC7
      have HB3 := Lib.hid (HB2.out.trans (b3.mono HB2.out.size))
      have HC3 := Lib.hid (HC2.out.next b3)
      clear b3
      go_upto_region 6 with fail
      have xC0 : w4.cell? ⟨w.heap.size, 0, none⟩ = some (.int .i64 px) := HC3.out.c 0 rfl
      have xC1 : w4.cell? ⟨w.heap.size, 1, none⟩ = some (.int .i64 py) := HC3.out.c 1 rfl
      have xC2 : w4.cell? ⟨w.heap.size, 2, none⟩ = some (.int .i64 qx) := HC3.out.c 2 rfl
      have xC3 : w4.cell? ⟨w.heap.size, 3, none⟩ = some (.int .i64 qy) := HC3.out.c 3 rfl
      have xC4 : w4.cell? ⟨w.heap.size, 4, none⟩ = some (.int .i64 rx) := HC3.out.c 4 rfl
      have xC5 : w4.cell? ⟨w.heap.size, 5, none⟩ = some (.int .i64 ry) := HC3.out.c 5 rfl
      have xC6 : w4.cell? ⟨w.heap.size, 6, none⟩ = some (.int .i64 sx) := HC3.out.c 6 rfl
      have xC7 : w4.cell? ⟨w.heap.size, 7, none⟩ = some (.int .i64 sy) := HC3.out.c 7 rfl
      go_wp2_with fail
      refine (CN.out _).mono ?_
      rintro e w5 ⟨rfl, b4⟩
      clear xC0 xC1 xC2 xC3 xC4 xC5 xC6 xC7
      have HV4 := Lib.hid (HV3.out.next b4)
      have HB4 := Lib.hid (HB3.out.trans (b4.mono HB3.out.size))
      have HC4 := Lib.hid (HC3.out.next b4)
      clear b4
      go_wp2_with fail
      go_ret
      exact ⟨rfl, HB4.out⟩
    ·
      have e1 : RES.take 4096 = RES := List.take_of_length_le (by omega)
      rw [e1] at RP CN hne
      have hq : ((RES.length : Int) == 4096) = false := by rw [beq_eq_false_iff_ne]; omega
      clear e1
      have hl : RES.length ≤ 100000000 := by omega
      have hcl := chords12_len RES
      have k1 := CBox.new w 25 #[.int .i64 px, .int .i64 py, .int .i64 qx, .int .i64 qy, .int .i64 rx, .int .i64 ry, .int .i64 sx, .int .i64 sy]
      have HC0 := Lib.hid k1
      have HB0 := Lib.hid ((Below.refl w.heap.size w).alloc (Nat.le_refl _) (.cells #[.int .i64 px, .int .i64 py, .int .i64 qx, .int .i64 qy, .int .i64 rx, .int .i64 ry, .int .i64 sx, .int .i64 sy] 25))
      clear k1
      go_enter Try.func4, Try.ntmps4
      go_upto_region 1 with fail
      generalize w.alloc (.cells #[.int .i64 px, .int .i64 py, .int .i64 qx, .int .i64 qy, .int .i64 rx, .int .i64 ry, .int .i64 sx, .int .i64 sy] 25) = w1 at *
      go_wp2_with fail
      refine (K.out _).mono ?_
      rintro e w2 ⟨rfl, b1⟩
      have HB1 := Lib.hid (HB0.out.trans (b1.mono HB0.out.size))
      have HC1 := Lib.hid (HC0.out.next b1)
      clear b1
      go_upto_region 3 with fail
      have xC0 : w2.cell? ⟨w.heap.size, 0, none⟩ = some (.int .i64 px) := HC1.out.c 0 rfl
      have xC1 : w2.cell? ⟨w.heap.size, 1, none⟩ = some (.int .i64 py) := HC1.out.c 1 rfl
      have xC2 : w2.cell? ⟨w.heap.size, 2, none⟩ = some (.int .i64 qx) := HC1.out.c 2 rfl
      have xC3 : w2.cell? ⟨w.heap.size, 3, none⟩ = some (.int .i64 qy) := HC1.out.c 3 rfl
      have xC4 : w2.cell? ⟨w.heap.size, 4, none⟩ = some (.int .i64 rx) := HC1.out.c 4 rfl
      have xC5 : w2.cell? ⟨w.heap.size, 5, none⟩ = some (.int .i64 ry) := HC1.out.c 5 rfl
      have xC6 : w2.cell? ⟨w.heap.size, 6, none⟩ = some (.int .i64 sx) := HC1.out.c 6 rfl
      have xC7 : w2.cell? ⟨w.heap.size, 7, none⟩ = some (.int .i64 sy) := HC1.out.c 7 rfl
      go_wp2_with fail
      refine (RR.out _).mono ?_
      rintro e w3 ⟨rfl, b2⟩
      clear xC0 xC1 xC2 xC3 xC4 xC5 xC6 xC7
      have HB2 := Lib.hid (HB1.out.trans (b2.mono HB1.out.size))
      have HC2 := Lib.hid (HC1.out.next b2)
      clear b2
      have xC0 : w3.cell? ⟨w.heap.size, 0, none⟩ = some (.int .i64 px) := HC2.out.c 0 rfl
      have xC1 : w3.cell? ⟨w.heap.size, 1, none⟩ = some (.int .i64 py) := HC2.out.c 1 rfl
      have xC2 : w3.cell? ⟨w.heap.size, 2, none⟩ = some (.int .i64 qx) := HC2.out.c 2 rfl
      have xC3 : w3.cell? ⟨w.heap.size, 3, none⟩ = some (.int .i64 qy) := HC2.out.c 3 rfl
      have xC4 : w3.cell? ⟨w.heap.size, 4, none⟩ = some (.int .i64 rx) := HC2.out.c 4 rfl
      have xC5 : w3.cell? ⟨w.heap.size, 5, none⟩ = some (.int .i64 ry) := HC2.out.c 5 rfl
      have xC6 : w3.cell? ⟨w.heap.size, 6, none⟩ = some (.int .i64 sx) := HC2.out.c 6 rfl
      have xC7 : w3.cell? ⟨w.heap.size, 7, none⟩ = some (.int .i64 sy) := HC2.out.c 7 rfl
      go_wp2_with fail
      refine (RP.out _).mono ?_
      rintro e w4 ⟨v, rfl, hv, b3, _⟩
      obtain ⟨aA, cA, rfl, hcA⟩ := hv.shape
      have HV3 := Lib.hid hv
      clear hv
      clear xC0 xC1 xC2 xC3 xC4 xC5 xC6 xC7
      have HB3 := Lib.hid (HB2.out.trans (b3.mono HB2.out.size))
      have HC3 := Lib.hid (HC2.out.next b3)
      clear b3
      go_upto_region 6 with fail
      have xC0 : w4.cell? ⟨w.heap.size, 0, none⟩ = some (.int .i64 px) := HC3.out.c 0 rfl
      have xC1 : w4.cell? ⟨w.heap.size, 1, none⟩ = some (.int .i64 py) := HC3.out.c 1 rfl
      have xC2 : w4.cell? ⟨w.heap.size, 2, none⟩ = some (.int .i64 qx) := HC3.out.c 2 rfl
      have xC3 : w4.cell? ⟨w.heap.size, 3, none⟩ = some (.int .i64 qy) := HC3.out.c 3 rfl
      have xC4 : w4.cell? ⟨w.heap.size, 4, none⟩ = some (.int .i64 rx) := HC3.out.c 4 rfl
      have xC5 : w4.cell? ⟨w.heap.size, 5, none⟩ = some (.int .i64 ry) := HC3.out.c 5 rfl
      have xC6 : w4.cell? ⟨w.heap.size, 6, none⟩ = some (.int .i64 sx) := HC3.out.c 6 rfl
      have xC7 : w4.cell? ⟨w.heap.size, 7, none⟩ = some (.int .i64 sy) := HC3.out.c 7 rfl
      go_wp2_with fail
      refine (CN.out _).mono ?_
      rintro e w5 ⟨rfl, b4⟩
      clear xC0 xC1 xC2 xC3 xC4 xC5 xC6 xC7
      have HV4 := Lib.hid (HV3.out.next b4)
      have HB4 := Lib.hid (HB3.out.trans (b4.mono HB3.out.size))
      have HC4 := Lib.hid (HC3.out.next b4)
      clear b4
      go_upto_region 8 with fail
      have xC0 : w5.cell? ⟨w.heap.size, 0, none⟩ = some (.int .i64 px) := HC4.out.c 0 rfl
      have xC1 : w5.cell? ⟨w.heap.size, 1, none⟩ = some (.int .i64 py) := HC4.out.c 1 rfl
      have xC2 : w5.cell? ⟨w.heap.size, 2, none⟩ = some (.int .i64 qx) := HC4.out.c 2 rfl
      have xC3 : w5.cell? ⟨w.heap.size, 3, none⟩ = some (.int .i64 qy) := HC4.out.c 3 rfl
      have xC4 : w5.cell? ⟨w.heap.size, 4, none⟩ = some (.int .i64 rx) := HC4.out.c 4 rfl
      have xC5 : w5.cell? ⟨w.heap.size, 5, none⟩ = some (.int .i64 ry) := HC4.out.c 5 rfl
      have xC6 : w5.cell? ⟨w.heap.size, 6, none⟩ = some (.int .i64 sx) := HC4.out.c 6 rfl
      have xC7 : w5.cell? ⟨w.heap.size, 7, none⟩ = some (.int .i64 sy) := HC4.out.c 7 rfl
      go_wp2_with fail
      refine (CC.out _).mono ?_
      rintro e w6 ⟨v5, rfl, hv5, b5⟩
      obtain ⟨a5, c5, rfl, hc5⟩ := Lay8.own.shape hv5
      have HE5 := Lib.hid hv5
      clear hv5
      clear xC0 xC1 xC2 xC3 xC4 xC5 xC6 xC7
      have HV5 := Lib.hid (HV4.out.next b5)
      have HB5 := Lib.hid (HB4.out.trans (b5.mono HB4.out.size))
      clear b5
      go_wp2_with fail
      refine (rchords12 aA RES cA w6 hl HV5.out.rd).mono ?_
      rintro e w7 ⟨v6, rfl, hv6, b6⟩
      obtain ⟨a6, c6, rfl, hc6⟩ := Lay8.own.shape hv6
      have HF6 := Lib.hid hv6
      clear hv6
      have HE6 := Lib.hid (Lay8.own.next HE5.out b6)
      have HB6 := Lib.hid (HB5.out.trans (b6.mono HB5.out.size))
      clear b6
      go_wp2_with fail
      refine (rsame12 a5 a6 (chords12 RES) (chords12 RES) c5 c6 w7 (by omega) (Lay8.own.rd HE6.out) (Lay8.own.rd HF6.out)).mono ?_
      rintro e w8 ⟨rfl, b7⟩
      have HB7 := Lib.hid (HB6.out.trans (b7.mono HB6.out.size))
      clear b7
      rw [decide_eq_true rfl]
      go_wp2_with fail
      go_ret
      exact ⟨rfl, HB7.out⟩
  · rw [decide_eq_false hr] at RR
    clear hr PI CO CH
    obtain ⟨px, py, qx, qy, rx, ry, sx, sy⟩ := c
    unfold Crv.val Crv.arr at *
    dsimp only at *
    have k1 := CBox.new w 25 #[.int .i64 px, .int .i64 py, .int .i64 qx, .int .i64 qy, .int .i64 rx, .int .i64 ry, .int .i64 sx, .int .i64 sy]
    have HC0 := Lib.hid k1
    have HB0 := Lib.hid ((Below.refl w.heap.size w).alloc (Nat.le_refl _) (.cells #[.int .i64 px, .int .i64 py, .int .i64 qx, .int .i64 qy, .int .i64 rx, .int .i64 ry, .int .i64 sx, .int .i64 sy] 25))
    clear k1
    go_enter Try.func4, Try.ntmps4
    go_upto_region 1 with fail
    generalize w.alloc (.cells #[.int .i64 px, .int .i64 py, .int .i64 qx, .int .i64 qy, .int .i64 rx, .int .i64 ry, .int .i64 sx, .int .i64 sy] 25) = w1 at *
    go_wp2_with fail
    refine (K.out _).mono ?_
    rintro e w2 ⟨rfl, b1⟩
    have HB1 := Lib.hid (HB0.out.trans (b1.mono HB0.out.size))
    have HC1 := Lib.hid (HC0.out.next b1)
    clear b1
    go_upto_region 3 with fail
    have xC0 : w2.cell? ⟨w.heap.size, 0, none⟩ = some (.int .i64 px) := HC1.out.c 0 rfl
    have xC1 : w2.cell? ⟨w.heap.size, 1, none⟩ = some (.int .i64 py) := HC1.out.c 1 rfl
    have xC2 : w2.cell? ⟨w.heap.size, 2, none⟩ = some (.int .i64 qx) := HC1.out.c 2 rfl
    have xC3 : w2.cell? ⟨w.heap.size, 3, none⟩ = some (.int .i64 qy) := HC1.out.c 3 rfl
    have xC4 : w2.cell? ⟨w.heap.size, 4, none⟩ = some (.int .i64 rx) := HC1.out.c 4 rfl
    have xC5 : w2.cell? ⟨w.heap.size, 5, none⟩ = some (.int .i64 ry) := HC1.out.c 5 rfl
    have xC6 : w2.cell? ⟨w.heap.size, 6, none⟩ = some (.int .i64 sx) := HC1.out.c 6 rfl
    have xC7 : w2.cell? ⟨w.heap.size, 7, none⟩ = some (.int .i64 sy) := HC1.out.c 7 rfl
    go_wp2_with fail
    refine (RR.out _).mono ?_
    rintro e w3 ⟨rfl, b2⟩
    clear xC0 xC1 xC2 xC3 xC4 xC5 xC6 xC7
    have HB2 := Lib.hid (HB1.out.trans (b2.mono HB1.out.size))
    have HC2 := Lib.hid (HC1.out.next b2)
    clear b2
    go_wp2_with fail
    go_ret
    exact ⟨rfl, HB2.out⟩
end Go.Proofs.Ytgkjbmejfcijkaa
