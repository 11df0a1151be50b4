/-
  The document's answers of layer 12: Pieces.
-/
import Derived.Test.YtgkjbmejfcijkaaJRow
import Derived.Test.YtgkjbmejfcijkaaRefCrvC
import Derived.Test.YtgkjbmejfcijkaaRefCrvF
import Derived.Test.YtgkjbmejfcijkaaJCv
namespace Go.Proofs.Ytgkjbmejfcijkaa
open Go.RowKit Go.Shelf

/-- A row of curves is told. -/
def GivesK (l : List Crv) (w : World) (e : Ending) (w' : World) : Prop := ∃ v, e = .returned v ∧ Crvs w.heap.size v l w' ∧ Below w.heap.size w w' ∧ (l = [] → v = .slice none 0 0)
theorem take_len (n m : Nat) (c : Crv) (hn : n ≤ 20) : ((pieces12 n c).take m).length ≤ 1048576 := by
  have h := pieces12_le n c
  have h2 : 2 ^ n ≤ 2 ^ 20 := Nat.pow_le_pow_right (by decide) hn
  rw [List.length_take]; omega
set_option maxHeartbeats 8000000 in
set_option maxRecDepth 100000 in
theorem rpieces12 : ∀ (n : Nat) (c : Crv) (m : Int) (w : World), n ≤ 20 → c.right → I64 m →
    Calls Try.prog 10 #[c.val, .int .i64 (20 - (n : Int)), .int .i64 m] w (GivesK ((pieces12 n c).take m.toNat) w) := by
  intro n
  induction n with
  | zero =>
    intro c m w hn hc hm
    by_cases h0 : m ≤ 0
    · rw [show m.toNat = 0 from by omega, List.take_zero]
      obtain ⟨px, py, qx, qy, rx, ry, sx, sy⟩ := c
      unfold Crv.val Crv.arr
      dsimp only
      have HB0 := Lib.hid ((Below.refl w.heap.size w).alloc (Nat.le_refl _) (.cells #[.int .i64 px, .int .i64 py, .int .i64 qx, .int .i64 qy, .int .i64 rx, .int .i64 ry, .int .i64 sx, .int .i64 sy] 25))
      go_enter Try.func10, Try.ntmps10
      go_wp2_with fail
      go_ret
      exact ⟨_, rfl, Crvs.nil _ _, HB0.out, fun _ => rfl⟩
    · rw [show (pieces12 0 c).take m.toNat = [c] from by unfold pieces12; rw [List.take_of_length_le (by simp; omega)]]
      have ez : ((0 : Nat) : Int) = 0 := rfl
      rw [ez]
      have HC1 := Lib.hid (CBox.new w 25 c.arr)
      have HB0 := Lib.hid ((Below.refl w.heap.size w).alloc (Nat.le_refl _) (.cells c.arr 25))
      have H1 := Lib.hid (fun (W : World) (h : Below w.heap.size w W) => Crvs.one W c h.size)
      obtain ⟨px, py, qx, qy, rx, ry, sx, sy⟩ := c
      unfold Crv.val
      unfold Crv.arr at *
      dsimp only at *
      clear hm hc
      go_enter Try.func10, Try.ntmps10
      go_upto_region 1 with fail
      generalize w.alloc (.cells #[.int .i64 px, .int .i64 py, .int .i64 qx, .int .i64 qy, .int .i64 rx, .int .i64 ry, .int .i64 sx, .int .i64 sy] 25) = w1 at *
      have xC0 : w1.cell? ⟨w.heap.size, 0, none⟩ = some (.int .i64 px) := HC1.out.c 0 rfl
      have xC1 : w1.cell? ⟨w.heap.size, 1, none⟩ = some (.int .i64 py) := HC1.out.c 1 rfl
      have xC2 : w1.cell? ⟨w.heap.size, 2, none⟩ = some (.int .i64 qx) := HC1.out.c 2 rfl
      have xC3 : w1.cell? ⟨w.heap.size, 3, none⟩ = some (.int .i64 qy) := HC1.out.c 3 rfl
      have xC4 : w1.cell? ⟨w.heap.size, 4, none⟩ = some (.int .i64 rx) := HC1.out.c 4 rfl
      have xC5 : w1.cell? ⟨w.heap.size, 5, none⟩ = some (.int .i64 ry) := HC1.out.c 5 rfl
      have xC6 : w1.cell? ⟨w.heap.size, 6, none⟩ = some (.int .i64 sx) := HC1.out.c 6 rfl
      have xC7 : w1.cell? ⟨w.heap.size, 7, none⟩ = some (.int .i64 sy) := HC1.out.c 7 rfl
      go_wp2_with fail
      go_ret
      exact ⟨_, rfl, H1.out _ HB0.out, HB0.out.alloc HB0.out.size _, fun h => by cases h⟩
  | succ n ih =>
    intro c m w hn hc hm
    obtain ⟨k, hk⟩ : ∃ k : Int, k = 20 - ((n + 1 : Nat) : Int) := ⟨_, rfl⟩
    rw [← hk]
    have k20 : (k == 20) = false := by rw [beq_eq_false_iff_ne]; omega
    have kw : wrap64 (k + 1) = 20 - (n : Int) := by unfold wrap64; omega
    by_cases h0 : m ≤ 0
    · rw [show m.toNat = 0 from by omega, List.take_zero]
      obtain ⟨px, py, qx, qy, rx, ry, sx, sy⟩ := c
      unfold Crv.val Crv.arr
      dsimp only
      clear ih kw hk
      have HB0 := Lib.hid ((Below.refl w.heap.size w).alloc (Nat.le_refl _) (.cells #[.int .i64 px, .int .i64 py, .int .i64 qx, .int .i64 qy, .int .i64 rx, .int .i64 ry, .int .i64 sx, .int .i64 sy] 25))
      go_enter Try.func10, Try.ntmps10
      go_wp2_with fail
      go_ret
      exact ⟨_, rfl, Crvs.nil _ _, HB0.out, fun _ => rfl⟩
    · have RF := Lib.hid (fun w => rflat11 c w hc)
      by_cases hf : c.flat
      · rw [decide_eq_true hf] at RF
        rw [pieces12_flat hf, show [c].take m.toNat = [c] from by rw [List.take_of_length_le (by simp; omega)]]
        have H1 := Lib.hid (fun (W : World) (h : Below w.heap.size w W) => Crvs.one W c h.size)
        clear ih kw hk hf hc hm
        obtain ⟨px, py, qx, qy, rx, ry, sx, sy⟩ := c
        unfold Crv.val at *
        unfold Crv.arr at *
        dsimp only at *
        have HC0 := Lib.hid (CBox.new w 25 #[.int .i64 px, .int .i64 py, .int .i64 qx, .int .i64 qy, .int .i64 rx, .int .i64 ry, .int .i64 sx, .int .i64 sy])
        have HB0 := Lib.hid ((Below.refl w.heap.size w).alloc (Nat.le_refl _) (.cells #[.int .i64 px, .int .i64 py, .int .i64 qx, .int .i64 qy, .int .i64 rx, .int .i64 ry, .int .i64 sx, .int .i64 sy] 25))
        go_enter Try.func10, Try.ntmps10
        go_upto_region 1 with fail
        generalize w.alloc (.cells #[.int .i64 px, .int .i64 py, .int .i64 qx, .int .i64 qy, .int .i64 rx, .int .i64 ry, .int .i64 sx, .int .i64 sy] 25) = w1 at *
        have xC0 : w1.cell? ⟨w.heap.size, 0, none⟩ = some (.int .i64 px) := HC0.out.c 0 rfl
        have xC1 : w1.cell? ⟨w.heap.size, 1, none⟩ = some (.int .i64 py) := HC0.out.c 1 rfl
        have xC2 : w1.cell? ⟨w.heap.size, 2, none⟩ = some (.int .i64 qx) := HC0.out.c 2 rfl
        have xC3 : w1.cell? ⟨w.heap.size, 3, none⟩ = some (.int .i64 qy) := HC0.out.c 3 rfl
        have xC4 : w1.cell? ⟨w.heap.size, 4, none⟩ = some (.int .i64 rx) := HC0.out.c 4 rfl
        have xC5 : w1.cell? ⟨w.heap.size, 5, none⟩ = some (.int .i64 ry) := HC0.out.c 5 rfl
        have xC6 : w1.cell? ⟨w.heap.size, 6, none⟩ = some (.int .i64 sx) := HC0.out.c 6 rfl
        have xC7 : w1.cell? ⟨w.heap.size, 7, none⟩ = some (.int .i64 sy) := HC0.out.c 7 rfl
        go_wp2_with fail
        refine (RF.out _).mono ?_
        rintro e w2 ⟨rfl, b1⟩
        clear xC0 xC1 xC2 xC3 xC4 xC5 xC6 xC7
        have HB1 := Lib.hid (HB0.out.trans (b1.mono HB0.out.size))
        have HC1 := Lib.hid (HC0.out.next b1)
        clear b1
        
        have xC0 : w2.cell? ⟨w.heap.size, 0, none⟩ = some (.int .i64 px) := HC1.out.c 0 rfl
        have xC1 : w2.cell? ⟨w.heap.size, 1, none⟩ = some (.int .i64 py) := HC1.out.c 1 rfl
        have xC2 : w2.cell? ⟨w.heap.size, 2, none⟩ = some (.int .i64 qx) := HC1.out.c 2 rfl
        have xC3 : w2.cell? ⟨w.heap.size, 3, none⟩ = some (.int .i64 qy) := HC1.out.c 3 rfl
        have xC4 : w2.cell? ⟨w.heap.size, 4, none⟩ = some (.int .i64 rx) := HC1.out.c 4 rfl
        have xC5 : w2.cell? ⟨w.heap.size, 5, none⟩ = some (.int .i64 ry) := HC1.out.c 5 rfl
        have xC6 : w2.cell? ⟨w.heap.size, 6, none⟩ = some (.int .i64 sx) := HC1.out.c 6 rfl
        have xC7 : w2.cell? ⟨w.heap.size, 7, none⟩ = some (.int .i64 sy) := HC1.out.c 7 rfl
        go_wp2_with fail
        go_ret
        exact ⟨_, rfl, H1.out _ HB1.out, HB1.out.alloc HB1.out.size _, fun h => by cases h⟩
      · rw [decide_eq_false hf] at RF
        have CU := Lib.hid (fun w => rcut11 c w hc)
        have PA := Lib.hid (fun w => ih c.cutA m w (by omega) (right_cutA hc) hm)
        have LT := take_len n m.toNat c.cutA (by omega)
        have LP := pieces12_pos n c.cutA
        have PB := Lib.hid (fun w => ih c.cutB (m - ((((pieces12 n c.cutA).take m.toNat).length : Nat) : Int)) w (by omega) (right_cutB hc) (by unfold I64 at *; omega))
        have hlA : 0 < ((pieces12 n c.cutA).take m.toNat).length := by rw [List.length_take]; omega
        have LB := take_len n (m.toNat - ((pieces12 n c.cutA).take m.toNat).length) c.cutB (by omega)
        have LQ := pieces12_pos n c.cutB
        rw [← take_pieces hf]
        have e1 : (m - ((((pieces12 n c.cutA).take m.toNat).length : Nat) : Int)).toNat = m.toNat - ((pieces12 n c.cutA).take m.toNat).length := by omega
        rw [e1] at PB
        have LC : m ≤ ((((pieces12 n c.cutA).take m.toNat).length : Nat) : Int) → (pieces12 n c.cutB).take (m.toNat - ((pieces12 n c.cutA).take m.toNat).length) = [] := fun h => by
          rw [show m.toNat - ((pieces12 n c.cutA).take m.toNat).length = 0 from by omega, List.take_zero]
        have LD : ¬ m ≤ ((((pieces12 n c.cutA).take m.toNat).length : Nat) : Int) → 0 < ((pieces12 n c.cutB).take (m.toNat - ((pieces12 n c.cutA).take m.toNat).length)).length := fun h => by
          rw [List.length_take]; omega
        clear e1
        generalize c.cutA = ca at *
        generalize c.cutB = cb at *
        generalize (pieces12 n cb).take (m.toNat - ((pieces12 n ca).take m.toNat).length) = lB at *
        generalize (pieces12 n ca).take m.toNat = lA at *
        have mw : wrap64 (m - (lA.length : Int)) = m - (lA.length : Int) := by unfold I64 at hm; unfold wrap64; omega
        obtain ⟨md, hmd⟩ : ∃ d, d = m - (lA.length : Int) := ⟨_, rfl⟩
        rw [← hmd] at PB
        replace mw : wrap64 (m - (lA.length : Int)) = md := by rw [hmd]; exact mw
        clear ih hf hc hm LP LQ hmd hk
        rw [← kw] at PA PB
        obtain ⟨kk, hkk⟩ : ∃ d, d = wrap64 (k + 1) := ⟨_, rfl⟩
        rw [← hkk] at PA PB
        replace kw : wrap64 (k + 1) = kk := hkk.symm
        clear hkk
        obtain ⟨px, py, qx, qy, rx, ry, sx, sy⟩ := c
        obtain ⟨a0, a1, a2, a3, a4, a5, a6, a7⟩ := ca
        obtain ⟨f0, f1, f2, f3, f4, f5, f6, f7⟩ := cb
        unfold Crv.val at *
        unfold Crv.arr at *
        dsimp only at *
        have HC0 := Lib.hid (CBox.new w 25 #[.int .i64 px, .int .i64 py, .int .i64 qx, .int .i64 qy, .int .i64 rx, .int .i64 ry, .int .i64 sx, .int .i64 sy])
        have HB0 := Lib.hid ((Below.refl w.heap.size w).alloc (Nat.le_refl _) (.cells #[.int .i64 px, .int .i64 py, .int .i64 qx, .int .i64 qy, .int .i64 rx, .int .i64 ry, .int .i64 sx, .int .i64 sy] 25))
        go_enter Try.func10, Try.ntmps10
        go_upto_region 1 with fail
        generalize w.alloc (.cells #[.int .i64 px, .int .i64 py, .int .i64 qx, .int .i64 qy, .int .i64 rx, .int .i64 ry, .int .i64 sx, .int .i64 sy] 25) = w1 at *
        have xC0 : w1.cell? ⟨w.heap.size, 0, none⟩ = some (.int .i64 px) := HC0.out.c 0 rfl
        have xC1 : w1.cell? ⟨w.heap.size, 1, none⟩ = some (.int .i64 py) := HC0.out.c 1 rfl
        have xC2 : w1.cell? ⟨w.heap.size, 2, none⟩ = some (.int .i64 qx) := HC0.out.c 2 rfl
        have xC3 : w1.cell? ⟨w.heap.size, 3, none⟩ = some (.int .i64 qy) := HC0.out.c 3 rfl
        have xC4 : w1.cell? ⟨w.heap.size, 4, none⟩ = some (.int .i64 rx) := HC0.out.c 4 rfl
        have xC5 : w1.cell? ⟨w.heap.size, 5, none⟩ = some (.int .i64 ry) := HC0.out.c 5 rfl
        have xC6 : w1.cell? ⟨w.heap.size, 6, none⟩ = some (.int .i64 sx) := HC0.out.c 6 rfl
        have xC7 : w1.cell? ⟨w.heap.size, 7, none⟩ = some (.int .i64 sy) := HC0.out.c 7 rfl
        go_wp2_with fail
        refine (RF.out _).mono ?_
        rintro e w2 ⟨rfl, b1⟩
        clear xC0 xC1 xC2 xC3 xC4 xC5 xC6 xC7
        have HB1 := Lib.hid (HB0.out.trans (b1.mono HB0.out.size))
        have HC1 := Lib.hid (HC0.out.next b1)
        clear b1
        have xC0 : w2.cell? ⟨w.heap.size, 0, none⟩ = some (.int .i64 px) := HC1.out.c 0 rfl
        have xC1 : w2.cell? ⟨w.heap.size, 1, none⟩ = some (.int .i64 py) := HC1.out.c 1 rfl
        have xC2 : w2.cell? ⟨w.heap.size, 2, none⟩ = some (.int .i64 qx) := HC1.out.c 2 rfl
        have xC3 : w2.cell? ⟨w.heap.size, 3, none⟩ = some (.int .i64 qy) := HC1.out.c 3 rfl
        have xC4 : w2.cell? ⟨w.heap.size, 4, none⟩ = some (.int .i64 rx) := HC1.out.c 4 rfl
        have xC5 : w2.cell? ⟨w.heap.size, 5, none⟩ = some (.int .i64 ry) := HC1.out.c 5 rfl
        have xC6 : w2.cell? ⟨w.heap.size, 6, none⟩ = some (.int .i64 sx) := HC1.out.c 6 rfl
        have xC7 : w2.cell? ⟨w.heap.size, 7, none⟩ = some (.int .i64 sy) := HC1.out.c 7 rfl
        go_wp2_with fail
        refine (CU.out _).mono ?_
        rintro e w3 ⟨rfl, b2⟩
        clear xC0 xC1 xC2 xC3 xC4 xC5 xC6 xC7
        have HB2 := Lib.hid (HB1.out.trans (b2.mono HB1.out.size))
        have HC2 := Lib.hid (HC1.out.next b2)
        clear b2
        obtain ⟨k1, k2, k3⟩ := boxes_two w3 #[.int .i64 a0, .int .i64 a1, .int .i64 a2, .int .i64 a3, .int .i64 a4, .int .i64 a5, .int .i64 a6, .int .i64 a7] #[.int .i64 f0, .int .i64 f1, .int .i64 f2, .int .i64 f3, .int .i64 f4, .int .i64 f5, .int .i64 f6, .int .i64 f7] 25 25
        have b3 := k3
        have HB3 := Lib.hid (HB2.out.trans (b3.mono HB2.out.size))
        have HC3 := Lib.hid (HC2.out.next b3)
        clear b3
        have HA3 := Lib.hid k1; have HD3 := Lib.hid k2
        clear k1 k2 k3
        go_upto_region 6 with fail
        generalize ((w3.alloc (.cells #[.int .i64 a0, .int .i64 a1, .int .i64 a2, .int .i64 a3, .int .i64 a4, .int .i64 a5, .int .i64 a6, .int .i64 a7] 25)).alloc (.cells #[.int .i64 f0, .int .i64 f1, .int .i64 f2, .int .i64 f3, .int .i64 f4, .int .i64 f5, .int .i64 f6, .int .i64 f7] 25)) = w4 at *
        generalize w3.heap.size = aq at *
        have xA0 : w4.cell? ⟨aq, 0, none⟩ = some (.int .i64 a0) := HA3.out.c 0 rfl
        have xA1 : w4.cell? ⟨aq, 1, none⟩ = some (.int .i64 a1) := HA3.out.c 1 rfl
        have xA2 : w4.cell? ⟨aq, 2, none⟩ = some (.int .i64 a2) := HA3.out.c 2 rfl
        have xA3 : w4.cell? ⟨aq, 3, none⟩ = some (.int .i64 a3) := HA3.out.c 3 rfl
        have xA4 : w4.cell? ⟨aq, 4, none⟩ = some (.int .i64 a4) := HA3.out.c 4 rfl
        have xA5 : w4.cell? ⟨aq, 5, none⟩ = some (.int .i64 a5) := HA3.out.c 5 rfl
        have xA6 : w4.cell? ⟨aq, 6, none⟩ = some (.int .i64 a6) := HA3.out.c 6 rfl
        have xA7 : w4.cell? ⟨aq, 7, none⟩ = some (.int .i64 a7) := HA3.out.c 7 rfl
        go_wp2_with fail
        refine (PA.out _).mono ?_
        rintro e w6 ⟨vA, rfl, ha, b5, _⟩
        obtain ⟨aA, cA, rfl, hcA⟩ := ha.shape
        have HA := Lib.hid ha
        clear xA0 xA1 xA2 xA3 xA4 xA5 xA6 xA7
        have HB5 := Lib.hid (HB3.out.trans (b5.mono HB3.out.size))
        have HC5 := Lib.hid (HC3.out.next b5)
        have HA5 := Lib.hid (HA3.out.next b5)
        have HD5 := Lib.hid (HD3.out.next b5)
        clear b5
        clear ha
        have xD0 : w6.cell? ⟨aq + 1, 0, none⟩ = some (.int .i64 f0) := HD5.out.c 0 rfl
        have xD1 : w6.cell? ⟨aq + 1, 1, none⟩ = some (.int .i64 f1) := HD5.out.c 1 rfl
        have xD2 : w6.cell? ⟨aq + 1, 2, none⟩ = some (.int .i64 f2) := HD5.out.c 2 rfl
        have xD3 : w6.cell? ⟨aq + 1, 3, none⟩ = some (.int .i64 f3) := HD5.out.c 3 rfl
        have xD4 : w6.cell? ⟨aq + 1, 4, none⟩ = some (.int .i64 f4) := HD5.out.c 4 rfl
        have xD5 : w6.cell? ⟨aq + 1, 5, none⟩ = some (.int .i64 f5) := HD5.out.c 5 rfl
        have xD6 : w6.cell? ⟨aq + 1, 6, none⟩ = some (.int .i64 f6) := HD5.out.c 6 rfl
        have xD7 : w6.cell? ⟨aq + 1, 7, none⟩ = some (.int .i64 f7) := HD5.out.c 7 rfl
        go_wp2_with fail
        refine (PB.out _).mono ?_
        rintro e w7 ⟨vB, rfl, hb, b6, hnil⟩
        obtain ⟨aB, cB, rfl, hcB⟩ := hb.shape
        have HBr := Lib.hid hb
        have HA7 := Lib.hid (HA.out.next b6)
        have s67 := b6.size
        have s56 := HB5.out.size
        clear xD0 xD1 xD2 xD3 xD4 xD5 xD6 xD7
        have HB6 := Lib.hid (HB5.out.trans (b6.mono HB5.out.size))
        clear b6
        clear hb
        have HAw := Lib.hid (HA7.out.low (R' := w.heap.size) (by have := HB3.out.size; omega))
        by_cases hz : m ≤ (lA.length : Int)
        · obtain rfl := LC hz
          obtain ⟨rfl, rfl⟩ : aB = none ∧ cB = 0 := by have h := hnil rfl; injection h with h1 _ h3; exact ⟨h1, h3⟩
          go_wp2_with (first | (at_builtin; refine append_none _ (by rfl) (.tmp 30) (.tmp 38) rfl HAw.out rfl rfl ?_))
          go_ret
          exact ⟨_, rfl, by rw [List.append_nil]; exact HAw.out, HB6.out, fun h => by rw [List.append_nil] at h; rw [h] at hlA; exact absurd hlA (by decide)⟩
        · have hpos := LD (by omega)
          go_wp2_with (first | (at_builtin; refine append_crvs _ (by rfl) (.tmp 30) (.tmp 38) rfl HAw.out rfl HBr.out rfl hpos (by omega) (by omega) ?_; intro v2 w8 hown hg))
          go_ret
          exact ⟨_, rfl, hown, HB6.out.trans (HAw.out.below hg (by omega)), fun h => by rw [List.append_eq_nil_iff] at h; rw [h.1] at hlA; exact absurd hlA (by decide)⟩
end Go.Proofs.Ytgkjbmejfcijkaa
