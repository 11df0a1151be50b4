/-
  The contract of the document's answer for layer 1: Plain, the number, if it fits.
-/
import Derived.Test.YthnjdncnmdmjaaaAdd
import Derived.Test.YthnjdncnmdmjaaaPair
namespace Go.Proofs.Ythnjdncnmdmjaaa
open Go.RowKit Go.Shelf

theorem val_drop (zs : List Nat) (m : Nat) (h : m < zs.length) : val (zs.drop m) = zs.getD m 0 + 65536 * val (zs.drop (m + 1)) := by
  rw [List.drop_eq_getElem_cons h, val, List.getD_eq_getElem?_getD, List.getElem?_eq_getElem h]; rfl
theorem val_drop_le (zs : List Nat) (m : Nat) : val (zs.drop m) ≤ val zs := by
  conv => rhs; rw [← List.take_append_drop m zs]
  rw [val_append]
  have := Nat.le_mul_of_pos_left (val (zs.drop m)) (Nat.pow_pos (n := (zs.take m).length) (show 0 < 65536 by decide))
  omega

theorem fits_no (neg : Bool) (x : Nat) (h : 9223372036854775808 < x) : Pair (sgn neg x) = .tuple #[.int .i64 0, .bool false] := by
  refine pair_bad ?_
  unfold fits
  simp only [decide_eq_false_iff_not]
  cases neg <;> simp [sgn] <;> omega
theorem dg_long (x : Nat) (h : 4 < (dg x).length) : 9223372036854775808 < x := by
  refine Nat.lt_of_not_le fun hle => ?_
  have := dg_length 4 x (by omega)
  omega

set_option maxHeartbeats 2000000 in
theorem plain_any (neg : Bool) (x : Nat) (a : Option Addr) (cap : Nat) (w : World) (h : Row a (dg x) w) (hl : (dg x).length ≤ 100000000) :
    Calls Try.prog 74 #[.agg #[.bool neg, .slice a (dg x).length cap]] w fun e w' => e = .returned (Pair (sgn neg x)) ∧ Below w.heap.size w w' := by
  by_cases h4 : 4 < (dg x).length
  · rw [fits_no neg x (dg_long x h4)]
    clear h
    generalize (dg x).length = n at *
    go_enter Try.func74, Try.ntmps74
    go_wp2_with fail
    go_ret2
    exact ⟨rfl, (Below.refl _ _).alloc (Nat.le_refl _) _⟩
  · have HV := Lib.hid (val_dg x)
    have HS := Lib.hid (small_dg x)
    have HR := Lib.hid (h.alloc (.cells #[.bool neg, .slice a (dg x).length cap] 66))
    have HF := Lib.hid (fits_no neg x)
    clear h hl
    have hd4 : decide (4 < (dg x).length) = false := by simp; omega
    generalize dg x = zs at *
    go_enter Try.func74, Try.ntmps74
    go_wp2_with fail
    go_loop [4, 5] (fun v i => ∃ k T : Nat, k ≤ zs.length ∧ i = .int .i64 ((k : Int) - 1) ∧ v = .int .i64 (-(T : Int)) ∧ T ≤ 9223372036854775808 ∧ Hid (val (zs.drop k) = T)) (fun _ i => (intOf i + 1).toNat)
    case atStart => exact ⟨zs.length, 0, Nat.le_refl _, rfl, rfl, by omega, by unfold Hid; rw [List.drop_length]; rfl⟩
    case round =>
      obtain ⟨k, T, hk, rfl, rfl, hT, hd⟩ := hrel
      have t0 : (T : Int) ≤ 9223372036854775808 := by omega
      clear hT
      rcases Nat.eq_zero_or_pos k with rfl | hp
      · have ex : T = x := by have e := hd.out; rw [List.drop_zero, HV.out] at e; exact e.symm
        subst ex
        cases neg
        · by_cases hm : (T : Int) = 9223372036854775808
          · have te : (-(T : Int) == -9223372036854775808) = true := by rw [beq_iff_eq]; omega
            have te2 : ((T : Int) == 9223372036854775808) = true := by rw [beq_iff_eq]; omega
            have HP := Lib.hid (show Pair (sgn false T) = .tuple #[.int .i64 0, .bool false] from pair_bad (by unfold fits; simp [sgn]; omega))
            clear hm
            go_wp2_with fail
            go_ret2
            exact ⟨by rw [HP.out]; rfl, (Below.refl _ _).alloc (Nat.le_refl _) _⟩
          · have te : (-(T : Int) == -9223372036854775808) = false := by rw [beq_eq_false_iff_ne]; omega
            have te2 : ((T : Int) == 9223372036854775808) = false := by rw [beq_eq_false_iff_ne]; omega
            have HP := Lib.hid (show Pair (sgn false T) = .tuple #[.int .i64 (T : Int), .bool true] from pair_i64 (by unfold I64; simp [sgn]; omega))
            have t1 : (T : Int) ≤ 9223372036854775807 := by omega
            clear hm
            go_wp2_with fail
            go_ret2
            exact ⟨by rw [HP.out]; rfl, (Below.refl _ _).alloc (Nat.le_refl _) _⟩
        · have HP := Lib.hid (show Pair (sgn true T) = .tuple #[.int .i64 (-(T : Int)), .bool true] from pair_i64 (by unfold I64; simp [sgn]; omega))
          go_wp2_with fail
          go_ret2
          exact ⟨by rw [HP.out]; rfl, (Below.refl _ _).alloc (Nat.le_refl _) _⟩
      · obtain ⟨m, rfl⟩ : ∃ m, k = m + 1 := ⟨k - 1, by omega⟩
        obtain ⟨b1, o1, rfl, q1, hc1⟩ := HR.out.pos (k := m) (by omega)
        have g1 := hc1 m (by omega)
        have HD := Lib.hid (val_drop zs m (by omega))
        have HL := Lib.hid (val_drop_le zs m)
        have s1 := small_get HS.out m
        rw [hd.out] at HD
        clear hc1
        generalize zs.getD m 0 = d at *
        have i1 : (d : Int) ≤ 65535 := by omega
        by_cases b1 : -(T : Int) < -140737488355328
        · have HP := Lib.hid (HF.out (by have := HD.out; have := HL.out; have := HV.out; omega))
          go_wp2_with fail
          go_ret2
          exact ⟨by rw [HP.out]; rfl, (Below.refl _ _).alloc (Nat.le_refl _) _⟩
        · by_cases b2 : -(T : Int) * 65536 < -9223372036854775808 + d
          · have HP := Lib.hid (HF.out (by have := HD.out; have := HL.out; have := HV.out; omega))
            go_wp2_with fail
            go_ret2
            exact ⟨by rw [HP.out]; rfl, (Below.refl _ _).alloc (Nat.le_refl _) _⟩
          · go_wp2_with fail
            go_round
            case rel => exact ⟨m, d + 65536 * T, by omega, rfl, congrArg (Value.int .i64) (by omega), by omega, by unfold Hid; rw [HD.out]⟩
            case measure => simp [intOf]

theorem plain_z (v : Value) (z : Int) (w : World) (f : Fair z) (h : NumV v z w) :
    Calls Try.prog 74 #[v] w fun e w' => e = .returned (Pair z) ∧ Below w.heap.size w w' := by
  obtain ⟨n, x, a, c, rfl, r, _, _, rfl⟩ := h
  exact plain_any n x a c w r f.len
end Go.Proofs.Ythnjdncnmdmjaaa
