/-
  The document's answers of layer 11: floor, near, in, Point, Middle.
-/
import Derived.Test.YtgkjbmejfcijkaaJCv
import Derived.Test.YtgkjbmejfcijkaaJRet
import Derived.Deep.DeepCutAuto
namespace Go.Proofs.Ytgkjbmejfcijkaa
open Go.RowKit Go.Shelf

/-- Far within the numbers of 64 bits. -/
def In62 (a : Int) : Prop := -4611686018427387904 ≤ a ∧ a ≤ 4611686018427387904
theorem floor_bd {a b : Int} (ha : In62 a) (hb : 0 < b) : In62 (a / b) := by
  unfold In62 at *
  refine ⟨Int.le_ediv_of_mul_le hb (by omega), ?_⟩
  have : a / b < 4611686018427387905 := Int.ediv_lt_of_lt_mul hb (by omega)
  omega
theorem floor_cases (a : Int) {b : Int} (hb : 0 < b) : (a.tmod b < 0 ∧ a.tdiv b = a / b + 1) ∨ (¬ a.tmod b < 0 ∧ a.tdiv b = a / b) := by
  have h1 : b * a.tdiv b + a.tmod b = a := Int.mul_tdiv_add_tmod a b
  have h2 := Int.tmod_lt_of_pos a hb
  have h3 := Int.lt_tmod_of_pos a hb
  by_cases hl : a.tmod b < 0
  · refine Or.inl ⟨hl, ?_⟩
    have := ((Int.ediv_emod_unique (a := a) (r := a.tmod b + b) (q := a.tdiv b - 1) hb).2 ⟨by rw [Int.mul_sub, Int.mul_one]; omega, by omega, by omega⟩).1
    omega
  · refine Or.inr ⟨hl, ?_⟩
    exact ((Int.ediv_emod_unique (a := a) (r := a.tmod b) (q := a.tdiv b) hb).2 ⟨by omega, by omega, by omega⟩).1.symm
set_option maxHeartbeats 1000000 in
theorem rfloor11 (a b : Int) (w : World) (ha : In62 a) (hb : 0 < b) :
    Calls Try.prog 53 #[.int .i64 a, .int .i64 b] w fun e w' => e = .returned (.int .i64 (a / b)) ∧ w = w' := by
  have hne : b ≠ 0 := by omega
  have bd := floor_bd ha hb
  unfold In62 at bd
  rcases floor_cases a hb with ⟨hl, hq⟩ | ⟨hl, hq⟩
  · have e1 : wrap64 (a.tdiv b) = a.tdiv b := by unfold wrap64; omega
    have e2 : wrap64 (a.tdiv b - 1) = a / b := by unfold wrap64; omega
    obtain ⟨Q, hQ⟩ : ∃ Q, Q = a.tdiv b := ⟨_, rfl⟩
    rw [← hQ] at e2
    have e3 : wrap64 (a.tdiv b) = Q := by rw [hQ]; exact e1
    clear hq ha hb bd e1 hQ
    go_enter Try.func53, Try.ntmps53
    go_wp2_with fail
    go_ret
    exact ⟨congrArg (fun z => Ending.returned (Value.int IntKind.i64 z)) e2, rfl⟩
  · have e1 : wrap64 (a.tdiv b) = a / b := by unfold wrap64; omega
    clear hq ha hb bd
    go_enter Try.func53, Try.ntmps53
    go_wp2_with fail
    go_ret
    exact ⟨rfl, rfl⟩
theorem near_floor (a : Int) {b : Int} (hb : 0 < b) : (2 * a + b) / (2 * b) = near a b.toNat := by
  unfold near
  rw [show (b.toNat : Int) = b from by omega, ← Int.ediv_ediv_of_nonneg (by omega : (0:Int) ≤ 2)]
  congr 1
  omega
set_option maxHeartbeats 1000000 in
theorem rnear11 (a b : Int) (w : World) (ha : -2305843009213693952 ≤ 2 * a ∧ 2 * a ≤ 2305843009213693952) (hb : 0 < b) (hb2 : b ≤ 1048576) :
    Calls Try.prog 42 #[.int .i64 a, .int .i64 b] w fun e w' => e = .returned (.int .i64 (near a b.toNat)) ∧ w = w' := by
  have F := Lib.hid (fun w => rfloor11 (2 * a + b) (2 * b) w (by unfold In62; omega) (by omega))
  rw [near_floor a hb] at F
  have e1 : wrap64 (2 * a) = 2 * a := by unfold wrap64; omega
  have e2 : wrap64 (2 * a + b) = 2 * a + b := by unfold wrap64; omega
  have e3 : wrap64 (2 * b) = 2 * b := by unfold wrap64; omega
  generalize near a b.toNat = z at *
  clear ha hb hb2
  go_enter Try.func42, Try.ntmps42
  go_wp2_with fail
  refine (F.out _).mono ?_
  rintro e w1 ⟨rfl, rfl⟩
  go_wp2_with fail
  go_ret
  exact ⟨rfl, rfl⟩
/-- A number of a right curve. -/
theorem rin11 (n : Int) (w : World) : Calls Try.prog 33 #[.int .i64 n] w fun e w' => e = .returned (.bool (decide (In40 n))) ∧ w = w' := by
  by_cases h1 : -1099511627776 ≤ n
  · by_cases h2 : n ≤ 1099511627776
    · rw [decide_eq_true (show In40 n from ⟨h1, h2⟩)]
      go_enter Try.func33, Try.ntmps33
      go_wp2_with fail
      go_ret
      exact ⟨rfl, rfl⟩
    · rw [decide_eq_false (show ¬ In40 n from fun h => h2 h.2)]
      go_enter Try.func33, Try.ntmps33
      go_wp2_with fail
      go_ret
      exact ⟨rfl, rfl⟩
  · rw [decide_eq_false (show ¬ In40 n from fun h => h1 h.1)]
    go_enter Try.func33, Try.ntmps33
    go_wp2_with fail
    go_ret
    exact ⟨rfl, rfl⟩
/-- A point of a right curve. -/
def Pt40 (x y : Int) : Prop := In40 x ∧ In40 y
instance (x y : Int) : Decidable (Pt40 x y) := by unfold Pt40; exact inferInstance
set_option maxHeartbeats 1000000 in
theorem rpoint11 (x y : Int) (w : World) : Calls Try.prog 21 #[.agg #[.int .i64 x, .int .i64 y]] w fun e w' => e = .returned (.bool (decide (Pt40 x y))) ∧ Below w.heap.size w w' := by
  have I1 := Lib.hid (fun w => rin11 x w)
  have I2 := Lib.hid (fun w => rin11 y w)
  have HB0 := Lib.hid ((Below.refl w.heap.size w).alloc (Nat.le_refl _) (.cells #[.int .i64 x, .int .i64 y] 23))
  have HP0 := Lib.hid (PBox.new w x y)
  by_cases h1 : In40 x
  · by_cases h2 : In40 y
    · rw [decide_eq_true (show Pt40 x y from ⟨h1, h2⟩)]
      rw [decide_eq_true h1] at I1
      rw [decide_eq_true h2] at I2
      clear h1 h2
      go_enter Try.func21, Try.ntmps21
      go_upto_region 1 with fail
      generalize w.alloc (.cells #[.int .i64 x, .int .i64 y] 23) = w1 at *
      have z0 := HP0.out.c0; have z1 := HP0.out.c1
      go_wp2_with fail
      refine (I1.out _).mono ?_
      rintro e w2 ⟨rfl, rfl⟩
      go_wp2_with fail
      refine (I2.out _).mono ?_
      rintro e w2 ⟨rfl, rfl⟩
      go_wp2_with fail
      go_ret
      exact ⟨rfl, HB0.out⟩
    · rw [decide_eq_false (show ¬ Pt40 x y from fun h => h2 h.2)]
      rw [decide_eq_true h1] at I1
      rw [decide_eq_false h2] at I2
      clear h1 h2
      go_enter Try.func21, Try.ntmps21
      go_upto_region 1 with fail
      generalize w.alloc (.cells #[.int .i64 x, .int .i64 y] 23) = w1 at *
      have z0 := HP0.out.c0; have z1 := HP0.out.c1
      go_wp2_with fail
      refine (I1.out _).mono ?_
      rintro e w2 ⟨rfl, rfl⟩
      go_wp2_with fail
      refine (I2.out _).mono ?_
      rintro e w2 ⟨rfl, rfl⟩
      go_wp2_with fail
      go_ret
      exact ⟨rfl, HB0.out⟩
  · rw [decide_eq_false (show ¬ Pt40 x y from fun h => h1 h.1)]
    rw [decide_eq_false h1] at I1
    clear h1
    go_enter Try.func21, Try.ntmps21
    go_upto_region 1 with fail
    generalize w.alloc (.cells #[.int .i64 x, .int .i64 y] 23) = w1 at *
    have z0 := HP0.out.c0; have z1 := HP0.out.c1
    go_wp2_with fail
    refine (I1.out _).mono ?_
    rintro e w2 ⟨rfl, rfl⟩
    go_wp2_with fail
    go_ret
    exact ⟨rfl, HB0.out⟩
set_option maxHeartbeats 1000000 in
theorem rbent11 (a b c : Int) (w : World) (ha : In40 a) (hb : In40 b) (hc : In40 c) : Calls Try.prog 29 #[.int .i64 a, .int .i64 b, .int .i64 c] w fun e w' => e = .returned (.bool (decide (bentF a b c))) ∧ w = w' := by
  unfold In40 at ha hb hc
  have e1 : wrap64 (2 * b) = 2 * b := by unfold wrap64; omega
  have e2 : wrap64 (a - 2 * b) = a - 2 * b := by unfold wrap64; omega
  have e3 : wrap64 (a - 2 * b + c) = a - 2 * b + c := by unfold wrap64; omega
  clear ha hb hc
  by_cases h1 : a - 2 * b + c ≤ 512
  · by_cases h2 : -512 ≤ a - 2 * b + c
    · rw [decide_eq_true (show bentF a b c from ⟨h1, h2⟩)]
      go_enter Try.func29, Try.ntmps29
      go_wp2_with fail
      go_ret
      exact ⟨rfl, rfl⟩
    · rw [decide_eq_false (show ¬ bentF a b c from fun h => h2 h.2)]
      go_enter Try.func29, Try.ntmps29
      go_wp2_with fail
      go_ret
      exact ⟨rfl, rfl⟩
  · rw [decide_eq_false (show ¬ bentF a b c from fun h => h1 h.1)]
    go_enter Try.func29, Try.ntmps29
    go_wp2_with fail
    go_ret
    exact ⟨rfl, rfl⟩
end Go.Proofs.Ytgkjbmejfcijkaa
