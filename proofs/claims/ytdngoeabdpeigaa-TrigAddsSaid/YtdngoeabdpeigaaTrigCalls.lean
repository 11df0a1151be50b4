/-
  The contracts of package trig's calls: Quarter, Both, Sin, Cos, of any number of degrees; the document's examples.
-/
import Derived.Test.YtdngoeabdpeigaaTrigFn
namespace Go.Proofs.Ytdngoeabdpeigaa
open Go.RowKit Go.Shelf

theorem turned_any (q : Nat) (s c : Int) (w : World) (hq : q < 4) (hs : -1073741824 ≤ s ∧ s ≤ 1073741824) (hc : -1073741824 ≤ c ∧ c ≤ 1073741824) :
    Calls Try.prog 16 #[.int .i64 (q : Int), .int .i64 s, .int .i64 c] w fun e w' => e = .returned (.tuple #[.int .i64 (rotS q s c), .int .i64 (rotC q s c)]) ∧ w = w' := by
  have h : q = 0 ∨ q = 1 ∨ q = 2 ∨ q = 3 := by omega
  rcases h with rfl | rfl | rfl | rfl
  all_goals
    go_enter Try.func16, Try.ntmps16
    go_wp2_with fail
    go_ret2
    exact ⟨rfl, rfl⟩

/-- What Go leaves over has the sign of d. -/
theorem turn_neg (d : Int) (h : d.tmod 23592960 < 0) : d.tmod 23592960 + 23592960 = d % 23592960 ∧ d % 23592960 < 23592960 ∧ 0 ≤ d % 23592960 := by
  have e := Int.tmod_eq_emod (a := d) (b := 23592960)
  refine ⟨?_, by omega, by omega⟩
  by_cases hd : 0 ≤ d ∨ (23592960 : Int) ∣ d
  · rw [if_pos hd] at e; omega
  · rw [if_neg hd] at e; omega
theorem turn_pos (d : Int) (h : 0 ≤ d.tmod 23592960) : d.tmod 23592960 = d % 23592960 ∧ d.tmod 5898240 = d % 5898240 := by
  have e := Int.tmod_eq_emod (a := d) (b := 23592960)
  have e2 := Int.tmod_eq_emod (a := d) (b := 5898240)
  by_cases hd : 0 ≤ d ∨ (23592960 : Int) ∣ d
  · rw [if_pos hd] at e
    rw [if_pos (by omega)] at e2
    omega
  · rw [if_neg hd] at e; omega
theorem Quarter_any (d : Int) (w : World) :
    Calls Try.prog 13 #[.int .i64 d] w fun e w' => e = .returned (.tuple #[.int .i64 (quart d : Int), .int .i64 (d % 5898240)]) ∧ w = w' := by
  have q1 : (quart d : Int) = d % 23592960 / 5898240 := by unfold quart; omega
  have q2 : d % 23592960 % 5898240 = d % 5898240 := by omega
  by_cases h : d.tmod 23592960 < 0
  · have k := turn_neg d h
    have e : wrap64 (d.tmod 23592960 + 23592960) = d % 23592960 := by rw [k.1]; unfold wrap64; omega
    go_enter Try.func13, Try.ntmps13
    go_wp2_with fail
    rw [q2, ← q1]
    go_ret2
    exact ⟨rfl, rfl⟩
  · have k := turn_pos d (by omega)
    go_enter Try.func13, Try.ntmps13
    go_wp2_with fail
    go_ret2
    exact ⟨rfl, rfl⟩

/-- Both: sine and cosine of any number of degrees. -/
theorem Both_any (d : Int) (w : World) :
    Calls Try.prog 9 #[.int .i64 d] w fun e w' => e = .returned (.tuple #[.int .i64 (bothS d), .int .i64 (bothC d)]) ∧ Below w.heap.size w w' := by
  have o := rest_one (d % 5898240) (by omega) (by omega)
  have A := Lib.hid (fun w => Quarter_any d w)
  have B := Lib.hid (fun w => ofRest_any (d % 5898240) w (by omega) (by omega))
  have C := Lib.hid (fun w => turned_any (quart d) (restS (d % 5898240)) (restC (d % 5898240)) w (by unfold quart; omega) o.1 o.2)
  unfold bothS bothC
  generalize restS (d % 5898240) = s at *
  generalize restC (d % 5898240) = c at *
  generalize d % 5898240 = r at *
  generalize quart d = q at *
  generalize rotS q s c = s' at *
  generalize rotC q s c = c' at *
  clear o
  go_enter Try.func9, Try.ntmps9
  go_wp2_with fail
  refine (A.out _).mono ?_
  rintro e w1 ⟨rfl, rfl⟩
  go_wp2_with fail
  refine (B.out _).mono ?_
  rintro e w2 ⟨rfl, b2⟩
  go_wp2_with fail
  refine (C.out _).mono ?_
  rintro e w3 ⟨rfl, rfl⟩
  go_wp2_with fail
  go_ret2
  exact ⟨rfl, b2⟩

theorem Sin_any (d : Int) (w : World) :
    Calls Try.prog 11 #[.int .i64 d] w fun e w' => e = .returned (.int .i64 (bothS d)) ∧ Below w.heap.size w w' := by
  have A := Lib.hid (fun w => Both_any d w)
  generalize bothS d = s at *
  generalize bothC d = c at *
  go_enter Try.func11, Try.ntmps11
  go_wp2_with fail
  refine (A.out _).mono ?_
  rintro e w1 ⟨rfl, b1⟩
  go_wp2
  go_ret
  exact ⟨rfl, b1⟩
theorem Cos_any (d : Int) (w : World) :
    Calls Try.prog 12 #[.int .i64 d] w fun e w' => e = .returned (.int .i64 (bothC d)) ∧ Below w.heap.size w w' := by
  have A := Lib.hid (fun w => Both_any d w)
  generalize bothS d = s at *
  generalize bothC d = c at *
  go_enter Try.func12, Try.ntmps12
  go_wp2_with fail
  refine (A.out _).mono ?_
  rintro e w1 ⟨rfl, b1⟩
  go_wp2
  go_ret
  exact ⟨rfl, b1⟩

/-- The laws' first question: the document's examples hold. -/
theorem wakes_any (w : World) : Calls Try.prog 8 #[] w fun e w' => e = .returned (.bool true) ∧ Below w.heap.size w w' := by
  have A := Lib.hid (fun w => Sin_any 1966080 w)
  have B := Lib.hid (fun w => Cos_any 3932160 w)
  have C := Lib.hid (fun w => Sin_any (-5898240) w)
  rw [both_30] at A
  rw [both_60] at B
  rw [both_90] at C
  go_enter Try.func8, Try.ntmps8
  go_wp2_with fail
  refine (A.out _).mono ?_
  rintro e w1 ⟨rfl, b1⟩
  go_wp2_with fail
  refine (B.out _).mono ?_
  rintro e w2 ⟨rfl, b2⟩
  go_wp2_with fail
  refine (C.out _).mono ?_
  rintro e w3 ⟨rfl, b3⟩
  go_wp2
  go_ret
  have s1 := b1.size; have s2 := b2.size
  exact ⟨rfl, (b1.trans (b2.mono s1)).trans (b3.mono (by omega))⟩
/-- The document's turn. -/
theorem turn_any (d : Int) (w : World) : Calls Try.prog 14 #[.int .i64 d] w fun e w' => e = .returned (.int .i64 (d % 23592960)) ∧ w = w' := by
  by_cases h : d.tmod 23592960 < 0
  · have k := turn_neg d h
    have e : wrap64 (d.tmod 23592960 + 23592960) = d % 23592960 := by rw [k.1]; unfold wrap64; omega
    go_enter Try.func14, Try.ntmps14
    go_wp2_with fail
    go_ret
    exact ⟨rfl, rfl⟩
  · have k := (turn_pos d (by omega)).1
    go_enter Try.func14, Try.ntmps14
    go_wp2_with fail
    go_ret
    exact ⟨rfl, rfl⟩
end Go.Proofs.Ytdngoeabdpeigaa
