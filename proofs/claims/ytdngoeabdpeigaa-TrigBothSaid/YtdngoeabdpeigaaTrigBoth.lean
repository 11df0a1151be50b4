/-
  TrigBoth answers true for every d of 64 bits: Both, Sin and Cos are the document's sine and cosine. No condition; memory that was there stays as it was.
-/
import Derived.Test.YtdngoeabdpeigaaTrigRef
namespace Go.Proofs.Ytdngoeabdpeigaa.trigBoth
open Go.ChangeShapes Go.WideShapes Go.ChangeAt Go.RowKit Go.Proofs.Ytdngoeabdpeigaa

/-- By the rest's sine and cosine, and the quarter. -/
theorem ref_both (d t r : Int) (q : Nat) (s c : Int) (w : World) (hq : q < 4) (h0 : 0 ≤ r) (h1 : r < 5898240) (ht : t = (q : Int) * 5898240 + r) (hs : -1073741824 ≤ s ∧ s ≤ 1073741824) (hc : -1073741824 ≤ c ∧ c ≤ 1073741824)
    (T : ∀ w : World, Calls Try.prog 14 #[.int .i64 d] w fun e w' => e = .returned (.int .i64 t) ∧ w = w')
    (S : (r ≤ 2949120 ∧ ∀ w : World, Calls Try.prog 17 #[.int .i64 r] w fun e w' => e = .returned (.tuple #[.int .i64 s, .int .i64 c]) ∧ Below w.heap.size w w') ∨
      (2949120 < r ∧ ∀ w : World, Calls Try.prog 17 #[.int .i64 (5898240 - r)] w fun e w' => e = .returned (.tuple #[.int .i64 c, .int .i64 s]) ∧ Below w.heap.size w w')) :
    Calls Try.prog 10 #[.int .i64 d] w fun e w' => e = .returned (.tuple #[.int .i64 (rotS q s c), .int .i64 (rotC q s c)]) ∧ Below w.heap.size w w' := by
  have T := Lib.hid T
  have t0 : 0 ≤ t := by omega
  have m : t.tmod 5898240 = r := by
    rw [Int.tmod_eq_emod_of_nonneg t0]
    omega
  have h : (q = 0 ∧ 0 ≤ t ∧ t < 5898240) ∨ (q = 1 ∧ 5898240 ≤ t ∧ t < 11796480) ∨ (q = 2 ∧ 11796480 ≤ t ∧ t < 17694720) ∨ (q = 3 ∧ 17694720 ≤ t ∧ t < 23592960) := by omega
  clear ht hq t0
  obtain ⟨hs1, hs2⟩ := hs
  obtain ⟨hc1, hc2⟩ := hc
  rcases S with ⟨hr, S⟩ | ⟨hr, S⟩
  all_goals
    have S := Lib.hid S
    rcases h with ⟨rfl, h⟩ | ⟨rfl, h⟩ | ⟨rfl, h⟩ | ⟨rfl, h⟩
    all_goals
      obtain ⟨k1, k2⟩ := h
      go_enter Try.func10, Try.ntmps10
      go_wp2_with fail
      refine (T.out _).mono ?_
      rintro e w1 ⟨rfl, rfl⟩
      go_wp2_with fail
      refine (S.out _).mono ?_
      rintro e w2 ⟨rfl, b2⟩
      go_wp2_with fail
      go_ret2
      exact ⟨rfl, b2⟩

theorem RefBoth_any (d : Int) (w : World) : Calls Try.prog 10 #[.int .i64 d] w fun e w' => e = .returned (.tuple #[.int .i64 (bothS d), .int .i64 (bothC d)]) ∧ Below w.heap.size w w' := by
  have o := rest_one (d % 5898240) (by omega) (by omega)
  refine ref_both d (d % 23592960) (d % 5898240) (quart d) (restS (d % 5898240)) (restC (d % 5898240)) w (by unfold quart; omega) (by omega) (by omega) (by unfold quart; omega) o.1 o.2 (fun w => turn_any d w) ?_
  clear o
  have h0 : 0 ≤ d % 5898240 := by omega
  have h1 : d % 5898240 < 5898240 := by omega
  generalize d % 5898240 = r at *
  unfold restS restC
  by_cases h : r ≤ 2949120
  · rw [if_pos h, if_pos h]
    exact .inl ⟨h, fun w => Series_any r w h0 h⟩
  · rw [if_neg h, if_neg h]
    exact .inr ⟨by omega, fun w => Series_any (5898240 - r) w (by omega) (by omega)⟩

theorem walk (d : Int) (_ : (Lit.int .i64 d).wf = true) (w : World) :
    Calls Try.prog 3 #[.int .i64 d] w fun e w' => e = .returned (.bool true) ∧ Below w.heap.size w w' := by
  have A := Lib.hid (fun w => wakes_any w)
  have B := Lib.hid (fun w => Both_any d w)
  have C := Lib.hid (fun w => RefBoth_any d w)
  have D := Lib.hid (fun w => Sin_any d w)
  have E := Lib.hid (fun w => Cos_any d w)
  generalize bothS d = s at *
  generalize bothC d = c at *
  go_enter Try.func3, Try.ntmps3
  go_wp2_with fail
  refine (A.out _).mono ?_
  rintro e w1 ⟨rfl, b1⟩
  go_wp2_with fail
  refine (B.out _).mono ?_
  rintro e w2 ⟨rfl, b2⟩
  go_wp2_with fail
  refine (C.out _).mono ?_
  rintro e w3 ⟨rfl, b3⟩
  go_wp2_with fail
  refine (D.out _).mono ?_
  rintro e w4 ⟨rfl, b4⟩
  go_wp2_with fail
  refine (E.out _).mono ?_
  rintro e w5 ⟨rfl, b5⟩
  go_wp2
  go_ret
  have s1 := b1.size; have s2 := b2.size; have s3 := b3.size; have s4 := b4.size
  exact ⟨by simp, (((b1.trans (b2.mono s1)).trans (b3.mono (by omega))).trans (b4.mono (by omega))).trans (b5.mono (by omega))⟩

set_option maxRecDepth 100000 in
theorem lifted (os : Os) (started : os.Started) (H : Type) (enc : TypeId × Value → H) :
    ReturnsInHanded {} Try.checked os 3 .any (Rows.trigBothSpec.pre6 enc Try.prog Try.f3 Rows.trigBothRow.domain false) (Rows.trigBothSpec.post enc Try.prog Try.f3 false true false false) := by
  refine returnsInHanded_of_change (C := Try.checked) own started (by kernel_rfl) Try.func3
    (ChangeSpec.witness6 (enc := enc) (C := Try.checked) false ⟨#[], #[.int .i64 0], []⟩ 8 (by kernel_rfl) (by kernel_rfl) (by kernel_rfl) (by kernel_rfl)) ?_
  intro W base args ds gs before hval0 hW hcnd _
  have hval : ∀ (j : Nat) t v, Try.f3.params[j]? = some t → args[j]? = some v → Value.okWide Try.prog W .any base t v := hval0
  have hW' := hW
  obtain ⟨p, q, hA0, hV, rfl, hfz, hnd⟩ := hW
  have hA : DataW.TrodAll enc Try.prog W 0 (fun _ => true) true Try.f3.params.toList args.toList ds p := hA0
  rw [Try.params3] at hA hval
  obtain ⟨v0, d0, rfl, rfl, h0⟩ := trodAll_one hA
  obtain ⟨rfl, rfl⟩ := trodVars_none hV
  obtain ⟨a0, rfl, rfl, rfl, w0⟩ := open_int Try.underlying2 (hval 0 2 v0 rfl rfl) h0
  clear hA0 hval0
  simp only [List.append_nil] at hW'
  refine (walk a0 w0 W).mono fun e W' ⟨he, hg⟩ => ?_
  subst he
  exact ⟨_, rfl, ⟨_, _, _, [], _, [], hW', trodAll_mk1 (shut_bool Try.underlying4 _), trodAll_mk1 (shut_int Try.underlying2 w0), rfl, hg.frame _, fun h => by cases h⟩⟩

/-- The given statement. -/
theorem proved : Rows.TrigBothSaid :=
  OpenClaim.holds_of_wide 3 Try.f3 rfl rfl rfl rfl rfl rfl rfl ⟨rfl, rfl, rfl, rfl, rfl⟩ rfl rfl rfl rfl rfl (by kernel_rfl) Try.func3 (by kernel_rfl)
    (of_decide_eq_true (by kernel_rfl)) (by unfold Func.isWrapper; first | (rw [if_pos (by decide +kernel)]; kernel_rfl) | (rw [if_neg (by decide +kernel)]; exact ⟨rfl, rfl⟩))
    (fun os started H enc _ => lifted os started H enc)
end Go.Proofs.Ytdngoeabdpeigaa.trigBoth
