/-
  PROVED: the statement of SnapMoves, for every input: a number moved by 64ths is snapped to what it was snapped to, moved; and of two numbers the greater one isn't snapped to less.
-/
import Derived.Test.YtejhegoegmoemaaRows
import Derived.Test.YtejhegoegmoemaaSnapWakes
namespace Go.Proofs.Ytejhegoegmoemaa.snapMoves
open Go.ChangeShapes Go.WideShapes Go.ChangeAt Go.RowKit Go.Shelf

theorem i32_bd {a : Int} (h : (Lit.int .i32 a).wf = true) : -2147483648 ≤ a ∧ a ≤ 2147483647 := by
  simp [Lit.wf, IntKind.min, IntKind.max, IntKind.signed, IntKind.bits] at h
  omega
set_option maxRecDepth 100000 in
theorem walk (n : Int) (_ : (Lit.int .i64 n).wf = true) (k : Int) (_ : (Lit.int .i64 k).wf = true) (b : Int) (hb : (Lit.int .i32 b).wf = true) (w : World) :
    Calls Try.prog 6 #[.int .i64 n, .int .i64 k, .int .i32 b] w fun e w' => e = .returned (.bool true) ∧ Below w.heap.size w w' := by
  have K := Lib.hid (fun w => wakes14 w)
  obtain ⟨hb1, hb2⟩ := i32_bd hb
  clear hb
  by_cases hin : (-1152921504606846976 ≤ n ∧ n ≤ 1152921504606846976) ∧ (-1152921504606846976 ≤ k ∧ k ≤ 1152921504606846976)
  · obtain ⟨⟨h1, h2⟩, h3, h4⟩ := hin
    by_cases hs : k < n
    · have A := Lib.hid (fun w => number_any (k + b * 1024) w (by omega) (by omega))
      have B := Lib.hid (fun w => number_any k w (by omega) (by omega))
      have C := Lib.hid (fun w => number_any n w (by omega) (by omega))
      have hle := snap_mono (Int.le_of_lt hs)
      have hk := snap_near k
      have hn := snap_near n
      rw [snap_move] at A
      have e0 : IntKind.i64.wrap b = b := by rw [IntKind.wrap_i64]; omega
      have e1 : wrap64 (b * 1024) = b * 1024 := by unfold wrap64; omega
      have e2 : wrap64 (k + b * 1024) = k + b * 1024 := by unfold wrap64; omega
      have e3 : wrap64 (snapN k + b * 1024) = snapN k + b * 1024 := by unfold wrap64; omega
      generalize snapN k = X at *
      generalize snapN n = Y at *
      go_enter Try.func6, Try.ntmps6
      go_wp2_with fail
      refine (K.out _).mono ?_
      rintro e w1 ⟨rfl, b1⟩
      go_wp2_with fail
      refine (A.out _).mono ?_
      rintro e w2 ⟨rfl, rfl⟩
      go_wp2_with fail
      refine (B.out _).mono ?_
      rintro e w2 ⟨rfl, rfl⟩
      go_wp2_with fail
      refine (B.out _).mono ?_
      rintro e w2 ⟨rfl, rfl⟩
      go_wp2_with fail
      refine (C.out _).mono ?_
      rintro e w2 ⟨rfl, rfl⟩
      go_wp2_with fail
      go_ret
      exact ⟨rfl, b1⟩
    · have A := Lib.hid (fun w => number_any (n + b * 1024) w (by omega) (by omega))
      have B := Lib.hid (fun w => number_any n w (by omega) (by omega))
      have C := Lib.hid (fun w => number_any k w (by omega) (by omega))
      have hle := snap_mono (Int.not_lt.1 hs)
      have hk := snap_near k
      have hn := snap_near n
      rw [snap_move] at A
      have e1 : wrap64 (b * 1024) = b * 1024 := by unfold wrap64; omega
      have e2 : wrap64 (n + b * 1024) = n + b * 1024 := by unfold wrap64; omega
      have e3 : wrap64 (snapN n + b * 1024) = snapN n + b * 1024 := by unfold wrap64; omega
      generalize snapN k = Y at *
      generalize snapN n = X at *
      go_enter Try.func6, Try.ntmps6
      go_wp2_with fail
      refine (K.out _).mono ?_
      rintro e w1 ⟨rfl, b1⟩
      go_wp2_with fail
      refine (A.out _).mono ?_
      rintro e w2 ⟨rfl, rfl⟩
      go_wp2_with fail
      refine (B.out _).mono ?_
      rintro e w2 ⟨rfl, rfl⟩
      go_wp2_with fail
      refine (B.out _).mono ?_
      rintro e w2 ⟨rfl, rfl⟩
      go_wp2_with fail
      refine (C.out _).mono ?_
      rintro e w2 ⟨rfl, rfl⟩
      go_wp2_with fail
      go_ret
      exact ⟨rfl, b1⟩
  · have hout : 1152921504606846976 < n ∨ (¬ 1152921504606846976 < n ∧ n < -1152921504606846976) ∨ ((¬ 1152921504606846976 < n ∧ ¬ n < -1152921504606846976) ∧ 1152921504606846976 < k) ∨ ((¬ 1152921504606846976 < n ∧ ¬ n < -1152921504606846976) ∧ ¬ 1152921504606846976 < k ∧ k < -1152921504606846976) := by omega
    clear hin
    rcases hout with h | ⟨h, h'⟩ | ⟨⟨h, h'⟩, h''⟩ | ⟨⟨h, h'⟩, h'', h3⟩
    all_goals
      go_enter Try.func6, Try.ntmps6
      go_wp2_with fail
      refine (K.out _).mono ?_
      rintro e w1 ⟨rfl, b1⟩
      go_wp2_with fail
      go_ret
      exact ⟨rfl, b1⟩
set_option maxRecDepth 100000 in
theorem lifted (os : Os) (started : os.Started) (H : Type) (enc : TypeId × Value → H) :
    ReturnsInHanded {} Try.checked os 6 .any (Rows.snapMovesSpec.pre6 enc Try.prog Try.f6 Rows.snapMovesRow.domain false) (Rows.snapMovesSpec.post enc Try.prog Try.f6 false true false false) := by
  refine returnsInHanded_of_change (C := Try.checked) own started (by kernel_rfl) Try.func6
    (ChangeSpec.witness6 (enc := enc) (C := Try.checked) false ⟨#[], #[.int .i64 0, .int .i64 0, .int .i32 0], []⟩ 8 (by kernel_rfl) (by kernel_rfl) (by kernel_rfl) (by kernel_rfl)) ?_
  intro W base args ds gs before hval0 hW hcnd _
  have hval : ∀ (j : Nat) t v, Try.f6.params[j]? = some t → args[j]? = some v → Value.okWide Try.prog W .any base t v := hval0
  have hW' := hW
  obtain ⟨p, q, hA0, hV, rfl, hfz, hnd⟩ := hW
  have hA : DataW.TrodAll enc Try.prog W 0 (fun _ => true) true Try.f6.params.toList args.toList ds p := hA0
  rw [Try.params6] at hA hval
  obtain ⟨v0, v1, v2, d0, d1, d2, p0, p1, p2, rfl, rfl, rfl, h0, h1, h2⟩ := trodAll_three hA
  obtain ⟨rfl, rfl⟩ := trodVars_none hV
  obtain ⟨a0, rfl, rfl, rfl, w0⟩ := open_int Try.underlying2 (hval 0 2 v0 rfl rfl) h0
  obtain ⟨a1, rfl, rfl, rfl, w1⟩ := open_int Try.underlying2 (hval 1 2 v1 rfl rfl) h1
  obtain ⟨a2, rfl, rfl, rfl, w2⟩ := open_int Try.underlying21 (hval 2 21 v2 rfl rfl) h2
  clear hA0 hval0
  simp only [List.append_nil] at hW'
  refine (walk a0 w0 a1 w1 a2 w2 W).mono fun e W' ⟨he, hg⟩ => ?_
  subst he
  exact ⟨_, rfl, ⟨_, _, _, [], _, [], hW', trodAll_mk1 (shut_bool Try.underlying4 _), trodAll_mk3 (shut_int Try.underlying2 w0) (shut_int Try.underlying2 w1) (shut_int Try.underlying21 w2), rfl, hg.frame _, fun h => by cases h⟩⟩

/-- The given statement. -/
theorem proved : Rows.SnapMovesSaid :=
  OpenClaim.holds_of_wide 6 Try.f6 rfl rfl rfl rfl rfl rfl rfl ⟨rfl, rfl, rfl, rfl, rfl⟩ rfl rfl rfl rfl rfl (by kernel_rfl) Try.func6 (by kernel_rfl)
    (of_decide_eq_true (by kernel_rfl)) (by unfold Func.isWrapper; first | (rw [if_pos (by decide +kernel)]; kernel_rfl) | (rw [if_neg (by decide +kernel)]; exact ⟨rfl, rfl⟩))
    (fun os started H enc _ => lifted os started H enc)
end Go.Proofs.Ytejhegoegmoemaa.snapMoves
