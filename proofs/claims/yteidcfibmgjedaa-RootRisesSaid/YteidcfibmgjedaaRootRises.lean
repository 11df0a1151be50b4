/-
  RootRises answers true for every a and b: the greater one's root isn't less; the root of four times the less one is twice its root, or one more. No condition; memory that was there stays as it was.
-/
import Derived.Test.YteidcfibmgjedaaRootWakes
namespace Go.Proofs.Yteidcfibmgjedaa.rootRises
open Go.ChangeShapes Go.WideShapes Go.ChangeAt Go.RowKit Go.Proofs.Yteidcfibmgjedaa

theorem facts (a b : Nat) (hb : b < 18446744073709551616) (hab : a ≤ b) :
    ∃ r s q : Nat, rt a = r ∧ rt b = q ∧ rt (a / 4611686018427387904 * 18446744073709551616 + a * 4 % 18446744073709551616) = s ∧ r ≤ q ∧ (s = 2 * r ∨ s = 2 * r + 1) ∧ r ≤ 4294967295 := by
  have e : a / 4611686018427387904 * 18446744073709551616 + a * 4 % 18446744073709551616 = 4 * a := by omega
  have h1 := rt_is a (by omega)
  have h2 := rt_is b (by omega)
  have h3 := rt_is (4 * a) (by omega)
  have h4 := short_lt a
  rw [rt_short a (by omega)] at h4
  exact ⟨_, _, _, rfl, rfl, rfl, isRoot_mono h1 h2 hab, by rw [e]; exact isRoot_four h1 h3, by omega⟩

/-- The second half of the law, a being the less one. -/
theorem walk (a b x y : Nat) (ha : a ≤ b) (hb : b < 18446744073709551616) (hxy : (x = a ∧ y = b) ∨ (x = b ∧ y = a ∧ a < b)) (w : World) :
    Calls Try.prog 7 #[.int .u64 (x : Int), .int .u64 (y : Int)] w fun e w' => e = .returned (.bool true) ∧ Below w.heap.size w w' := by
  obtain ⟨r, s, q, er, eq, es, h1, h2, h3⟩ := facts a b hb ha
  have A := Lib.hid (fun w => wakes_any w)
  have B := Lib.hid (fun w => Floor_any a w (by omega))
  have C := Lib.hid (fun w => Floor_any b w hb)
  have D := Lib.hid (fun w => Wide_any (a / 4611686018427387904) (a * 4 % 18446744073709551616) w (Nat.mod_lt _ (by decide)))
  rw [er] at B
  rw [eq] at C
  rw [es] at D
  rw [show ((a / 4611686018427387904 : Nat) : Int) = (a : Int) / 4611686018427387904 from by omega, show ((a * 4 % 18446744073709551616 : Nat) : Int) = (a : Int) * 4 % 18446744073709551616 from by omega] at D
  have i1 : (r : Int) ≤ (q : Int) := by omega
  have i2 : (r : Int) ≤ 4294967295 := by omega
  have i3 : (s : Int) = 2 * (r : Int) ∨ (s : Int) = 2 * (r : Int) + 1 := by omega
  have i4 : (a : Int) ≤ 18446744073709551615 := by omega
  have a0 : 0 ≤ (a : Int) := by omega
  have r0 : 0 ≤ (r : Int) := by omega
  have d1 : decide ((q : Int) < (r : Int)) = false := by simp; omega
  have e2 : IntKind.u64.wrap ((a : Int) * 4) = (a : Int) * 4 % 18446744073709551616 := by rw [IntKind.wrap_u64]
  have hxy' : ((x : Int) = (a : Int) ∧ (y : Int) = (b : Int)) ∨ ((x : Int) = (b : Int) ∧ (y : Int) = (a : Int) ∧ (a : Int) < (b : Int)) := by omega
  have ab : (a : Int) ≤ (b : Int) := by omega
  clear er eq es h1 h2 h3 hxy hb ha
  generalize (a : Int) = X at *
  generalize (b : Int) = Y at *
  generalize (r : Int) = R at *
  generalize (s : Int) = S at *
  generalize (q : Int) = Q at *
  generalize (x : Int) = P1 at *
  generalize (y : Int) = P2 at *
  have i5 : S = 2 * R ∨ (S = 2 * R + 1 ∧ ((2 * R + 1 : Int) == 2 * R) = false) := by
    rcases i3 with h | h
    · exact .inl h
    · exact .inr ⟨h, by rw [beq_eq_false_iff_ne]; omega⟩
  clear i3
  rcases hxy' with ⟨h1, h2⟩ | ⟨h1, h2, h3⟩
  · subst h1 h2
    have d2 : decide (P2 < P1) = false := by simp; omega
    rcases i5 with i5 | ⟨i5, nz⟩
    all_goals
      subst i5
      go_enter Try.func7, Try.ntmps7
      go_wp2_with fail
      refine (A.out _).mono ?_
      rintro e w1 ⟨rfl, b1⟩
      go_wp2_with fail
      refine (B.out _).mono ?_
      rintro e w2 ⟨rfl, b2⟩
      go_wp2_with fail
      refine (C.out _).mono ?_
      rintro e w3 ⟨rfl, b3⟩
      go_wp2_with fail
      refine (B.out _).mono ?_
      rintro e w4 ⟨rfl, b4⟩
      go_wp2_with fail
      refine (D.out _).mono ?_
      rintro e w5 ⟨rfl, b5⟩
      go_wp2_with fail
      go_ret
      have s1 := b1.size
      have s2 := b2.size
      have s3 := b3.size
      have s4 := b4.size
      exact ⟨rfl, (((b1.trans (b2.mono s1)).trans (b3.mono (by omega))).trans (b4.mono (by omega))).trans (b5.mono (by omega))⟩
  · subst h1 h2
    have d2 : decide (P2 < P1) = true := by simp; omega
    rcases i5 with i5 | ⟨i5, nz⟩
    all_goals
      subst i5
      go_enter Try.func7, Try.ntmps7
      go_wp2_with fail
      refine (A.out _).mono ?_
      rintro e w1 ⟨rfl, b1⟩
      go_wp2_with fail
      refine (B.out _).mono ?_
      rintro e w2 ⟨rfl, b2⟩
      go_wp2_with fail
      refine (C.out _).mono ?_
      rintro e w3 ⟨rfl, b3⟩
      go_wp2_with fail
      refine (B.out _).mono ?_
      rintro e w4 ⟨rfl, b4⟩
      go_wp2_with fail
      refine (D.out _).mono ?_
      rintro e w5 ⟨rfl, b5⟩
      go_wp2_with fail
      go_ret
      have s1 := b1.size
      have s2 := b2.size
      have s3 := b3.size
      have s4 := b4.size
      exact ⟨rfl, (((b1.trans (b2.mono s1)).trans (b3.mono (by omega))).trans (b4.mono (by omega))).trans (b5.mono (by omega))⟩

theorem both (x y : Nat) (hx : x < 18446744073709551616) (hy : y < 18446744073709551616) (w : World) :
    Calls Try.prog 7 #[.int .u64 (x : Int), .int .u64 (y : Int)] w fun e w' => e = .returned (.bool true) ∧ Below w.heap.size w w' := by
  by_cases h : x ≤ y
  · exact walk x y x y h hy (.inl ⟨rfl, rfl⟩) w
  · exact walk y x x y (by omega) hx (.inr ⟨rfl, rfl, by omega⟩) w

set_option maxRecDepth 100000 in
theorem lifted (os : Os) (started : os.Started) (H : Type) (enc : TypeId × Value → H) :
    ReturnsInHanded {} Try.checked os 7 .any (Rows.rootRisesSpec.pre6 enc Try.prog Try.f7 Rows.rootRisesRow.domain false) (Rows.rootRisesSpec.post enc Try.prog Try.f7 false true false false) := by
  refine returnsInHanded_of_change (C := Try.checked) own started (by kernel_rfl) Try.func7
    (ChangeSpec.witness6 (enc := enc) (C := Try.checked) false ⟨#[], #[.int .u64 0, .int .u64 0], []⟩ 8 (by kernel_rfl) (by kernel_rfl) (by kernel_rfl) (by kernel_rfl)) ?_
  intro W base args ds gs before hval0 hW hcnd _
  have hval : ∀ (j : Nat) t v, Try.f7.params[j]? = some t → args[j]? = some v → Value.okWide Try.prog W .any base t v := hval0
  have hW' := hW
  obtain ⟨p, q, hA0, hV, rfl, hfz, hnd⟩ := hW
  have hA : DataW.TrodAll enc Try.prog W 0 (fun _ => true) true Try.f7.params.toList args.toList ds p := hA0
  rw [Try.params7] at hA hval
  obtain ⟨v0, v1, d0, d1, p0, p1, rfl, rfl, rfl, h0, h1⟩ := trodAll_two hA
  obtain ⟨rfl, rfl⟩ := trodVars_none hV
  obtain ⟨a0, rfl, rfl, rfl, w0⟩ := open_int Try.underlying22 (hval 0 22 v0 rfl rfl) h0
  obtain ⟨a1, rfl, rfl, rfl, w1⟩ := open_int Try.underlying22 (hval 1 22 v1 rfl rfl) h1
  clear hA0 hval0
  obtain ⟨g0, g1⟩ := u64_wf w0
  obtain ⟨n, rfl⟩ := Int.eq_ofNat_of_zero_le g0
  obtain ⟨k0, k1⟩ := u64_wf w1
  obtain ⟨m, rfl⟩ := Int.eq_ofNat_of_zero_le k0
  refine (both n m (by omega) (by omega) W).mono fun e W' ⟨he, hg⟩ => ?_
  subst he
  simp only [List.append_nil] at hW'
  exact ⟨_, rfl, ⟨_, _, _, [], _, [], hW', trodAll_mk1 (shut_bool Try.underlying4 _), trodAll_mk2 (shut_int Try.underlying22 w0) (shut_int Try.underlying22 w1), rfl, hg.frame _, fun h => by cases h⟩⟩

/-- The given statement. -/
theorem proved : Rows.RootRisesSaid :=
  OpenClaim.holds_of_wide 7 Try.f7 rfl rfl rfl rfl rfl rfl rfl ⟨rfl, rfl, rfl, rfl, rfl⟩ rfl rfl rfl rfl rfl (by kernel_rfl) Try.func7 (by kernel_rfl)
    (of_decide_eq_true (by kernel_rfl)) (by unfold Func.isWrapper; first | (rw [if_pos (by decide +kernel)]; kernel_rfl) | (rw [if_neg (by decide +kernel)]; exact ⟨rfl, rfl⟩))
    (fun os started H enc _ => lifted os started H enc)
end Go.Proofs.Yteidcfibmgjedaa.rootRises
