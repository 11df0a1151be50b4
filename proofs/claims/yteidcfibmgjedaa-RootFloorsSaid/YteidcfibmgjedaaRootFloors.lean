/-
  RootFloors answers true for every n: the root's square isn't above n, and the next one's is, or there is no next one of 32 bits. No condition; memory that was there stays as it was.
-/
import Derived.Test.YteidcfibmgjedaaRootWakes
namespace Go.Proofs.Yteidcfibmgjedaa.rootFloors
open Go.ChangeShapes Go.WideShapes Go.ChangeAt Go.RowKit Go.Proofs.Yteidcfibmgjedaa

theorem facts (n : Nat) (hn : n < 18446744073709551616) : ∃ r : Nat, rt n = r ∧ r ≤ 4294967295 ∧ r * r ≤ n ∧ n < (r + 1) * (r + 1) := by
  have h1 := rt_is n (by omega)
  have h2 := short_lt n
  rw [rt_short n hn] at h2
  exact ⟨rt n, rfl, by omega, h1.1, h1.2⟩

theorem walk (n : Nat) (hn : n < 18446744073709551616) (w : World) :
    Calls Try.prog 3 #[.int .u64 (n : Int)] w fun e w' => e = .returned (.bool true) ∧ Below w.heap.size w w' := by
  obtain ⟨r, er, hr, h1, h2⟩ := facts n hn
  have A := Lib.hid (fun w => wakes_any w)
  have B := Lib.hid (fun w => Floor_any n w hn)
  rw [er] at B
  have i0 : 0 ≤ (r : Int) * (r : Int) := by rw [Mul64.mulN]; omega
  have i1 : (r : Int) * (r : Int) ≤ (n : Int) := by rw [Mul64.mulN]; omega
  have i2 : (n : Int) < ((r : Int) + 1) * ((r : Int) + 1) := by
    rw [show (r : Int) + 1 = ((r + 1 : Nat) : Int) from by omega, Mul64.mulN]; omega
  have hn' : (n : Int) ≤ 18446744073709551615 := by omega
  have hr' : (r : Int) ≤ 4294967295 := by omega
  have d1 : decide ((n : Int) < (r : Int) * (r : Int)) = false := by simp; omega
  by_cases hz : r = 4294967295
  · have rz : ((r : Int) == 4294967295) = true := by rw [beq_iff_eq]; omega
    have r0 : 0 ≤ (r : Int) := by omega
    have n0 : 0 ≤ (n : Int) := by omega
    clear er h1 h2 hn hr hz i2
    generalize (r : Int) = R at *
    generalize (n : Int) = N at *
    go_enter Try.func3, Try.ntmps3
    go_wp2_with fail
    refine (A.out _).mono ?_
    rintro e w1 ⟨rfl, b1⟩
    go_wp2_with fail
    refine (B.out _).mono ?_
    rintro e w2 ⟨rfl, b2⟩
    go_wp2_with fail
    go_ret
    have s1 := b1.size
    exact ⟨rfl, b1.trans (b2.mono s1)⟩
  · have nz : ((r : Int) == 4294967295) = false := by rw [beq_eq_false_iff_ne]; omega
    have i3 : ((r : Int) + 1) * ((r : Int) + 1) ≤ 18446744065119617025 := by
      rw [show (r : Int) + 1 = ((r + 1 : Nat) : Int) from by omega, Mul64.mulN]
      have := Nat.mul_le_mul (show r + 1 ≤ 4294967295 by omega) (show r + 1 ≤ 4294967295 by omega)
      omega
    have d2 : decide ((n : Int) < ((r : Int) + 1) * ((r : Int) + 1)) = true := by simp; omega
    have r0 : 0 ≤ (r : Int) := by omega
    have n0 : 0 ≤ (n : Int) := by omega
    clear er h1 h2 hn hr hz
    generalize (r : Int) = R at *
    generalize (n : Int) = N at *
    go_enter Try.func3, Try.ntmps3
    go_wp2_with fail
    refine (A.out _).mono ?_
    rintro e w1 ⟨rfl, b1⟩
    go_wp2_with fail
    refine (B.out _).mono ?_
    rintro e w2 ⟨rfl, b2⟩
    go_wp2_with fail
    go_ret
    have s1 := b1.size
    exact ⟨rfl, b1.trans (b2.mono s1)⟩

set_option maxRecDepth 100000 in
theorem lifted (os : Os) (started : os.Started) (H : Type) (enc : TypeId × Value → H) :
    ReturnsInHanded {} Try.checked os 3 .any (Rows.rootFloorsSpec.pre6 enc Try.prog Try.f3 Rows.rootFloorsRow.domain false) (Rows.rootFloorsSpec.post enc Try.prog Try.f3 false true false false) := by
  refine returnsInHanded_of_change (C := Try.checked) own started (by kernel_rfl) Try.func3
    (ChangeSpec.witness6 (enc := enc) (C := Try.checked) false ⟨#[], #[.int .u64 0], []⟩ 8 (by kernel_rfl) (by kernel_rfl) (by kernel_rfl) (by kernel_rfl)) ?_
  intro W base args ds gs before hval0 hW hcnd _
  have hval : ∀ (j : Nat) t v, Try.f3.params[j]? = some t → args[j]? = some v → Value.okWide Try.prog W .any base t v := hval0
  have hW' := hW
  obtain ⟨p, q, hA0, hV, rfl, hfz, hnd⟩ := hW
  have hA : DataW.TrodAll enc Try.prog W 0 (fun _ => true) true Try.f3.params.toList args.toList ds p := hA0
  rw [Try.params3] at hA hval
  obtain ⟨v0, d0, rfl, rfl, h0⟩ := trodAll_one hA
  obtain ⟨rfl, rfl⟩ := trodVars_none hV
  obtain ⟨a0, rfl, rfl, rfl, w0⟩ := open_int Try.underlying22 (hval 0 22 v0 rfl rfl) h0
  clear hA0 hval0
  obtain ⟨g0, g1⟩ := u64_wf w0
  obtain ⟨n, rfl⟩ := Int.eq_ofNat_of_zero_le g0
  refine (walk n (by omega) W).mono fun e W' ⟨he, hg⟩ => ?_
  subst he
  simp only [List.append_nil] at hW'
  exact ⟨_, rfl, ⟨_, _, _, [], _, [], hW', trodAll_mk1 (shut_bool Try.underlying4 _), trodAll_mk1 (shut_int Try.underlying22 w0), rfl, hg.frame _, fun h => by cases h⟩⟩

/-- The given statement. -/
theorem proved : Rows.RootFloorsSaid :=
  OpenClaim.holds_of_wide 3 Try.f3 rfl rfl rfl rfl rfl rfl rfl ⟨rfl, rfl, rfl, rfl, rfl⟩ rfl rfl rfl rfl rfl (by kernel_rfl) Try.func3 (by kernel_rfl)
    (of_decide_eq_true (by kernel_rfl)) (by unfold Func.isWrapper; first | (rw [if_pos (by decide +kernel)]; kernel_rfl) | (rw [if_neg (by decide +kernel)]; exact ⟨rfl, rfl⟩))
    (fun os started H enc _ => lifted os started H enc)
end Go.Proofs.Yteidcfibmgjedaa.rootFloors
