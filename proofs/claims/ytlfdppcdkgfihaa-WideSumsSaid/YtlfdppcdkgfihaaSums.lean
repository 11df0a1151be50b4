/-
  WideSums answers true for every list: Add tells the sum just if it fits, whatever the sums on the way. No condition; memory that was there stays as it was.
-/
import Derived.Test.YtlfdppcdkgfihaaSum
namespace Go.Proofs.Ytlfdppcdkgfihaa.wideSums
open Go.ChangeShapes Go.WideShapes Go.ChangeAt Go.RowKit Go.Proofs.Ytlfdppcdkgfihaa

/-- What wide.Add's loop keeps. -/
def AddInv (zs : List Int) (w : World) (i : Value) (wr : World) : Prop :=
  ∃ k : Nat, k ≤ zs.length ∧ i = .int .i64 (k : Int) ∧ Num w.heap.size (sumTo zs k) wr ∧ Below w.heap.size w wr

theorem abs_bound (s : Int) (h : s.natAbs ≤ 100 * 9223372036854775808) : -170141183460469231731687303715884105728 ≤ s ∧ s < 170141183460469231731687303715884105728 := by omega

theorem num_zero (w : World) : Num w.heap.size 0 (w.alloc (.cells #[.int .u64 0, .int .u64 0] 40)) := Two.mk1 w 0 0

theorem add_next (zs : List Int) (w wr w1 : World) (o : Obj) (k : Nat) (z : Int) (hk : k < zs.length) (hs : sumTo zs (k + 1) = sumTo zs k + z) (hB : Below w.heap.size w wr) (t : Turn w.heap.size (wr.alloc o) w1) (n : Num w.heap.size (sumTo zs k + z) w1) :
    AddInv zs w (.int .i64 ((k : Int) + 1)) w1 := by
  have s1 := hB.size
  refine ⟨k + 1, by omega, by rw [show (k : Int) + 1 = ((k + 1 : Nat) : Int) from by omega], by rw [hs]; exact n, ?_⟩
  exact (hB.alloc s1 o).trans (t.below (Nat.le_refl _) (by simp; omega))

set_option maxHeartbeats 2000000 in
theorem wideadd_any (a : Option Addr) (zs : List Int) (cap : Nat) (w : World) (hz : ∀ z ∈ zs, I64 z) (hl : zs.length ≤ 100) (h : Ints a zs w) :
    Calls Try.prog 10 #[.slice a zs.length cap] w fun e w' => e = .returned (Pair (sumTo zs zs.length)) ∧ Below w.heap.size w w' := by
  have HZ := Lib.hid hz
  have HI := Lib.hid h
  clear hz h
  unfold Pair
  go_enter Try.func10, Try.ntmps10
  go_wp2_with fail
  go_loopw [6, 9] (fun _ i wr => AddInv zs w i wr) (fun _ i _ => zs.length - natOf i)
  case atStart => exact ⟨0, by omega, rfl, num_zero w, (Below.refl _ _).alloc (Nat.le_refl _) _⟩
  case round =>
    obtain ⟨k, hk, rfl, hN, hB⟩ := hrel
    by_cases hlt : k < zs.length
    · obtain ⟨b, off, rfl, hbl, hc⟩ := (HI.out.below hB (Nat.le_refl _)).pos hlt
      have hcell := hc k hlt
      have hz := HZ.out _ (getD_mem' zs k hlt)
      have HS := Lib.hid (sumTo_succ zs k hlt)
      have HN := Lib.hid hN; have HB := Lib.hid hB
      have HZ1 := Lib.hid hz
      clear hc hN hB hz
      generalize zs.getD k 0 = z at *
      have C := Lib.hid (widen_num z wr HZ1.out.1 HZ1.out.2)
      have D := Lib.hid (fun o => add_num w.heap.size (sumTo zs k) z (wr.alloc o) (HN.out.alloc o))
      unfold AggN at D
      go_wp2_with fail
      refine C.out.mono ?_
      rintro e w1 ⟨rfl, rfl⟩
      go_wp2_with fail
      refine (D.out _).mono ?_
      rintro e w2 ⟨rfl, t2, n2⟩
      go_wp2_with fail
      go_roundw
      case rel => exact add_next zs w wr w2 _ k z hlt HS.out HB.out t2 n2
      case measure => simp [natOf]; omega
    · obtain rfl : k = zs.length := by omega
      have hbd := sumTo_bound zs zs.length HZ.out
      have hbd2 : (sumTo zs zs.length).natAbs ≤ 100 * 9223372036854775808 := Nat.le_trans hbd (Nat.mul_le_mul_right _ hl)
      have hbd3 := abs_bound _ hbd2
      have P := Lib.hid (fun w => narrow_any (sumTo zs zs.length) w hbd3.1 hbd3.2)
      have g0 := hN.c0; have g1 := hN.c1
      unfold Pair at P
      unfold AggN at P
      clear hN hbd hbd2 hbd3
      go_wp2_with fail
      refine (P.out _).mono ?_
      rintro e w1 ⟨rfl, b1⟩
      go_wp2_with fail
      go_ret2
      exact ⟨rfl, hB.trans (b1.mono hB.size)⟩

set_option maxHeartbeats 2000000 in
theorem walk (a : Option Addr) (zs : List Int) (cap : Nat) (w : World) (hz : ∀ z ∈ zs, I64 z) (hl : zs.length ≤ maxLen) (h : Ints a zs w) :
    Calls Try.prog 3 #[.slice a zs.length cap] w fun e w' => e = .returned (.bool true) ∧ Below w.heap.size w w' := by
  have A := Lib.hid (fun w => wakes_any w)
  unfold maxLen at hl
  by_cases hbig : 100 < zs.length
  · clear h hz
    go_enter Try.func3, Try.ntmps3
    go_wp2_with fail
    refine (A.out _).mono ?_
    rintro e w1 ⟨rfl, b1⟩
    go_wp2_with fail
    go_ret
    exact ⟨rfl, b1⟩
  · have C := Lib.hid (fun w hi => wideadd_any a zs cap w hz (by omega) hi)
    have D := Lib.hid (fun w hi => refsum_any a zs cap w hz (by omega) hi)
    unfold Pair at C D
    have HI := Lib.hid h
    clear h hz
    generalize told (sumTo zs zs.length) = s at *
    generalize fits (sumTo zs zs.length) = f at *
    have hsm : decide (100 < zs.length) = false := by simpa using hbig
    go_enter Try.func3, Try.ntmps3
    go_wp2_with fail
    refine (A.out _).mono ?_
    rintro e w1 ⟨rfl, b1⟩
    go_wp2_with fail
    refine (C.out _ (HI.out.below b1 (Nat.le_refl _))).mono ?_
    rintro e w2 ⟨rfl, b2⟩
    have I2 := Lib.hid ((HI.out.below b1 (Nat.le_refl _)).below b2 (Nat.le_refl _))
    go_wp2_with fail
    refine (D.out _ I2.out).mono ?_
    rintro e w3 ⟨rfl, b3⟩
    go_wp2
    go_ret
    have s1 := b1.size
    have s2 := b2.size
    exact ⟨by simp, (b1.trans (b2.mono s1)).trans (b3.mono (by omega))⟩

set_option maxRecDepth 100000 in
theorem lifted (os : Os) (started : os.Started) (H : Type) (enc : TypeId × Value → H) :
    ReturnsInHanded {} Try.checked os 3 .any (Rows.wideSumsSpec.pre6 enc Try.prog Try.f3 Rows.wideSumsRow.domain false) (Rows.wideSumsSpec.post enc Try.prog Try.f3 false true false false) := by
  refine returnsInHanded_of_change (C := Try.checked) own started (by kernel_rfl) Try.func3
    (ChangeSpec.witness6 (enc := enc) (C := Try.checked) false ⟨#[], #[.slice none 0 0], []⟩ 8 (by kernel_rfl) (by kernel_rfl) (by kernel_rfl) (by kernel_rfl)) ?_
  intro W base args ds gs before hval0 hW hcnd _
  have hval : ∀ (j : Nat) t v, Try.f3.params[j]? = some t → args[j]? = some v → Value.okWide Try.prog W .any base t v := hval0
  have hW' := hW
  obtain ⟨p, q, hA0, hV, rfl, hfz, hnd⟩ := hW
  have hA : DataW.TrodAll enc Try.prog W 0 (fun _ => true) true Try.f3.params.toList args.toList ds p := hA0
  rw [Try.params3] at hA hval
  obtain ⟨v0, d0, rfl, rfl, h0⟩ := trodAll_one hA
  obtain ⟨rfl, rfl⟩ := trodVars_none hV
  obtain ⟨a, zs, cap, rfl, hl, hi, hz⟩ := ints_of_trod (hval 0 22 v0 rfl rfl) h0
  clear hA0 hval0
  simp only [List.append_nil] at hW'
  have hlt : ∀ x ∈ p, x.block < W.heap.size := fun x hx => by simpa using hW'.lt x hx
  refine (walk a zs cap W hz hl hi).mono fun e W' ⟨he, hg⟩ => ?_
  subst he
  have h0' := Below.trod laidOut (by kernel_rfl) (of_decide_eq_true (by kernel_rfl)) h0 hg hlt
  exact ⟨_, rfl, ⟨_, _, _, [], _, [], hW', trodAll_mk1 (shut_bool Try.underlying4 _), trodAll_mk1 h0', rfl, hg.frame _, fun h => by cases h⟩⟩

/-- The given statement. -/
theorem proved : Rows.WideSumsSaid :=
  OpenClaim.holds_of_wide 3 Try.f3 rfl rfl rfl rfl rfl rfl rfl ⟨rfl, rfl, rfl, rfl, rfl⟩ rfl rfl rfl rfl rfl (by kernel_rfl) Try.func3 (by kernel_rfl)
    (of_decide_eq_true (by kernel_rfl)) (by unfold Func.isWrapper; first | (rw [if_pos (by decide +kernel)]; kernel_rfl) | (rw [if_neg (by decide +kernel)]; exact ⟨rfl, rfl⟩))
    (fun os started H enc _ => lifted os started H enc)
end Go.Proofs.Ytlfdppcdkgfihaa.wideSums
