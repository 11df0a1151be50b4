/-
  RootSteps answers true for every n and stop: the steps that are told, up to where one stops, are those that are put together bit by bit, and the last one is the root. No condition; memory that was there stays as it was.
-/
import Derived.Test.YteidcfibmgjedaaRootWakes
import Derived.Test.YteidcfibmgjedaaWords
import Derived.Deep.QuietTactic
namespace Go.Proofs.Yteidcfibmgjedaa.rootSteps
open Go.ChangeShapes Go.WideShapes Go.ChangeAt Go.RowKit Go.Proofs.Yteidcfibmgjedaa

/-- What the first loop keeps: j powers of two are left, pre is what was put together, r the number so far. -/
def WantInv (xs : List Nat) (n B : Nat) (w : World) (v rv bv : Value) (wr : World) : Prop :=
  ∃ (j r : Nat) (pre : List Nat), rv = .int .u64 (r : Int) ∧ bv = .int .u64 (bitOf j : Int) ∧ j ≤ 32 ∧ r + 2 ^ j ≤ 2 ^ 32 ∧ xs = pre ++ stepsL n r j ∧ rootL n r j = rt n ∧
    wr.ownsRow B 22 1 v pre.length (cellsU pre) ∧ Below B w wr

theorem want_next (xs : List Nat) (n B j r C : Nat) (pre : List Nat) (w wr : World) (v : Value) (rI : Int) (hI : rI = ((r : Nat) : Int)) (hC : 2 ^ j = C) (hj : j ≤ 32) (hr : r + C ≤ 2 ^ 32) (hx : xs = pre ++ stepsL n r j) (hR : rootL n r j = rt n)
    (hown : wr.ownsRow B 22 1 v pre.length (cellsU pre)) (hb : Below B w wr)   : WantInv xs n B w v (.int .u64 rI) (.int .u64 ((C : Int) / 2)) wr := by
  subst hI
  exact ⟨j, r, pre, rfl, by rw [bitOf, hC]; rfl, hj, by rw [hC]; exact hr, hx, hR, hown, hb⟩

theorem sq_word (x : Nat) (h : x < 4294967296) : x * x ≤ 18446744065119617025 := Nat.mul_le_mul (show x ≤ 4294967295 by omega) (show x ≤ 4294967295 by omega)

theorem take_get (zs : List Nat) (s k : Nat) (h : k < (zs.take s).length) : (zs.take s).getD k 0 = zs.getD k 0 := by
  rw [List.length_take] at h
  rw [List.getD_eq_getElem?_getD, List.getD_eq_getElem?_getD, List.getElem?_take, if_pos (by omega)]

set_option maxHeartbeats 4000000 in
set_option maxRecDepth 100000 in
theorem walk (n s : Nat) (hn : n < 18446744073709551616) (hs : s ≤ 255) (w : World) :
    Calls Try.prog 6 #[.int .u64 (n : Int), .int .u8 (s : Int)] w fun e w' => e = .returned (.bool true) ∧ Below w.heap.size w w' := by
  have A := Lib.hid (fun w => wakes_any w)
  have T := Lib.hid (fun w => told_any n s w hn (by omega))
  have F := Lib.hid (fun w => Floor_any n w hn)
  have SL := Lib.hid (stepsL_length n 32 0)
  have RS := Lib.hid (rt_short n hn)
  have hn' : (n : Int) ≤ 18446744073709551615 := by omega
  clear hn
  generalize hXS : stepsL n 0 32 = XS at *
  have HXS := Lib.hid hXS
  clear hXS
  go_enter Try.func6, Try.ntmps6
  go_wp2_with fail
  refine (A.out _).mono ?_
  rintro e w1 ⟨rfl, b1⟩
  go_wp2_with fail
  go_loopw [5, 6, 7] (fun v rv bv wr => WantInv XS n w1.heap.size w1 v rv bv wr) (fun _ _ bv _ => natU bv)
  case atStart => exact ⟨32, 0, [], rfl, rfl, Nat.le_refl _, by decide, HXS.out.symm, RS.out, World.ownsRow_nil _ _ _ _, Below.refl _ _⟩
  case round =>
    obtain ⟨j, r, pre, rfl, rfl, hj, hr, hx, hR, hown, hb⟩ := hrel
    cases j with
    | zero =>
      have hz : bitOf 0 = 0 := by decide
      rw [hz]
      clear hz
      rw [stepsL, List.append_nil] at hx
      rw [rootL] at hR
      obtain ⟨aw, cw, hv, hrow, _, _⟩ := rowU_of_own hown
      subst hv
      have HX := Lib.hid hx
      have HW := Lib.hid hrow
      have HR := Lib.hid hR
      have HB := Lib.hid hb
      have hpl : pre.length ≤ 32 := by rw [← hx]; exact SL.out
      have TL := Lib.hid (List.length_take (i := s) (l := pre))
      rw [hx] at T
      clear hx hrow hR hb hown hr hj
      go_wp2_with fail
      refine (T.out _).mono ?_
      rintro e w2 ⟨vg, rfl, hg, b2⟩
      obtain ⟨ag, cg, hv, hrow, _, _⟩ := rowU_of_own hg
      subst hv
      have HG := Lib.hid hrow
      have HW2 := Lib.hid (HW.out.below b2 (Nat.le_refl _))
      have hgl : (pre.take s).length ≤ pre.length := by rw [TL.out]; omega
      have HGET := Lib.hid (fun k (h : k < (pre.take s).length) => take_get pre s k h)
      have hmin : min (pre.length : Int) (s : Int) = ((pre.take s).length : Int) := by rw [TL.out]; omega
      clear hg hrow TL
      generalize pre.take s = got at *
      generalize hG : got.length = G at *
      have HGL := Lib.hid hG
      clear hG
      go_wp2_with fail
      clear hmin
      go_loopw [9, 46] (fun _ i wr => ∃ k q : Nat, k ≤ G ∧ i = .int .i64 (k : Int) ∧ wr = w2.drewN q) (fun _ i _ => G - natU i)
      case atStart => exact ⟨0, 0, Nat.zero_le _, rfl, rfl⟩
      case round =>
        obtain ⟨k, q, hk, rfl, rfl⟩ := hrel
        by_cases hlt : k < G
        · obtain ⟨bg, og, rfl, hbg, hcg⟩ := HG.out.pos (k := k) (by rw [HGL.out]; exact hlt)
          obtain ⟨bw, ow, rfl, hbw, hcw⟩ := HW2.out.pos (k := k) (by omega)
          have g1 := hcg k (by rw [HGL.out]; exact hlt)
          have g2 := hcw k (by omega)
          rw [HGET.out k hlt] at g1
          clear hcg hcw
          generalize pre.getD k 0 = x at *
          go_wp2_with fail
          go_quiet (fail)
          go_wp2_with fail
          go_roundw
          case rel => exact ⟨k + 1, _, by omega, by go_num, rfl⟩
          case measure => simp only [natU]; omega
        · obtain rfl : k = G := by omega
          go_wp2_with fail
          refine (F.out _).mono ?_
          rintro e w3 ⟨rfl, b3⟩
          rw [← HR.out]
          go_wp2_with fail
          go_ret
          have s1 := b1.size
          have s2 := HB.out.size
          have s3 := b2.size
          have b3' : Below w2.heap.size w2 w3 := ⟨b3.os, b3.tape, b3.output, b3.size, b3.block⟩
          exact ⟨rfl, ((b1.trans (HB.out.mono s1)).trans (b2.mono (by omega))).trans (b3'.mono (by omega))⟩
    | succ j =>
      have hb1 : bitOf (j + 1) = 2 ^ j := by unfold bitOf; rw [two_pow]; omega
      rw [hb1]
      clear hb1
      have hp : 0 < 2 ^ j := Nat.two_pow_pos j
      rw [two_pow] at hr
      rw [stepsL] at hx
      rw [rootL] at hR
      have hq : r + 2 ^ j < 4294967296 := by omega
      have sq := sq_word _ hq
      have hs1 : (r : Int) + ((2 ^ j : Nat) : Int) ≤ 4294967295 := by omega
      have m0 : 0 ≤ ((r : Int) + ((2 ^ j : Nat) : Int)) * ((r : Int) + ((2 ^ j : Nat) : Int)) := by
        rw [show (r : Int) + ((2 ^ j : Nat) : Int) = ((r + 2 ^ j : Nat) : Int) from by omega, Mul64.mulN]; omega
      have m1 : ((r : Int) + ((2 ^ j : Nat) : Int)) * ((r : Int) + ((2 ^ j : Nat) : Int)) ≤ 18446744065119617025 := by
        rw [show (r : Int) + ((2 ^ j : Nat) : Int) = ((r + 2 ^ j : Nat) : Int) from by omega, Mul64.mulN]; omega
      have m2 : (((r : Int) + ((2 ^ j : Nat) : Int)) * ((r : Int) + ((2 ^ j : Nat) : Int)) ≤ (n : Int)) ↔ (r + 2 ^ j) * (r + 2 ^ j) ≤ n := by
        rw [show (r : Int) + ((2 ^ j : Nat) : Int) = ((r + 2 ^ j : Nat) : Int) from by omega, Mul64.mulN]; omega
      have hp' : 0 < ((2 ^ j : Nat) : Int) := by omega
      have hsz := hb.size
      have hpl : pre.length ≤ 32 := by
        have := SL.out
        rw [hx, List.length_append] at this
        omega
      have HRB := Lib.hid hr
      have HJ := Lib.hid hj
      have HO := Lib.hid hown
      have HB := Lib.hid hb
      have r0 : 0 ≤ (r : Int) := by omega
      by_cases ha : (r + 2 ^ j) * (r + 2 ^ j) ≤ n
      · rw [if_pos ha] at hx hR
        have d1 : decide (((r : Int) + ((2 ^ j : Nat) : Int)) * ((r : Int) + ((2 ^ j : Nat) : Int)) ≤ (n : Int)) = true := by rw [decide_eq_true_eq]; exact m2.2 ha
        have HX := Lib.hid hx
        have HR := Lib.hid hR
        clear hr hj hx hR hp hq sq m2 ha hown hb
        generalize hC : 2 ^ j = C at *
        have HC := Lib.hid hC
        clear hC
        go_wp2_with (first | (at_builtin; refine append_word _ rfl (.tmp 28) (.tmp 30) rfl _ HO.out rfl rfl (by omega) (by omega) ?_; intro v' w2 hown' hb'))
        go_roundw
        case rel => exact want_next XS n _ j (r + C) C (pre ++ [r + C]) _ _ _ _ (by omega) HC.out (by have := HJ.out; omega) (by have := HRB.out; omega) (by rw [HX.out]; simp) HR.out (by rw [cellsU_snoc, List.length_append, List.length_cons, List.length_nil, show ((r + C : Nat) : Int) = (r : Int) + (C : Int) from by omega]; exact hown') (HB.out.trans hb')
        case measure => simp only [natU]; omega
      · rw [if_neg ha] at hx hR
        have d1 : decide (((r : Int) + ((2 ^ j : Nat) : Int)) * ((r : Int) + ((2 ^ j : Nat) : Int)) ≤ (n : Int)) = false := by rw [decide_eq_false_iff_not]; exact fun h => ha (m2.1 h)
        have HX := Lib.hid hx
        have HR := Lib.hid hR
        clear hr hj hx hR hp hq sq m2 ha hown hb
        generalize hC : 2 ^ j = C at *
        have HC := Lib.hid hC
        clear hC
        go_wp2_with fail
        go_roundw
        case rel => exact want_next XS n _ j r C pre _ _ _ _ rfl HC.out (by have := HJ.out; omega) (by have := HRB.out; omega) HX.out HR.out HO.out HB.out
        case measure => simp only [natU]; omega

theorem u8_wf {a : Int} (h : (Lit.int .u8 a).wf = true) : 0 ≤ a ∧ a ≤ 255 := by
  simp [Lit.wf, IntKind.min, IntKind.max, IntKind.signed, IntKind.bits] at h
  exact ⟨by omega, by omega⟩

set_option maxRecDepth 100000 in
theorem lifted (os : Os) (started : os.Started) (H : Type) (enc : TypeId × Value → H) :
    ReturnsInHanded {} Try.checked os 6 .any (Rows.rootStepsSpec.pre6 enc Try.prog Try.f6 Rows.rootStepsRow.domain false) (Rows.rootStepsSpec.post enc Try.prog Try.f6 false true false false) := by
  refine returnsInHanded_of_change (C := Try.checked) own started (by kernel_rfl) Try.func6
    (ChangeSpec.witness6 (enc := enc) (C := Try.checked) false ⟨#[], #[.int .u64 0, .int .u8 0], []⟩ 8 (by kernel_rfl) (by kernel_rfl) (by kernel_rfl) (by kernel_rfl)) ?_
  intro W base args ds gs before hval0 hW hcnd _
  have hval : ∀ (j : Nat) t v, Try.f6.params[j]? = some t → args[j]? = some v → Value.okWide Try.prog W .any base t v := hval0
  have hW' := hW
  obtain ⟨p, q, hA0, hV, rfl, hfz, hnd⟩ := hW
  have hA : DataW.TrodAll enc Try.prog W 0 (fun _ => true) true Try.f6.params.toList args.toList ds p := hA0
  rw [Try.params6] at hA hval
  obtain ⟨v0, v1, d0, d1, p0, p1, rfl, rfl, rfl, h0, h1⟩ := trodAll_two hA
  obtain ⟨rfl, rfl⟩ := trodVars_none hV
  obtain ⟨a0, rfl, rfl, rfl, w0⟩ := open_int Try.underlying22 (hval 0 22 v0 rfl rfl) h0
  obtain ⟨a1, rfl, rfl, rfl, w1⟩ := open_int Try.underlying5 (hval 1 5 v1 rfl rfl) h1
  clear hA0 hval0
  obtain ⟨g0, g1⟩ := u64_wf w0
  obtain ⟨n, rfl⟩ := Int.eq_ofNat_of_zero_le g0
  obtain ⟨k0, k1⟩ := u8_wf w1
  obtain ⟨m, rfl⟩ := Int.eq_ofNat_of_zero_le k0
  refine (walk n m (by omega) (by omega) W).mono fun e W' ⟨he, hg⟩ => ?_
  subst he
  simp only [List.append_nil] at hW'
  exact ⟨_, rfl, ⟨_, _, _, [], _, [], hW', trodAll_mk1 (shut_bool Try.underlying4 _), trodAll_mk2 (shut_int Try.underlying22 w0) (shut_int Try.underlying5 w1), rfl, hg.frame _, fun h => by cases h⟩⟩

/-- The given statement. -/
theorem proved : Rows.RootStepsSaid :=
  OpenClaim.holds_of_wide 6 Try.f6 rfl rfl rfl rfl rfl rfl rfl ⟨rfl, rfl, rfl, rfl, rfl⟩ rfl rfl rfl rfl rfl (by kernel_rfl) Try.func6 (by kernel_rfl)
    (of_decide_eq_true (by kernel_rfl)) (by unfold Func.isWrapper; first | (rw [if_pos (by decide +kernel)]; kernel_rfl) | (rw [if_neg (by decide +kernel)]; exact ⟨rfl, rfl⟩))
    (fun os started H enc _ => lifted os started H enc)
end Go.Proofs.Yteidcfibmgjedaa.rootSteps
