/-
  WideBounds answers true for every bound and every list: Within tells just whether each number is less than the bound, either way. No condition; memory that was there stays as it was.
-/
import Derived.Test.YtlfdppcdkgfihaaRow
namespace Go.Proofs.Ytlfdppcdkgfihaa.wideBounds
open Go.ChangeShapes Go.WideShapes Go.ChangeAt Go.RowKit Go.Proofs.Ytlfdppcdkgfihaa

/-- Is it within the bound? -/
def inB (bound n : Int) : Bool := decide (n < bound ∧ -bound < n)

theorem all_snoc (p : Int → Bool) (zs : List Int) (k : Nat) (hk : k < zs.length) : (zs.take (k + 1)).all p = ((zs.take k).all p && p (zs.getD k 0)) := by
  rw [List.take_succ_eq_append_getElem hk, List.all_append]
  simp [List.getD, List.getElem?_eq_getElem hk]

theorem all_false (p : Int → Bool) (zs : List Int) (k : Nat) (hk : k < zs.length) (h : p (zs.getD k 0) = false) : zs.all p = false := by
  rw [List.all_eq_false]
  refine ⟨zs[k], List.getElem_mem hk, ?_⟩
  simpa [List.getD, List.getElem?_eq_getElem hk] using h

theorem getD_mem (zs : List Int) (k : Nat) (hk : k < zs.length) : zs.getD k 0 ∈ zs := by
  simp [List.getD, List.getElem?_eq_getElem hk]

set_option maxHeartbeats 1000000 in
theorem within_any (bound : Int) (a : Option Addr) (zs : List Int) (cap : Nat) (w : World) (hb : I64 bound) (hz : ∀ z ∈ zs, I64 z) (hl : zs.length ≤ maxLen) (h : Ints a zs w) :
    Calls Try.prog 17 #[.int .i64 bound, .slice a zs.length cap] w fun e w' => e = .returned (.bool (zs.all (inB bound))) ∧ w = w' := by
  unfold maxLen at hl
  have HZ := Lib.hid hz
  have HI := Lib.hid h
  clear hz h
  go_enter Try.func17, Try.ntmps17
  go_wp2
  go_loop [6, 9] (fun _ i => ∃ k : Nat, k ≤ zs.length ∧ i = .int .i64 k ∧ Hid ((zs.take k).all (inB bound) = true)) (fun _ i => zs.length - (intOf i).toNat)
  case atStart => exact ⟨0, Nat.zero_le _, rfl, by unfold Hid; simp⟩
  case round =>
    obtain ⟨k, hk, rfl, hall⟩ := hrel
    by_cases hlt : k < zs.length
    · obtain ⟨b, off, rfl, hbl, hc⟩ := HI.out.pos hlt
      have hcell := hc k hlt
      have hz := HZ.out _ (getD_mem zs k hlt)
      have HS := Lib.hid (all_snoc (inB bound) zs k hlt)
      have HF := Lib.hid (all_false (inB bound) zs k hlt)
      clear hc
      generalize zs.getD k 0 = z at *
      unfold I64 at hz hb
      obtain ⟨hz1, hz2⟩ := hz
      obtain ⟨hb1, hb2⟩ := hb
      by_cases h1 : bound ≤ z
      · have hf := HF.out (by unfold inB; simp; omega)
        have HF2 := Lib.hid hf
        clear hf
        go_wp2
        go_ret
        exact ⟨by rw [HF2.out]; rfl, rfl⟩
      · by_cases h2 : z ≤ -bound
        · have hf := HF.out (by unfold inB; simp; omega)
          have HF2 := Lib.hid hf
          clear hf
          go_wp2
          go_ret
          exact ⟨by rw [HF2.out]; rfl, rfl⟩
        · go_wp2
          go_round
          case rel => exact ⟨k + 1, by omega, by go_num, by unfold Hid; rw [HS.out, hall.out]; unfold inB; simp; omega⟩
          case measure => simp [intOf]; omega
    · obtain rfl : k = zs.length := by omega
      have hf : zs.all (inB bound) = true := by have := hall.out; rwa [List.take_length] at this
      have HF2 := Lib.hid hf
      clear hf
      go_wp2
      go_ret
      exact ⟨by rw [HF2.out]; rfl, rfl⟩
set_option maxHeartbeats 2000000 in
theorem walk (bound : Int) (a : Option Addr) (zs : List Int) (cap : Nat) (w : World) (hb : I64 bound) (hz : ∀ z ∈ zs, I64 z) (hl : zs.length ≤ maxLen) (h : Ints a zs w) :
    Calls Try.prog 7 #[.int .i64 bound, .slice a zs.length cap] w fun e w' => e = .returned (.bool true) ∧ Below w.heap.size w w' := by
  have A := Lib.hid (fun w => wakes_any w)
  have C := Lib.hid (fun w => within_any bound a zs cap w hb hz hl)
  have HZ := Lib.hid hz
  have HI := Lib.hid h
  unfold maxLen at hl
  clear hz h
  by_cases hbig : 100 < zs.length
  · go_enter Try.func7, Try.ntmps7
    go_wp2_with fail
    refine (A.out _).mono ?_
    rintro e w1 ⟨rfl, b1⟩
    go_wp2_with fail
    go_ret
    exact ⟨rfl, b1⟩
  · go_enter Try.func7, Try.ntmps7
    go_wp2_with fail
    refine (A.out _).mono ?_
    rintro e w1 ⟨rfl, b1⟩
    have HI1 := Lib.hid (HI.out.below b1 (Nat.le_refl _))
    have hsm : decide (100 < zs.length) = false := by simpa using hbig
    go_wp2_with fail
    go_loop [5, 16] (fun t i => ∃ k : Nat, k ≤ zs.length ∧ i = .int .i64 k ∧ t = .bool ((zs.take k).all (inB bound))) (fun _ i => zs.length - (intOf i).toNat)
    case atStart => exact ⟨0, Nat.zero_le _, rfl, by simp⟩
    case round =>
      obtain ⟨k, hk, rfl, rfl⟩ := hrel
      by_cases hlt : k < zs.length
      · obtain ⟨b, off, rfl, hbl, hc⟩ := HI1.out.pos hlt
        have hcell := hc k hlt
        have hz := HZ.out _ (getD_mem zs k hlt)
        have HS := Lib.hid (all_snoc (inB bound) zs k hlt)
        clear hc
        generalize zs.getD k 0 = z at *
        generalize (zs.take k).all (inB bound) = B at *
        unfold I64 at hz hb
        obtain ⟨hz1, hz2⟩ := hz
        obtain ⟨hb1, hb2⟩ := hb
        by_cases h1 : z < bound
        · by_cases h2 : 0 < bound
          · by_cases h3 : 0 ≤ z
            · have hin : inB bound z = true := by unfold inB; simp; omega
              have HIN := Lib.hid hin
              clear hin
              cases B
              all_goals
                go_wp2_with fail
                go_round
                case rel => exact ⟨k + 1, by omega, by go_num, by rw [HS.out, HIN.out]; rfl⟩
                case measure => simp [intOf]; omega
            · by_cases h4 : 0 < z + bound
              · have hin : inB bound z = true := by unfold inB; simp; omega
                have HIN := Lib.hid hin
                clear hin
                cases B
                all_goals
                  go_wp2_with fail
                  go_round
                  case rel => exact ⟨k + 1, by omega, by go_num, by rw [HS.out, HIN.out]; rfl⟩
                  case measure => simp [intOf]; omega
              · have hin : inB bound z = false := by unfold inB; simp; omega
                have HIN := Lib.hid hin
                clear hin
                cases B
                all_goals
                  go_wp2_with fail
                  go_round
                  case rel => exact ⟨k + 1, by omega, by go_num, by rw [HS.out, HIN.out]; rfl⟩
                  case measure => simp [intOf]; omega
          · have hin : inB bound z = false := by unfold inB; simp; omega
            have HIN := Lib.hid hin
            clear hin
            have h3 : ¬ 0 ≤ z := by omega
            cases B
            all_goals
              go_wp2_with fail
              all_goals
                go_round
                case rel => exact ⟨k + 1, by omega, by go_num, by rw [HS.out, HIN.out]; rfl⟩
                case measure => simp [intOf]; omega
        · have hin : inB bound z = false := by unfold inB; simp; omega
          have HIN := Lib.hid hin
          clear hin
          cases B
          all_goals
            go_wp2_with fail
            go_round
            case rel => exact ⟨k + 1, by omega, by go_num, by rw [HS.out, HIN.out]; rfl⟩
            case measure => simp [intOf]; omega
      · obtain rfl : k = zs.length := by omega
        rw [List.take_length]
        go_wp2_with fail
        refine (C.out _ HI1.out).mono ?_
        rintro e w2 ⟨rfl, rfl⟩
        go_wp2_with fail
        go_ret
        refine ⟨?_, b1⟩
        simp

set_option maxRecDepth 100000 in
theorem lifted (os : Os) (started : os.Started) (H : Type) (enc : TypeId × Value → H) :
    ReturnsInHanded {} Try.checked os 7 .any (Rows.wideBoundsSpec.pre6 enc Try.prog Try.f7 Rows.wideBoundsRow.domain false) (Rows.wideBoundsSpec.post enc Try.prog Try.f7 false true false false) := by
  refine returnsInHanded_of_change (C := Try.checked) own started (by kernel_rfl) Try.func7
    (ChangeSpec.witness6 (enc := enc) (C := Try.checked) false ⟨#[], #[.int .i64 0, .slice none 0 0], []⟩ 8 (by kernel_rfl) (by kernel_rfl) (by kernel_rfl) (by kernel_rfl)) ?_
  intro W base args ds gs before hval0 hW hcnd _
  have hval : ∀ (j : Nat) t v, Try.f7.params[j]? = some t → args[j]? = some v → Value.okWide Try.prog W .any base t v := hval0
  have hW' := hW
  obtain ⟨p, q, hA0, hV, rfl, hfz, hnd⟩ := hW
  have hA : DataW.TrodAll enc Try.prog W 0 (fun _ => true) true Try.f7.params.toList args.toList ds p := hA0
  rw [Try.params7] at hA hval
  obtain ⟨v0, v1, d0, d1, p0, p1, rfl, rfl, rfl, h0, h1⟩ := trodAll_two hA
  obtain ⟨rfl, rfl⟩ := trodVars_none hV
  obtain ⟨a0, rfl, rfl, rfl, w0⟩ := open_int Try.underlying2 (hval 0 2 v0 rfl rfl) h0
  obtain ⟨a, zs, cap, rfl, hl, hi, hz⟩ := ints_of_trod (hval 1 22 v1 rfl rfl) h1
  clear hA0 hval0
  simp only [List.append_nil, List.nil_append] at hW'
  have hlt : ∀ x ∈ p1, x.block < W.heap.size := fun x hx => by simpa using hW'.lt x hx
  refine (walk a0 a zs cap W (i64_wf w0) hz hl hi).mono fun e W' ⟨he, hg⟩ => ?_
  subst he
  have h1' := Below.trod laidOut (by kernel_rfl) (of_decide_eq_true (by kernel_rfl)) h1 hg hlt
  exact ⟨_, rfl, ⟨_, _, _, [], _, [], hW', trodAll_mk1 (shut_bool Try.underlying4 _), trodAll_mk2 (shut_int Try.underlying2 w0) h1', rfl, hg.frame _, fun h => by cases h⟩⟩

/-- The given statement. -/
theorem proved : Rows.WideBoundsSaid :=
  OpenClaim.holds_of_wide 7 Try.f7 rfl rfl rfl rfl rfl rfl rfl ⟨rfl, rfl, rfl, rfl, rfl⟩ rfl rfl rfl rfl rfl (by kernel_rfl) Try.func7 (by kernel_rfl)
    (of_decide_eq_true (by kernel_rfl)) (by unfold Func.isWrapper; first | (rw [if_pos (by decide +kernel)]; kernel_rfl) | (rw [if_neg (by decide +kernel)]; exact ⟨rfl, rfl⟩))
    (fun os started H enc _ => lifted os started H enc)
end Go.Proofs.Ytlfdppcdkgfihaa.wideBounds
