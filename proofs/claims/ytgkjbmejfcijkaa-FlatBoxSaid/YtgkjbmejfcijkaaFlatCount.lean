/-
  Package flat: Count, by a range over whatever Pieces tells. (Typed by a program: wip/gen_count12.py.)
-/
import Derived.Test.YtgkjbmejfcijkaaLawWakes12
import Derived.Test.YtgkjbmejfcijkaaJRow
namespace Go.Proofs.Ytgkjbmejfcijkaa
open Go.RowKit Go.Shelf
attribute [local go_sem] Oper.semAt_some

set_option maxHeartbeats 4000000 in
set_option maxRecDepth 100000 in
theorem count_any (PI : PiecesOk) : CountOk := by
  intro c w hc
  refine (callsIn_wide (n := 6)).1 ?_
  have PC := Lib.hid (fun w => PI c w hc)
  clear PI hc
  generalize pieces12 20 c = RES at *
  obtain ⟨px, py, qx, qy, rx, ry, sx, sy⟩ := c
  unfold Crv.val Crv.arr at *
  dsimp only at *
  obtain ⟨k1, k2, k3⟩ := boxes_two w #[.int .i64 px, .int .i64 py, .int .i64 qx, .int .i64 qy, .int .i64 rx, .int .i64 ry, .int .i64 sx, .int .i64 sy] #[.int .i64 0] 25 3
  have HC0 := Lib.hid k1; have HN0 := Lib.hid k2; have HB0 := Lib.hid k3
  clear k1 k2 k3
  refine callsIn_of_wp_marks Try.func13 rfl trivial ?_ rfl
  simp only [Try.ntmps13, List.size_toArray, List.length_cons, List.length_nil, Nat.reduceAdd, Nat.reduceSub, Array.replicate_succ, Array.replicate_zero, List.push_toArray, List.append_toArray, List.nil_append, List.cons_append]
  refine wpIn_wide.2 ?_
  go_upto_region 2 with fail
  generalize ((w.alloc (.cells #[.int .i64 px, .int .i64 py, .int .i64 qx, .int .i64 qy, .int .i64 rx, .int .i64 ry, .int .i64 sx, .int .i64 sy] 25)).alloc (.cells #[.int .i64 0] 3)) = w1 at *
  have xC0 : w1.cell? ⟨w.heap.size, 0, none⟩ = some (.int .i64 px) := HC0.out.c 0 rfl
  have xC1 : w1.cell? ⟨w.heap.size, 1, none⟩ = some (.int .i64 py) := HC0.out.c 1 rfl
  have xC2 : w1.cell? ⟨w.heap.size, 2, none⟩ = some (.int .i64 qx) := HC0.out.c 2 rfl
  have xC3 : w1.cell? ⟨w.heap.size, 3, none⟩ = some (.int .i64 qy) := HC0.out.c 3 rfl
  have xC4 : w1.cell? ⟨w.heap.size, 4, none⟩ = some (.int .i64 rx) := HC0.out.c 4 rfl
  have xC5 : w1.cell? ⟨w.heap.size, 5, none⟩ = some (.int .i64 ry) := HC0.out.c 5 rfl
  have xC6 : w1.cell? ⟨w.heap.size, 6, none⟩ = some (.int .i64 sx) := HC0.out.c 6 rfl
  have xC7 : w1.cell? ⟨w.heap.size, 7, none⟩ = some (.int .i64 sy) := HC0.out.c 7 rfl
  go_wp2_with fail
  refine (PC.out _).mono ?_
  clear xC0 xC1 xC2 xC3 xC4 xC5 xC6 xC7
  rintro o W0 ⟨gf, lb, a, b, rfl, eg, b2, ha, hb, hca, hfe⟩
  have HQ := Lib.hid (HN0.out.next b2); have HB := Lib.hid (HB0.out.trans (b2.mono HB0.out.size))
  have hlt : w.heap.size + 1 < W0.heap.size := HQ.out.lt
  have hqa : w.heap.size + 1 < a := Nat.lt_of_lt_of_le HN0.out.lt ha
  have hfe5 := FeedsO.wideAny (n := 5) hfe
  clear hfe PC b2 HC0 HN0 HB0
  go_wp2
  refine (wpIn_wide (n := 6)).1 ?_
  have AB : AbideO T12 W0.heap.size (fun (pre : List Crv) X => CBox (w.heap.size + 1) 3 #[.int .i64 (pre.length : Int)] X ∧ (Below w.heap.size w X ∧ W0.heap.size ≤ X.heap.size) ∧ pre.length < 4096) := (abideO_boxP (by omega) (fun pre => #[.int .i64 (pre.length : Int)])).and ((abideO_below (by omega)).and (abideO_pre (fun pre => pre.length < 4096)))
  have HAB := Lib.hid AB
  refine wpIn_feedsO (T := T12) (ca := a) (cb := b) (enc := encC) (RES := RES) rfl (by decide) (gf := gf) (lb := lb) rfl trivial eg
    hfe5 (Mid.refl _ _ _) hb (fun _ => rfl) (fun pre X => CBox (w.heap.size + 1) 3 #[.int .i64 (pre.length : Int)] X ∧ (Below w.heap.size w X ∧ W0.heap.size ≤ X.heap.size) ∧ pre.length < 4096) (fun c pre X => (c = .exit 0 ∧ pre.length = 4096) ∧ (CBox (w.heap.size + 1) 3 #[.int .i64 4096] X) ∧ Below w.heap.size w X ∧ W0.heap.size ≤ X.heap.size)
    AB (fun c => (abideO_pre (fun pre => c = .exit 0 ∧ pre.length = 4096)).and ((abideO_box (by omega)).and (abideO_below (by omega)))) ⟨HQ.out, ⟨HB.out, Nat.le_refl _⟩, by decide⟩
    (fun x a' _ => a' = { tmps := #[.agg #[.int .i64 px, .int .i64 py, .int .i64 qx, .int .i64 qy, .int .i64 rx, .int .i64 ry, .int .i64 sx, .int .i64 sy], .pointer (some ⟨w.heap.size, 0, none⟩), .int .i64 0, .pointer (some ⟨w.heap.size + 1, 0, none⟩), .agg #[.int .i64 px, .int .i64 py, .int .i64 qx, .int .i64 qy, .int .i64 rx, .int .i64 ry, .int .i64 sx, .int .i64 sy], .func (.func gf) #[] lb, x.val, undef, undef, undef, undef, undef], defers := [] }) ?own ?assign ?body ?done ?stop
  case own =>
    rintro x a' _ X X' row h hg hr
    exact h
  case assign =>
    rintro l' pre x X K hj hws hpx hK
    have HJ3 := Lib.hid hj; have HK := Lib.hid hK
    clear hj hK AB
    unfold encC
    gi_wp2
    refine HK.out _ _ (KeepsFrom.refl _ _) (KeepsT.below (Below.refl _ _) (by omega)) HJ3.out ?_
    first | rfl | (simp [Array.zip]; done)
  case done =>
    rintro D X hD ⟨hn, ⟨hbe, hsz⟩, hl5⟩ hK
    have e5 : min 4096 RES.length = RES.length := by omega
    have E5 := Lib.hid e5
    have HBD := Lib.hid hbe; have HKD := Lib.hid hK
    have n0 : X.cell? ⟨w.heap.size + 1, 0, none⟩ = some (.int .i64 (RES.length : Int)) := hn.c 0 rfl
    clear hn hbe hK HAB AB e5
    go_wp2_with fail
    refine ⟨by simp, .inl ⟨_, _, rfl, run_takeDeferred HKD.out, ?_⟩⟩
    exact ⟨_, results_tmp (t := 2) (by rfl) _ _ _, by rw [E5.out]; rfl, HBD.out.grown (grownBy_putObj' X D _) HBD.out.size fun k e => by cases e; omega⟩
  case stop =>
    rintro D c pre X hD hpre ⟨⟨rfl, hp5⟩, hn, hbe, hsz⟩ hK
    have e5 : min 4096 RES.length = 4096 := by have := hpre.length_le; omega
    have E5 := Lib.hid e5
    have HBD := Lib.hid hbe; have HKD := Lib.hid hK
    have n0 : X.cell? ⟨w.heap.size + 1, 0, none⟩ = some (.int .i64 4096) := hn.c 0 rfl
    clear hn hbe hK HAB AB e5
    gi_wp2_with fail
    (try go_wp2_with fail)
    refine ⟨by simp, .inl ⟨_, _, rfl, run_takeDeferred HKD.out, ?_⟩⟩
    exact ⟨_, results_tmp (t := 2) (by rfl) _ _ _, by rw [E5.out]; rfl, HBD.out.grown (grownBy_putObj' X D _) HBD.out.size fun k e => by cases e; omega⟩
  case body =>
    rintro l' pre x a' X ⟨hn, ⟨hbe, hsz⟩, hl5⟩ rfl hws hpx
    have HLN := Lib.hid (show ((pre ++ [x]).length : Int) = (pre.length : Int) + 1 by simp)
    have HLM := Lib.hid (show (pre ++ [x]).length = pre.length + 1 by simp)
    have HN0 := Lib.hid hn; have HB0 := Lib.hid hbe
    have n0 : X.cell? ⟨w.heap.size + 1, 0, none⟩ = some (.int .i64 (pre.length : Int)) := hn.c 0 rfl; have n1 := hn.z 0
    have hm1 := Lib.hid (show w.heap.size + 1 ∈ [w.heap.size + 1] by simp)
    have he12 := Lib.hid (show ∀ k ∈ [w.heap.size + 1], k < W0.heap.size ∧ (k < a ∨ b ≤ k) by
      intro k hk
      simp only [List.mem_cons, List.not_mem_nil, or_false] at hk
      omega)
    have SM := Lib.hid ((Small12.refl W0.heap.size [w.heap.size + 1] X).set (o := 0) hm1.out (.int .i64 ((pre.length : Int) + 1)))
    have BE := Lib.hid (Below.setCell HB0.out (p := ⟨w.heap.size + 1, 0, none⟩) (show w.heap.size ≤ w.heap.size + 1 by omega) (.int .i64 ((pre.length : Int) + 1)))
    have NN := Lib.hid (HN0.out.set 0 (.int .i64 ((pre.length : Int) + 1)) (show (0 : Nat) < 1 by decide))
    clear hn hbe HAB AB
    generalize x.val = xv at *
    by_cases h5 : ((pre.length : Int) + 1 == 4096) = true
    · have h6 := Lib.hid (show (pre.length : Int) + 1 = 4096 by simpa using h5)
      gi_wp2_with fail
      have hk := SM.out.keeps (T := T12) hsz hb he12.out
      have NM := NN.out
      exact ⟨hk.1, ⟨rfl, by rw [HLM.out]; have := h6.out; omega⟩, by rw [h6.out] at NM ⊢; exact NM, BE.out, Nat.le_trans hsz SM.out.size⟩
    · have h6 : ((pre.length : Int) + 1 == 4096) = false := by simpa using h5
      have h7 := Lib.hid (show (pre.length : Int) + 1 ≠ 4096 by simpa using h5)
      gi_wp2_with fail
      have hk := SM.out.keeps (T := T12) hsz hb he12.out
      exact ⟨hk.1, hk.2, by rw [HLN.out]; exact NN.out, ⟨BE.out, Nat.le_trans hsz SM.out.size⟩, by rw [HLM.out]; have := h7.out; omega⟩
end Go.Proofs.Ytgkjbmejfcijkaa
