/-
  The contracts of root's steps, Steps, last, Floor, Wide and Hypot.
-/
import Derived.Test.YthnjdncnmdmjaaaRootSteps
namespace Go.Proofs.Ythnjdncnmdmjaaa
open Go.RowKit Go.Shelf
attribute [local go_sem] Oper.semAt_some

/-- steps: an iterator over three new blocks. -/
theorem steps_raw (hi lo K : Nat) (w : World) :
    Calls Try.prog 81 #[.int .u64 (hi : Int), .int .u64 (lo : Int), .int .u64 (bitOf K : Int)] w fun e w' =>
      e = .returned (.func (.func 90) #[] #[.pointer (some ⟨w.heap.size + 1 + 1, 0, none⟩), .pointer (some ⟨w.heap.size, 0, none⟩), .pointer (some ⟨w.heap.size + 1, 0, none⟩)]) ∧
      w' = ((w.alloc (.cells #[.int .u64 (hi : Int)] 60)).alloc (.cells #[.int .u64 (lo : Int)] 60)).alloc (.cells #[.int .u64 (bitOf K : Int)] 60) := by
  go_enter Try.func81, Try.ntmps81
  go_wp2
  go_ret
  exact ⟨rfl, rfl⟩

/-- What a call leaves that hands over an iterator. -/
def GivesIter (hi lo K : Nat) (w : World) (e : Ending) (w' : World) : Prop := ∃ v, e = .returned v ∧ Iter v w.heap.size w'.heap.size hi lo K w' ∧ Below w.heap.size w w'

theorem steps_any (hi lo K : Nat) (w : World) :
    Calls Try.prog 81 #[.int .u64 (hi : Int), .int .u64 (lo : Int), .int .u64 (bitOf K : Int)] w (GivesIter hi lo K w) := by
  refine (steps_raw hi lo K w).mono ?_
  rintro e w' ⟨rfl, rfl⟩
  have c1 := Boxed.new w 60 (.int .u64 (hi : Int))
  have c2 := Boxed.new (w.alloc (.cells #[.int .u64 (hi : Int)] 60)) 60 (.int .u64 (lo : Int))
  have c3 := Boxed.new ((w.alloc (.cells #[.int .u64 (hi : Int)] 60)).alloc (.cells #[.int .u64 (lo : Int)] 60)) 60 (.int .u64 (bitOf K : Int))
  simp only [World.size_alloc] at c2 c3
  refine ⟨_, rfl, ⟨⟨_, _, _, rfl, (by constructor <;> (try simp only [World.size_alloc]) <;> omega), (by constructor <;> (try simp only [World.size_alloc]) <;> omega), (by constructor <;> (try simp only [World.size_alloc]) <;> omega), c3.cell, ((c1.alloc _).alloc _).cell, (c2.alloc _).cell⟩, Nat.le_refl _⟩, ?_⟩
  exact (((Below.refl _ w).alloc (Nat.le_refl _) _).alloc (by simp) _).alloc (by simp; omega) _

theorem Steps_any (lo : Nat) (w : World) : Calls Try.prog 88 #[.int .u64 (lo : Int)] w (GivesIter 0 lo 32 w) := by
  have C := Lib.hid (fun w => steps_any 0 lo 32 w)
  rw [show ((bitOf 32 : Nat) : Int) = 2147483648 from by decide] at C
  go_enter Try.func88, Try.ntmps88
  go_wp2_with fail
  refine (C.out _).mono ?_
  rintro e w' ⟨v, rfl, hv, hb⟩
  go_wp2_with fail
  go_ret
  exact ⟨v, rfl, hv, hb⟩

set_option maxRecDepth 100000 in
set_option maxHeartbeats 2000000 in
theorem last_any (v : Value) (a b hi lo K : Nat) (w : World) (h : Iter v a b hi lo K w) (hK : K ≤ 64) (hl : lo < 18446744073709551616) :
    Calls Try.prog 80 #[v] w fun e w' => e = .returned (.int .u64 ((rootL (hi * 18446744073709551616 + lo) 0 K : Nat) : Int)) ∧ Below w.heap.size w w' := by
  refine (callsIn_wide (n := 5)).1 ?_
  have hs := Boxed.new w 60 (.int .u64 0)
  have hB0 : Below w.heap.size w (w.alloc (.cells #[.int .u64 0] 60)) := (Below.refl _ w).alloc (Nat.le_refl _) _
  have hsz := h.size
  obtain ⟨lb, rfl, hq⟩ := (h.below hB0 hsz).stops (5 - 1) (by decide) hK hl
  have HL := Lib.hid (stepsL_last (hi * 18446744073709551616 + lo) K 0)
  generalize hi * 18446744073709551616 + lo = N at *
  refine callsIn_of_wp_marks Try.func80 rfl trivial ?_ rfl
  simp only [Try.ntmps80, List.size_toArray, List.length_cons, List.length_nil, Nat.reduceAdd, Nat.reduceSub, Array.replicate_succ, Array.replicate_zero, List.push_toArray, List.append_toArray, List.nil_append, List.cons_append]
  gi_wp2
  refine wpIn_rangeFunc_ownF rfl (by decide) (gf := 90) (lb := lb) rfl trivial (enters_of Try.func90 (by kernel_rfl) rfl)
    hq Mid.trans (midK_b (by simp; omega)) (Below.refl _ _) (fun _ => rfl)
    (fun pre W => (W.cell? ⟨w.heap.size, 0, none⟩ = some (.int .u64 ((pre.getLastD 0 : Nat) : Int)) ∧ W.frozen? ⟨w.heap.size, 0, none⟩ = false) ∧ Below w.heap.size w W)
    (fun _ _ _ => False)
    (OwnFrom.and (Own.from (fun s A B row hs hg hr => ⟨cell_kept hs.1 hg hr, (frozen_kept hs.1 hg hr).trans hs.2⟩) _) (ownFrom_below (Nat.le_refl _) (by simp)))
    (fun _ _ _ _ _ hs _ _ => hs)
    ⟨⟨hs.cell, hs.frozen⟩, hB0⟩
    (fun x => { tmps := #[.func (.func 90) #[] lb, undef, .int .u64 0, .pointer (some ⟨w.heap.size, 0, none⟩), .int .u64 (x : Int), .func (.func 90) #[] lb, .int .u64 (x : Int), undef, undef], defers := [] }) ?assign ?body ?done ?stop
  case assign =>
    intro l x W K hK
    gi_wp2
    exact hK
  case body =>
    rintro l pre x W ⟨⟨hc, hf⟩, hB⟩ _
    gi_wp2
    refine ⟨KeepsOthers.setCell _ _ _, (Mid.refl a b W).setCell (.inr hsz) 0 _, ⟨?_, by rw [World.frozen?_setCell]; exact hf⟩, hB.setCell (p := ⟨w.heap.size, 0, none⟩) (Nat.le_refl _) _⟩
    rw [show (pre ++ [x]).getLastD 0 = x from by simp [List.getLastD_eq_getLast?]]
    exact World.cell?_setCell_same' _ _ _ (by rw [hc]; rfl)
  case done =>
    rintro D ys W hD rfl ⟨⟨hc, _⟩, hB⟩ hK
    rw [HL.out] at hc
    gi_wp2
    refine ⟨by simp, .inl ⟨_, _, rfl, run_takeDeferred hK, ?_⟩⟩
    exact ⟨_, results_tmp rfl _ _ _, rfl, hB.trans (belowK_b (w := w) (Nat.le_refl _) W D _ _ (by simp at hD; omega) hK rfl rfl)⟩
  case stop =>
    rintro D c pre W _ _ h _
    exact h.elim

theorem Floor_any (n : Nat) (w : World) (hn : n < 18446744073709551616) : Calls Try.prog 72 #[.int .u64 (n : Int)] w fun e w' => e = .returned (.int .u64 ((rt n : Nat) : Int)) ∧ Below w.heap.size w w' := by
  have C := Lib.hid (fun w => Steps_any n w)
  have D := Lib.hid (fun v a b w h => last_any v a b 0 n 32 w h (by decide) hn)
  rw [show rootL (0 * 18446744073709551616 + n) 0 32 = rt n from by rw [Nat.zero_mul, Nat.zero_add]; exact rt_short n hn] at D
  clear hn
  generalize rt n = r at *
  go_enter Try.func72, Try.ntmps72
  go_wp2_with fail
  refine (C.out _).mono ?_
  rintro e w1 ⟨v, rfl, hv, hb⟩
  have HV := Lib.hid hv
  clear hv
  go_wp2_with fail
  refine (D.out _ _ _ _ HV.out).mono ?_
  rintro e w2 ⟨rfl, hb2⟩
  go_wp2_with fail
  go_ret
  exact ⟨rfl, hb.trans (hb2.mono hb.size)⟩

theorem Wide_any (hi lo : Nat) (w : World) (hl : lo < 18446744073709551616) : Calls Try.prog 62 #[.int .u64 (hi : Int), .int .u64 (lo : Int)] w fun e w' => e = .returned (.int .u64 ((rt (hi * 18446744073709551616 + lo) : Nat) : Int)) ∧ Below w.heap.size w w' := by
  have C := Lib.hid (fun w => steps_any hi lo 64 w)
  rw [show ((bitOf 64 : Nat) : Int) = 9223372036854775808 from by decide] at C
  have D := Lib.hid (fun v a b w h => last_any v a b hi lo 64 w h (by decide) hl)
  rw [show rootL (hi * 18446744073709551616 + lo) 0 64 = rt (hi * 18446744073709551616 + lo) from rfl] at D
  clear hl
  generalize rt (hi * 18446744073709551616 + lo) = r at *
  go_enter Try.func62, Try.ntmps62
  go_wp2_with fail
  refine (C.out _).mono ?_
  rintro e w1 ⟨v, rfl, hv, hb⟩
  have HV := Lib.hid hv
  clear hv
  go_wp2_with fail
  refine (D.out _ _ _ _ HV.out).mono ?_
  rintro e w2 ⟨rfl, hb2⟩
  go_wp2_with fail
  go_ret
  exact ⟨rfl, hb.trans (hb2.mono hb.size)⟩
end Go.Proofs.Ythnjdncnmdmjaaa
