/-
  The contract of the law's told: the steps, as far as so many, in a row of its own.
-/
import Derived.Test.YteidcfibmgjedaaRootLast
namespace Go.Proofs.Yteidcfibmgjedaa
open Go.RowKit Go.Shelf
attribute [local go_sem] Oper.semAt_some

theorem info_u64 : (Try.prog.info? 22).map (fun i => (i.zero, i.size, i.bytes)) = some (some (.int .u64 0), 1, 8) := by kernel_rfl

def cellsU (zs : List Nat) : List Value := zs.map fun (z : Nat) => Value.int .u64 (z : Int)

/-- What told leaves. -/
def GivesTold (zs : List Nat) (w : World) (e : Ending) (w' : World) : Prop := ∃ v, e = .returned v ∧ w'.ownsRow w.heap.size 22 1 v zs.length (cellsU zs) ∧ Below w.heap.size w w'

set_option maxRecDepth 100000 in
set_option maxHeartbeats 2000000 in
theorem told_any (n m : Nat) (w : World) (hn : n < 18446744073709551616) (_hm : m ≤ 1000) :
    Calls Try.prog 15 #[.int .u64 (n : Int), .int .i64 (m : Int)] w (GivesTold ((stepsL n 0 32).take m) w) := by
  refine (callsIn_wide (n := 6)).1 ?_
  have C := Lib.hid (fun w => (callsIn_wide (n := 6 - 1)).2 (Steps_any n w))
  obtain ⟨i0, hi, hz0, hz1, hz2⟩ := info_parts info_u64
  have SL := Lib.hid (stepsL_length n 32 0)
  refine callsIn_of_wp_marks Try.func15 rfl trivial ?_ rfl
  simp only [Try.ntmps15, List.size_toArray, List.length_cons, List.length_nil, Nat.reduceAdd, Nat.reduceSub, Array.replicate_succ, Array.replicate_zero, List.push_toArray, List.append_toArray, List.nil_append, List.cons_append]
  gi_wp2_with fail
  refine ⟨trivial, (C.out _).mono ?_⟩
  have b1 := Boxed.new w 3 (.int .i64 (m : Int))
  have b2 := Boxed.new (w.alloc (.cells #[.int .i64 (m : Int)] 3)) 36 (.slice none 0 0)
  rw [World.size_alloc] at b2
  have hB1 : Below w.heap.size w ((w.alloc (.cells #[.int .i64 (m : Int)] 3)).alloc (.cells #[.slice none 0 0] 36)) := ((Below.refl _ w).alloc (Nat.le_refl _) _).alloc (by simp) _
  have b1' := b1.alloc (.cells #[.slice none 0 0] 36)
  have hsz : ((w.alloc (.cells #[.int .i64 (m : Int)] 3)).alloc (.cells #[.slice none 0 0] 36)).heap.size = w.heap.size + 1 + 1 := by simp
  clear b1
  generalize (w.alloc (.cells #[.int .i64 (m : Int)] 3)).alloc (.cells #[.slice none 0 0] 36) = W1 at *
  rintro e W0 ⟨sv, rfl, hv, hb⟩
  obtain ⟨lb, rfl, hq⟩ := hv.stops (6 - 1) (by decide) (by decide) hn
  rw [Nat.zero_mul, Nat.zero_add, hsz] at hq
  rw [hsz] at hb
  have c1 : Boxed W0 w.heap.size 3 (.int .i64 (m : Int)) := (hb.block _ (by omega)).trans b1'
  have c2 : Boxed W0 (w.heap.size + 1) 36 (.slice none 0 0) := (hb.block _ (by omega)).trans b2
  have hB0 : Below w.heap.size w W0 := hB1.trans (hb.mono (by omega))
  have hge : w.heap.size + 1 + 1 ≤ W0.heap.size := by have := hb.size; omega
  clear hv hb b1' b2 hB1 hsz
  have hrun : Sem.run Try.prog (binOp BinOp.neq 42 (Value.func (.func 28) #[] lb) Value.nilFunc) W0 = .ok (.bool true) W0 := by kernel_rfl
  gi_wp2
  refine wpIn_rangeFunc_ownF rfl (by decide) (gf := 28) (lb := lb) rfl trivial (enters_of Try.func28 (by kernel_rfl) rfl)
    hq Mid.trans (midK_b (Nat.le_refl _)) (Below.refl _ _) (fun _ => rfl)
    (fun pre W => ((∃ v, Boxed W (w.heap.size + 1) 36 v ∧ W.ownsRow W0.heap.size 22 1 v pre.length (cellsU pre) ∧ pre.length ≤ m) ∧ W.cell? ⟨w.heap.size, 0, none⟩ = some (.int .i64 (m : Int))) ∧ Below w.heap.size W0 W)
    (fun c pre W => ((∃ v, Boxed W (w.heap.size + 1) 36 v ∧ W.ownsRow W0.heap.size 22 1 v (pre.take m).length (cellsU (pre.take m)) ∧ (c = .exit 0 ∧ m ≤ pre.length)) ∧ W.cell? ⟨w.heap.size, 0, none⟩ = some (.int .i64 (m : Int))) ∧ Below w.heap.size W0 W)
    (OwnFrom.and (OwnFrom.and (Own.from (holdsRow_own W0.heap.size (w.heap.size + 1) 36 22 1 (fun pre : List Nat => pre.length) (fun pre : List Nat => cellsU pre) (fun (pre : List Nat) _ => pre.length ≤ m)) _) (Own.from (fun s A B row hs hg hr => cell_kept hs hg hr) _)) (ownFrom_below (by omega) (by omega)))
    (fun c => OwnFrom.and (OwnFrom.and (Own.from (holdsRow_own W0.heap.size (w.heap.size + 1) 36 22 1 (fun pre : List Nat => (pre.take m).length) (fun pre : List Nat => cellsU (pre.take m)) (fun (pre : List Nat) _ => c = .exit 0 ∧ m ≤ pre.length)) _) (Own.from (fun s A B row hs hg hr => cell_kept hs hg hr) _)) (ownFrom_below (by omega) (by omega)))
    ⟨⟨⟨_, c2, World.ownsRow_nil _ _ _ _, Nat.zero_le _⟩, c1.cell⟩, Below.refl _ _⟩
    (fun x => { tmps := #[.int .u64 (n : Int), .int .i64 (m : Int), undef, .pointer (some ⟨w.heap.size, 0, none⟩), .slice none 0 0, .pointer (some ⟨w.heap.size + 1, 0, none⟩), .func (.func 28) #[] lb, .int .u64 (x : Int), .int .u64 (n : Int), .func (.func 28) #[] lb, .func (.func 28) #[] lb, .bool true, .func (.func 28) #[] lb, .int .u64 (x : Int), undef, undef, undef, undef, undef, undef, undef, undef, undef], defers := [] }) ?assign ?body ?done ?stop
  case assign =>
    intro l x W K hK
    gi_wp2
    exact hK
  case body =>
    rintro l pre x W ⟨⟨⟨v, hv, hrow, hpl⟩, hm0⟩, hB⟩ hlt
    obtain ⟨a', cap', rfl⟩ := own_shape hrow
    have hc := hv.cell
    by_cases hlt2 : pre.length < m
    · have d1 : decide ((m : Int) ≤ (pre.length : Int)) = false := by simp; omega
      have HB := Lib.hid hB
      have hws := hB.size
      have HM0 := Lib.hid hm0
      clear hB hpl
      gi_wp2_with (gi_at_builtin; refine wpListIn_append_own _ rfl _ _ 36 rfl W0.heap.size 22 i0 (.int .u64 0) 1 8 Try.underlying36 hi hz0 hz1 hz2 rfl (by decide) _ _ _ rfl (hrow.alloc _) ⟨W.heap.size, 0, none⟩ 1 1 [.int .u64 (x : Int)] rfl rfl (cell_one_new _ _ _) (by simp [Value.oneCell']) (by unfold maxLen; omega) (by omega) (by simp; omega) ?_; intro v' w1 hown' hgrow _; obtain ⟨g', cap2, rfl⟩ := ownsRow_succ hown'; obtain ⟨hv1, hv2, hr2, hk2, hb2⟩ := appended2 hv (by decide) hrow (by omega) hown' hgrow; have hc1 := hv1.cell; have hf1 := hv1.frozen)
      refine ⟨hk2, hb2.mid (Nat.le_refl _) (.inl (by omega)), ⟨⟨_, hv2, ?_, by simp; omega⟩, ?_⟩, HB.out.trans (hb2.below (by omega) (by omega))⟩
      · rw [List.length_append, List.length_cons, List.length_nil, show cellsU (pre ++ [x]) = cellsU pre ++ [.int .u64 (x : Int)] from by simp [cellsU]]; exact hr2
      · exact (World.cell?_of_block (w := W) (a := ⟨w.heap.size, 0, none⟩) (hb2.block w.heap.size (by omega) (by omega))).trans HM0.out
    · have d1 : decide ((m : Int) ≤ (pre.length : Int)) = true := by simp; omega
      have e1 : (pre ++ [x]).take m = pre := by rw [show m = pre.length from by omega]; simp
      have HE := Lib.hid e1
      clear e1
      gi_wp2
      exact ⟨KeepsOthers.refl _, ⟨⟨_, hv, by rw [HE.out]; exact hrow, rfl, by simp; omega⟩, hm0⟩, hB⟩
  case done =>
    rintro D ys W hD rfl ⟨⟨⟨v, hv, hrow, hpl⟩, hm0⟩, hB⟩ hK
    have hc := hv.cell
    gi_wp2
    refine ⟨by simp, .inl ⟨_, _, rfl, run_takeDeferred hK, ?_⟩⟩
    refine ⟨_, results_tmp rfl _ _ _, v, rfl, ?_, (hB0.trans hB).trans (belowK_b (w := W0) (by omega) W D _ _ hD hK rfl rfl)⟩
    rw [List.take_of_length_le hpl]
    exact own_lower (ownsRow_putObj hrow _ hK rfl) (by omega)
  case stop =>
    rintro D c pre W hD hpre ⟨⟨⟨v, hv, hrow, rfl, hpl⟩, hm0⟩, hB⟩ hK
    have hc := hv.cell
    gi_wp2
    refine ⟨by simp, .inl ⟨_, _, rfl, run_takeDeferred hK, ?_⟩⟩
    refine ⟨_, results_tmp rfl _ _ _, v, rfl, ?_, (hB0.trans hB).trans (belowK_b (w := W0) (by omega) W D _ _ hD hK rfl rfl)⟩
    obtain ⟨rest, hr⟩ := hpre
    rw [← hr, List.take_append_of_le_length hpl]
    exact own_lower (ownsRow_putObj hrow _ hK rfl) (by omega)
end Go.Proofs.Yteidcfibmgjedaa
