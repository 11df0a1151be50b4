/-
  Texts that are too long: package path's read, Parse, All; the law's told of such a text.
-/
import Derived.Test.YtgiibcnakiggaaaDoorPathMem
import Derived.Test.YtgiibcnakiggaaaDoorIter
import Derived.WalkMore
namespace Go.Proofs.YtgiibcnakiggaaaDoor
open Go.RowKit Go.Shelf
attribute [local go_sem] Oper.semAt_some

theorem read_long (s : ByteArray) (f : Value) (w : World) (hs : 65536 < s.size) (_hm : s.size ≤ maxLen) :
    Calls Tryd.prog 27 #[.string s, f] w fun e w' => e = .returned (.tuple #[.int .i64 (-1), .int .i64 4]) ∧ w = w' := by
  have hI : (65536 : Int) < (s.size : Int) := by omega
  go_enter Tryd.func27, Tryd.ntmps27
  go_wp2_with fail
  go_step3
  go_wp2_with fail
  (try rw [Exit.noGoto_ret]); go_ret2
  exact ⟨rfl, rfl⟩
theorem Parse_long (s : ByteArray) (w : World) (hs : 65536 < s.size) (hm : s.size ≤ maxLen) :
    Calls Tryd.prog 15 #[.string s] w fun e w' => e = .returned (.tuple #[.slice none 0 0, .int .i64 (-1), .int .i64 4]) ∧ Below w.heap.size w w' := by
  have R := Lib.hid (fun f w => read_long s f w hs hm)
  have hb := Lib.hid ((Below.refl w.heap.size w).alloc (Nat.le_refl _) (.cells #[.slice none 0 0] 23))
  clear hs hm
  go_enter Tryd.func15, Tryd.ntmps15
  go_wp2_with fail
  refine (R.out _ _).mono ?_
  rintro e w1 ⟨rfl, rfl⟩
  go_wp2_with fail
  go_ret3
  exact ⟨rfl, hb.out⟩
theorem All_any (s : ByteArray) (w : World) : Calls Tryd.prog 22 #[.string s] w fun e w' => e = .returned (.func (.func 32) #[] #[.pointer (some ⟨w.heap.size, 0, none⟩)]) ∧ Go.Boxed w' w.heap.size 9 (.string s) ∧ Below w.heap.size w w' := by
  have hb := Lib.hid ((Below.refl w.heap.size w).alloc (Nat.le_refl _) (.cells #[.string s] 9))
  have hx := Lib.hid (Go.Boxed.new w 9 (.string s))
  go_enter Tryd.func22, Tryd.ntmps22
  go_wp2_with fail
  go_ret
  exact ⟨rfl, hx.out, hb.out⟩
theorem all1_long (s : ByteArray) (B : Nat) (f : Value) (w : World) (hx : Go.Boxed w B 9 (.string s)) (hs : 65536 < s.size) (hm : s.size ≤ maxLen) :
    Calls Tryd.prog 32 #[f, .pointer (some ⟨B, 0, none⟩)] w fun e w' => (∃ v, e = .returned v) ∧ w = w' := by
  have R := Lib.hid (fun f w => read_long s f w hs hm)
  have hc := hx.cell
  clear hs hm hx
  go_enter Tryd.func32, Tryd.ntmps32
  go_wp2_with fail
  refine (R.out _ _).mono ?_
  rintro e w1 ⟨rfl, rfl⟩
  go_wp2_with fail
  go_end0
  exact ⟨⟨_, rfl⟩, rfl⟩
/-- The iterator's contract: nothing comes. -/
theorem long_stops (s : ByteArray) (B n : Nat) (w : World) (hx : Go.Boxed w B 9 (.string s)) (hs : 65536 < s.size) (hm : s.size ≤ maxLen) :
    SeqStopsK Fence.wide n Tryd.prog 32 #[.pointer (some ⟨B, 0, none⟩)] (fun x : Nat => #[Value.agg #[.int .u8 (x : Int), .slice none 0 0]]) (Below w.heap.size) (fun ys => ys = []) (fun _ => False) 0 w := by
  intro l J Jx W hW _ _ _ h0
  refine (callsIn_wide (n := n)).2 ((all1_long s B _ W ((hW.block B hx.lt).trans hx) hs hm).mono ?_)
  rintro e w' ⟨hv, rfl⟩
  exact ⟨hv, .inl ⟨[], rfl, h0⟩⟩
set_option maxRecDepth 100000 in
set_option maxHeartbeats 2000000 in
theorem told_long (s : ByteArray) (m : Nat) (w : World) (hs : 65536 < s.size) (hmx : s.size ≤ maxLen) :
    Calls Tryd.prog 9 #[.string s, .int .i64 (m : Int)] w fun e w' => e = .returned (.slice none 0 0) ∧ Below w.heap.size w w' := by
  refine (callsIn_wide (n := 6)).1 ?_
  have C := Lib.hid (fun w => (callsIn_wide (n := 6 - 1)).2 (All_any s w))
  refine callsIn_of_wp_marks Tryd.func9 rfl trivial ?_ rfl
  simp only [Tryd.ntmps9, List.size_toArray, List.length_cons, List.length_nil, Nat.reduceAdd, Nat.reduceSub, Array.replicate_succ, Array.replicate_zero, List.push_toArray, List.append_toArray, List.nil_append, List.cons_append]
  gi_wp2_with fail
  refine ⟨trivial, (C.out _).mono ?_⟩
  have b1 := Go.Boxed.new w 3 (.int .i64 (m : Int))
  have b2 := Go.Boxed.new (w.alloc (.cells #[.int .i64 (m : Int)] 3)) 23 (.slice none 0 0)
  rw [World.size_alloc] at b2
  have hB1 : Below w.heap.size w ((w.alloc (.cells #[.int .i64 (m : Int)] 3)).alloc (.cells #[.slice none 0 0] 23)) := ((Below.refl _ w).alloc (Nat.le_refl _) _).alloc (by simp) _
  have hsz : ((w.alloc (.cells #[.int .i64 (m : Int)] 3)).alloc (.cells #[.slice none 0 0] 23)).heap.size = w.heap.size + 1 + 1 := by simp
  clear b1
  generalize (w.alloc (.cells #[.int .i64 (m : Int)] 3)).alloc (.cells #[.slice none 0 0] 23) = W1 at *
  rintro e W0 ⟨rfl, hx, hb⟩
  rw [hsz] at hx hb
  have c2 : Go.Boxed W0 (w.heap.size + 1) 23 (.slice none 0 0) := (hb.block _ (by omega)).trans b2
  have hB0 : Below w.heap.size w W0 := hB1.trans (hb.mono (by omega))
  have hge : w.heap.size + 1 + 1 ≤ W0.heap.size := by have := hx.lt; omega
  have hq := long_stops s (w.heap.size + 1 + 1) (6 - 1) W0 hx hs hmx
  rw [hsz]
  clear hb b2 hB1 hsz
  have hrun : Sem.run Tryd.prog (binOp BinOp.neq 57 (Value.func (.func 32) #[] #[.pointer (some ⟨w.heap.size + 1 + 1, 0, none⟩)]) Value.nilFunc) W0 = .ok (.bool true) W0 := by kernel_rfl
  gi_wp2
  refine wpIn_rangeFunc_ownH rfl (by decide) (gf := 32) (lb := #[.pointer (some ⟨w.heap.size + 1 + 1, 0, none⟩)]) rfl trivial (enters_of Tryd.func32 (by kernel_rfl) rfl)
    hq belowK_t (belowK_b (Nat.le_refl _)) (Below.refl _ _) (fun _ => rfl)
    (fun _ W => Go.Boxed W (w.heap.size + 1) 23 (.slice none 0 0) ∧ Below w.heap.size W0 W)
    (fun _ _ _ => False)
    (OwnFrom.and (Own.from (boxed_own _ _ _) _) (ownFrom_below (by omega) (by omega)))
    (fun _ => ownFrom_pure _ _)
    ⟨c2, Below.refl _ _⟩
    (fun _ _ _ => True) (fun _ _ => ownFrom_pure _ _) ?assign ?body ?done ?stop
  case assign =>
    rintro l pre x W K ⟨hv, hB⟩ hK
    have hws := hB.size
    gi_wp2
    exact hK _ _ ((KeepsOthers.alloc _ _).from _) ((Below.refl _ W).alloc (by omega) _) ⟨hv.alloc _, hB.alloc (by omega) _⟩ trivial
  case body =>
    intro l pre x a' W _ _ _ _ hlt
    exact absurd hlt (Nat.not_lt_zero _)
  case done =>
    rintro D ys W hD rfl ⟨hv, hB⟩ hK
    have hc := hv.cell
    gi_wp2
    refine ⟨by simp, .inl ⟨_, _, rfl, run_takeDeferred hK, ?_⟩⟩
    refine ⟨_, results_tmp rfl _ _ _, rfl, (hB0.trans hB).trans (belowK_b (w := W0) (by omega) W D _ _ hD hK rfl rfl)⟩
  case stop =>
    rintro D c pre W hD hpre _ hK
    exact hpre.elim
end Go.Proofs.YtgiibcnakiggaaaDoor
