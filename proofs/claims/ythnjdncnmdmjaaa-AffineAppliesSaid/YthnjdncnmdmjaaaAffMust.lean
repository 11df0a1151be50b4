/-
  Package affine: what gives the work up; what is near, what is right.
-/
import Derived.Test.YthnjdncnmdmjaaaAffThenM
import Derived.Test.YthnjdncnmdmjaaaWithin
import Derived.Defers
import Derived.Recover
import Derived.WalkLawsBesides
namespace Go.Proofs.Ythnjdncnmdmjaaa
open Go.RowKit Go.Shelf

/-- How a call gives up: it panics with this error's number. -/
def Gives (z : Int) : Ending := .panicked [{ v := .iface 27 (.int .i64 z), recovered := false }]
theorem must_ok (z : Int) (w : World) : Calls Try.prog 36 #[.bool true, .int .i64 z] w fun e w' => e = .returned (.tuple #[]) ∧ w = w' := by
  go_enter Try.func36, Try.ntmps36
  go_wp2
  go_end0
  exact ⟨rfl, rfl⟩
theorem must_no (z : Int) (w : World) : Calls Try.prog 36 #[.bool false, .int .i64 z] w fun e w' => e = Gives z ∧ w = w' := by
  go_enter Try.func36, Try.ntmps36
  go_wp2
  exact ⟨rfl, rfl, rfl⟩
theorem wi_in (n : Int) : wiB 4294967296 n = decide (In32 n) := by
  unfold wiB In32
  exact decide_eq_decide.2 ⟨fun h => ⟨h.2, h.1⟩, fun h => ⟨h.2, h.1⟩⟩
theorem i64_bound : I64 4294967296 := ⟨by decide, by decide⟩
theorem near_any (x y : Int) (w : World) (hx : I64 x) (hy : I64 y) :
    Calls Try.prog 57 #[.agg #[.int .i64 x, .int .i64 y]] w fun e w' => e = .returned (.bool (decide (In32 x ∧ In32 y))) ∧ Below w.heap.size w w' := by
  have ed : [x, y].all (wiB 4294967296) = decide (In32 x ∧ In32 y) := by
    simp only [List.all_cons, List.all_nil, wi_in, Bool.and_true]
    rw [Bool.eq_iff_iff]; simp
  have WI := Lib.hid (show ∀ (w : World) (n : Nat), IntsK .i64 (some ⟨n, 0, none⟩) [x, y] w → Calls Try.prog 39 #[.int .i64 4294967296, .slice (some ⟨n, 0, none⟩) 2 2] w fun e w' => e = .returned (.bool (decide (In32 x ∧ In32 y))) ∧ w = w' from fun w n h => by
    have := within_any 4294967296 (some ⟨n, 0, none⟩) [x, y] 2 w i64_bound (by intro z hz; simp at hz; rcases hz with rfl | rfl <;> assumption) (show (2 : Nat) ≤ maxLen by unfold maxLen; omega) h
    rw [ed] at this; exact this)
  generalize decide (In32 x ∧ In32 y) = d at *
  clear ed hx hy
  go_enter Try.func57, Try.ntmps57
  go_wp2_with fail
  have b1 := (Below.refl w.heap.size w).alloc (Nat.le_refl _) (.cells #[.int .i64 x, .int .i64 y] 25)
  have s1 : (w.alloc (.cells #[.int .i64 x, .int .i64 y] 25)).heap.size = w.heap.size + 1 := by simp
  generalize w.alloc (.cells #[.int .i64 x, .int .i64 y] 25) = W1 at *
  have b2 := b1.alloc b1.size (.cells #[.int .i64 x, .int .i64 y] 2)
  have hn := World.alloc_heap_new W1 (.cells #[.int .i64 x, .int .i64 y] 2)
  have HI : IntsK .i64 (some ⟨w.heap.size + 1, 0, none⟩) [x, y] (W1.alloc (.cells #[.int .i64 x, .int .i64 y] 2)) := by
    rw [s1] at hn
    refine Or.inr ⟨w.heap.size + 1, 0, rfl, by simp; omega, fun i hi => ?_⟩
    rw [Nat.zero_add]
    unfold World.cell?
    rw [hn]
    have hi' : i < 2 := hi
    match i, hi' with
    | 0, _ => rfl
    | 1, _ => rfl
  refine (WI.out _ _ HI).mono ?_
  rintro e w3 ⟨rfl, rfl⟩
  clear HI hn WI
  go_wp2_with fail
  go_ret
  exact ⟨rfl, b2⟩
/-- Numbers such as may lie in memory. -/
def MI64 (m : Mtx) : Prop := I64 m.a ∧ I64 m.b ∧ I64 m.c ∧ I64 m.d ∧ I64 m.e ∧ I64 m.f
theorem me_ret {f : Func} {k : Nat} (hres : f.results = #[ResultVar.cell k 23]) {n : Nat} {w wr : World} {m : Mtx} {ts : Array Value} (hp : MBox n m wr) (hb : Below w.heap.size w wr) (hts : ts[k]? = some (.pointer (some ⟨n, 0, none⟩))) :
    bodyPost Try.prog f (fun e w' => e = .returned m.val ∧ Below w.heap.size w w') .ret { tmps := ts, defers := [] } wr := by
  have c0 := hp.c0; have c1 := hp.c1; have c2 := hp.c2; have c3 := hp.c3; have c4 := hp.c4; have c5 := hp.c5
  exact bodyPost_ret (v := m.val) (by simp [results, hres, go_sem, c0, c1, c2, c3, c4, c5, hts, Mtx.val, Mtx.cells]) rfl ⟨rfl, hb⟩
theorem pe_ret {f : Func} {k : Nat} (hres : f.results = #[ResultVar.cell k 25]) {n : Nat} {w wr : World} {x y : Int} {ts : Array Value} (hp : PBox n x y wr) (hb : Below w.heap.size w wr) (hts : ts[k]? = some (.pointer (some ⟨n, 0, none⟩))) :
    bodyPost Try.prog f (fun e w' => e = .returned (.agg #[.int .i64 x, .int .i64 y]) ∧ Below w.heap.size w w') .ret { tmps := ts, defers := [] } wr := by
  have c0 := hp.c0; have c1 := hp.c1
  exact bodyPost_ret (v := .agg #[.int .i64 x, .int .i64 y]) (by simp [results, hres, go_sem, c0, c1, hts]) rfl ⟨rfl, hb⟩
end Go.Proofs.Ythnjdncnmdmjaaa
