/-
  Rows of digits as values: plus, minus, less, of numbers that are not too great; a number stored as a result.
-/
import Derived.Test.YthnjdncnmdmjaaaMake
namespace Go.Proofs.Ythnjdncnmdmjaaa
open Go.RowKit Go.Shelf

/-- The value is the row of a number. -/
def RowV (v : Value) (x : Nat) (w : World) : Prop := ∃ a cap, v = .slice a (dg x).length cap ∧ Row a (dg x) w ∧ (dg x).length ≤ cap ∧ cap ≤ maxLen
theorem RowV.below {v : Value} {x : Nat} {w w' : World} (h : RowV v x w) {B : Nat} (hb : Below B w w') (hB : w.heap.size ≤ B) : RowV v x w' := by
  obtain ⟨a, cap, h1, h2, h3, h4⟩ := h
  exact ⟨a, cap, h1, h2.below hb hB, h3, h4⟩
theorem RowV.alloc {v : Value} {x : Nat} {w : World} (h : RowV v x w) (o : Obj) : RowV v x (w.alloc o) := h.below ((Below.refl w.heap.size w).alloc (Nat.le_refl _) o) (Nat.le_refl _)
theorem RowV.nil (w : World) : RowV (.slice none 0 0) 0 w := ⟨none, 0, by rw [dg_zero]; rfl, Or.inl dg_zero, by rw [dg_zero]; exact Nat.le_refl _, by simp⟩
theorem dg_one : dg 1 = [1] := by rw [dg_pos 1 (by decide), show 1 / 65536 = 0 from rfl, dg_zero]
theorem RowV.one (w : World) : RowV (.slice (some ⟨w.heap.size, 0, none⟩) 1 1) 1 (w.alloc (.cells #[.int .i64 1] 3)) := by
  refine ⟨_, 1, by rw [dg_one]; rfl, ?_, by rw [dg_one]; exact Nat.le_refl _, by unfold maxLen; omega⟩
  rw [dg_one]
  refine Or.inr ⟨w.heap.size, 0, rfl, by simp, fun i hi => ?_⟩
  have : i = 0 := by simpa using hi
  subst this
  simp

def GivesV (z : Nat) (w : World) (e : Ending) (w' : World) : Prop := ∃ v, e = .returned v ∧ RowV v z w' ∧ Below w.heap.size w w'
theorem GivesRow.toV {z : Nat} {w : World} {e : Ending} {w' : World} (h : GivesRow z w e w') : GivesV z w e w' := by
  obtain ⟨a, cap, h1, h2, h3, h4, h5⟩ := h
  exact ⟨_, h1, ⟨a, cap, rfl, h2, h3, h4⟩, h5⟩

/-- No number here is greater than this. -/
def Big : Nat := 65536 ^ 236
theorem big_len (x : Nat) (h : x ≤ 4 * Big) : (dg x).length ≤ 100000000 := by
  have h1 : 4 * Big < 65536 ^ 237 := by unfold Big; decide
  have := dg_length 237 x (Nat.lt_of_le_of_lt h h1)
  omega

theorem plus_v (v1 v2 : Value) (x y : Nat) (w : World) (b1 : x ≤ 4 * Big) (b2 : y ≤ 4 * Big) (h1 : RowV v1 x w) (h2 : RowV v2 y w) : Calls Try.prog 82 #[v1, v2] w (GivesV (x + y) w) := by
  obtain ⟨a, c1, rfl, r1, _, _⟩ := h1
  obtain ⟨b, c2, rfl, r2, _, _⟩ := h2
  exact (plus_any x y a b c1 c2 w (big_len x b1) (big_len y b2) r1 r2).mono fun e w' hg => hg.toV
theorem minus_v (v1 v2 : Value) (x y : Nat) (w : World) (hxy : y ≤ x) (b1 : x ≤ 4 * Big) (h1 : RowV v1 x w) (h2 : RowV v2 y w) : Calls Try.prog 84 #[v1, v2] w (GivesV (x - y) w) := by
  obtain ⟨a, c1, rfl, r1, _, _⟩ := h1
  obtain ⟨b, c2, rfl, r2, _, _⟩ := h2
  exact (minus_any x y a b c1 c2 w hxy (big_len x b1) r1 r2).mono fun e w' hg => hg.toV
theorem less_v (v1 v2 : Value) (x y : Nat) (w : World) (b1 : x ≤ 4 * Big) (h1 : RowV v1 x w) (h2 : RowV v2 y w) : Calls Try.prog 83 #[v1, v2] w fun e w' => e = .returned (.bool (decide (x < y))) ∧ Below w.heap.size w w' := by
  obtain ⟨a, c1, rfl, r1, _, _⟩ := h1
  obtain ⟨b, c2, rfl, r2, _, _⟩ := h2
  have k := less_any a b (dg x) (dg y) c1 c2 w (small_dg x) (small_dg y) (by have := big_len x b1; omega) r1 r2
  rw [less_dg] at k
  exact k.mono fun e w' ⟨he, n, hw⟩ => ⟨he, by subst hw; exact ⟨rfl, rfl, rfl, Nat.le_refl _, fun _ _ => rfl⟩⟩

theorem own_below {w w' : World} {B : Nat} {v : Value} {n : Nat} {xs : List Value} (h : w.ownsRow B 3 1 v n xs) (hb : Below w.heap.size w w') : w'.ownsRow B 3 1 v n xs :=
  h.kept (row := none) ⟨hb.os, hb.tape, hb.output, hb.size, fun k hk _ => hb.block k hk⟩ (by cases hv : v.ownBlock with | none => exact Or.inl rfl | some q => exact Or.inr (by simp))

/-- A row that lies in a block that stays. -/
theorem RowV.stays {v : Value} {x : Nat} {w w' : World} (h : RowV v x w) {g : Nat} (hg : v.ownBlock = some g) (hs : w.heap.size ≤ w'.heap.size) (hb : w'.heap[g]? = w.heap[g]?) : RowV v x w' := by
  obtain ⟨a, cap, rfl, hr, h3, h4⟩ := h
  refine ⟨a, cap, rfl, ?_, h3, h4⟩
  rcases hr with hr | ⟨b, off, rfl, hlt, hc⟩
  · exact Or.inl hr
  · have : b = g := by simpa [Value.ownBlock] using hg
    subst this
    exact Or.inr ⟨b, off, rfl, by omega, fun i hi => (World.cell?_of_block (w := w) (a := ⟨b, off + i, none⟩) hb).trans (hc i hi)⟩

theorem RowV.zero {v : Value} {w : World} (h : RowV v 0 w) : ∃ a cap, v = .slice a 0 cap := by
  obtain ⟨a, cap, h1, _⟩ := h
  rw [dg_zero] at h1
  exact ⟨a, cap, h1⟩
theorem RowV.posn {v : Value} {x : Nat} {w : World} (h : RowV v x w) (hx : x ≠ 0) : ∃ a n cap, v = .slice a (n + 1) cap ∧ n ≤ 1000000000000 + n := by
  obtain ⟨a, cap, h1, _⟩ := h
  rw [dg_pos x hx] at h1
  exact ⟨a, _, cap, h1, by omega⟩
theorem own_len {w : World} {B : Nat} {v : Value} {n : Nat} {xs : List Value} (h : w.ownsRow B 3 1 v n xs) : lenOf v = n := by
  rcases h.2 with ⟨rfl, rfl⟩ | ⟨g, cap, cur, rfl, _⟩ <;> rfl

/-- A result that is a number, stored at last. -/
theorem num_close {f : Func} (hres : f.results = #[ResultVar.cell 4 66]) {w wf : World} {r N : Nat} {neg b0 : Bool} {x a' : Option Addr} {n c cap' : Nat} {ts : Array Value}
    (NA : NumAt r b0 (.slice x n c) wf) (hB : Below w.heap.size w wf) (hr : w.heap.size ≤ r) (F : Row a' (dg N) wf ∧ (dg N).length ≤ cap' ∧ cap' ≤ maxLen) (hts : ts[4]? = some (.pointer (some ⟨r, 0, none⟩))) :
    bodyPost Try.prog f (GivesNum neg N w) Exit.ret { tmps := ts, defers := [] } ((wf.setCell ⟨r, 0, none⟩ (.bool neg)).setCell ⟨r, 1, none⟩ (.slice a' (dg N).length cap')) := by
  have F1 := NA.set (neg' := neg) (s' := .slice a' (dg N).length cap')
  refine bodyPost_ret (v := .agg #[.bool neg, .slice a' (dg N).length cap']) (by simp [results, hres, go_sem, F1.c0, F1.c1, hts]) rfl ⟨a', cap', rfl, F.1.far NA, F.2.1, F.2.2, ?_⟩
  exact Below.setCell (Below.setCell hB hr _) hr _

theorem num_close' {f : Func} (hres : f.results = #[ResultVar.cell 4 66]) {w wf : World} {r N n' : Nat} {neg b0 : Bool} {x a' : Option Addr} {n c cap' : Nat} {ts : Array Value} (hn : n' = (dg N).length)
    (NA : NumAt r b0 (.slice x n c) wf) (hB : Below w.heap.size w wf) (hr : w.heap.size ≤ r) (F : Row a' (dg N) wf ∧ (dg N).length ≤ cap' ∧ cap' ≤ maxLen) (hts : ts[4]? = some (.pointer (some ⟨r, 0, none⟩))) :
    bodyPost Try.prog f (GivesNum neg N w) Exit.ret { tmps := ts, defers := [] } ((wf.setCell ⟨r, 0, none⟩ (.bool neg)).setCell ⟨r, 1, none⟩ (.slice a' n' cap')) := by
  subst hn
  exact num_close hres NA hB hr F hts
end Go.Proofs.Ythnjdncnmdmjaaa
