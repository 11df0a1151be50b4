/-
  Package flat's stack as it lies in memory: its things from the bottom on, nine cells each, and their number behind.
-/
import Derived.Test.YtgkjbmejfcijkaaJRow
import Derived.Test.YtgkjbmejfcijkaaJRet
namespace Go.Proofs.Ytgkjbmejfcijkaa
open Go.RowKit Go.Shelf

/-- A curve that came of so many cuts, as cells. -/
def brA (c : Crv) (k : Int) : Array Value := #[.int .i64 c.px, .int .i64 c.py, .int .i64 c.qx, .int .i64 c.qy, .int .i64 c.rx, .int .i64 c.ry, .int .i64 c.sx, .int .i64 c.sy, .int .i64 k]
def cutsI (n : Nat) : Int := 20 - (n : Int)
def brX (x : Crv × Nat) : Array Value := brA x.1 (cutsI x.2)
structure StkC (cs : Array Value) (s : List (Crv × Nat)) : Prop where
  size : cs.size = 190
  num : cs[189]? = some (.int .i64 (s.length : Int))
  row : ∀ i x, s.reverse[i]? = some x → i < 21 → ∀ j, j < 9 → cs[i * 9 + j]? = (brX x)[j]?
def put9 (cs : Array Value) (o : Nat) (v0 v1 v2 v3 v4 v5 v6 v7 v8 : Value) : Array Value :=
  ((((((((cs.setIfInBounds o v0).setIfInBounds (o + 1) v1).setIfInBounds (o + 2) v2).setIfInBounds (o + 3) v3).setIfInBounds (o + 4) v4).setIfInBounds (o + 5) v5).setIfInBounds (o + 6) v6).setIfInBounds (o + 7) v7).setIfInBounds (o + 8) v8
theorem put9_size (cs : Array Value) (o : Nat) (v0 v1 v2 v3 v4 v5 v6 v7 v8 : Value) : (put9 cs o v0 v1 v2 v3 v4 v5 v6 v7 v8).size = cs.size := by simp [put9]
theorem put9_other (cs : Array Value) (o : Nat) (v0 v1 v2 v3 v4 v5 v6 v7 v8 : Value) {q : Nat} (hq : q < o ∨ o + 9 ≤ q) : (put9 cs o v0 v1 v2 v3 v4 v5 v6 v7 v8)[q]? = cs[q]? := by
  unfold put9
  repeat rw [Array.getElem?_setIfInBounds_ne (by omega)]
theorem put9_same (cs : Array Value) (o : Nat) (v0 v1 v2 v3 v4 v5 v6 v7 v8 : Value) (ho : o + 9 ≤ cs.size) {j : Nat} (hj : j < 9) : (put9 cs o v0 v1 v2 v3 v4 v5 v6 v7 v8)[o + j]? = (#[v0, v1, v2, v3, v4, v5, v6, v7, v8] : Array Value)[j]? := by
  unfold put9
  rcases (show j = 0 ∨ j = 1 ∨ j = 2 ∨ j = 3 ∨ j = 4 ∨ j = 5 ∨ j = 6 ∨ j = 7 ∨ j = 8 by omega) with rfl | rfl | rfl | rfl | rfl | rfl | rfl | rfl | rfl <;>
    (simp only [Array.getElem?_setIfInBounds, Array.size_setIfInBounds]; simp; omega)
theorem StkC.push {cs : Array Value} {s : List (Crv × Nat)} (h : StkC cs s) (x : Crv × Nat) (hl : s.length < 21) {v0 v1 v2 v3 v4 v5 v6 v7 v8 : Value} (hv : brX x = #[v0, v1, v2, v3, v4, v5, v6, v7, v8]) :
    StkC ((put9 cs (s.length * 9) v0 v1 v2 v3 v4 v5 v6 v7 v8).setIfInBounds 189 (.int .i64 ((s.length : Int) + 1))) (x :: s) := by
  have hs := h.size
  refine ⟨by rw [Array.size_setIfInBounds, put9_size, hs], ?_, ?_⟩
  · rw [Array.getElem?_setIfInBounds_self_of_lt (by rw [put9_size]; omega)]
    simp
  · intro i y hy hi j hj
    rw [Array.getElem?_setIfInBounds_ne (by omega)]
    rw [List.reverse_cons] at hy
    by_cases hi2 : i < s.length
    · rw [List.getElem?_append_left (by simpa using hi2)] at hy
      rw [put9_other _ _ _ _ _ _ _ _ _ _ _ (by omega)]
      exact h.row i y hy hi j hj
    · rw [List.getElem?_append_right (by simp; omega)] at hy
      have hi3 : i = s.length := by
        have := (List.getElem?_eq_some_iff.1 hy).1
        simp at this; omega
      subst hi3
      rw [put9_same _ _ _ _ _ _ _ _ _ _ _ (by omega) hj]
      simp at hy
      rw [← hy, hv]
theorem StkC.pop {cs : Array Value} {s : List (Crv × Nat)} {x : Crv × Nat} (h : StkC cs (x :: s)) : StkC (cs.setIfInBounds 189 (.int .i64 (s.length : Int))) s := by
  have hs := h.size
  refine ⟨by rw [Array.size_setIfInBounds, hs], ?_, ?_⟩
  · rw [Array.getElem?_setIfInBounds_self_of_lt (by omega)]
  · intro i y hy hi j hj
    rw [Array.getElem?_setIfInBounds_ne (by omega)]
    refine h.row i y ?_ hi j hj
    rw [List.reverse_cons, List.getElem?_append_left (List.getElem?_eq_some_iff.1 hy).1]
    exact hy
theorem StkC.top {cs : Array Value} {s : List (Crv × Nat)} {x : Crv × Nat} (h : StkC cs (x :: s)) (hl : s.length < 21) {j : Nat} (hj : j < 9) : cs[s.length * 9 + j]? = (brX x)[j]? :=
  h.row s.length x (by rw [List.reverse_cons, List.getElem?_append_right (by simp)]; simp) hl j hj
theorem StkC.nil {cs : Array Value} (hs : cs.size = 190) (hn : cs[189]? = some (.int .i64 0)) : StkC cs [] :=
  ⟨hs, hn, fun i x hx => by simp at hx⟩

/-- The stack in a box. -/
def Stk (n : Nat) (s : List (Crv × Nat)) (w : World) : Prop := ∃ cs, CBox n 56 cs w ∧ StkC cs s
theorem CBox.setI {n : Nat} {t : TypeId} {cs : Array Value} {w : World} (h : CBox n t cs w) (o : Nat) (v : Value) : CBox n t (cs.setIfInBounds o v) (w.setCell ⟨n, o, none⟩ v) := by
  unfold CBox at *
  simp only [World.setCell, Array.getElem?_modify, h]
  simp
theorem CBox.put9 {n : Nat} {t : TypeId} {cs : Array Value} {w : World} (h : CBox n t cs w) (o : Nat) (v0 v1 v2 v3 v4 v5 v6 v7 v8 : Value) : CBox n t (put9 cs o v0 v1 v2 v3 v4 v5 v6 v7 v8)
    (((((((((w.setCell ⟨n, o, none⟩ v0).setCell ⟨n, o + 1, none⟩ v1).setCell ⟨n, o + 2, none⟩ v2).setCell ⟨n, o + 3, none⟩ v3).setCell ⟨n, o + 4, none⟩ v4).setCell ⟨n, o + 5, none⟩ v5).setCell ⟨n, o + 6, none⟩ v6).setCell ⟨n, o + 7, none⟩ v7).setCell ⟨n, o + 8, none⟩ v8) :=
  ((((((((h.setI _ _).setI _ _).setI _ _).setI _ _).setI _ _).setI _ _).setI _ _).setI _ _).setI _ _
theorem Stk.next {n : Nat} {s : List (Crv × Nat)} {w w' : World} (h : Stk n s w) (b : Below w.heap.size w w') : Stk n s w' := by
  obtain ⟨cs, h1, h2⟩ := h
  exact ⟨cs, h1.next b, h2⟩
theorem Stk.lt {n : Nat} {s : List (Crv × Nat)} {w : World} (h : Stk n s w) : n < w.heap.size := by
  obtain ⟨cs, h1, h2⟩ := h
  exact h1.lt
theorem But.setCell {R B : Nat} {W W' : World} (h : But R B W W') {q : Nat} (hq : q = B ∨ R ≤ q) (o : Nat) (v : Value) : But R B W (W'.setCell ⟨q, o, none⟩ v) :=
  ⟨h.os, h.tape, h.output, by have := h.size; simpa [World.setCell] using this, fun k h1 h2 => (Below.heap_setCell _ _ _ _ (by show k ≠ q; omega)).trans (h.block k h1 h2)⟩
theorem But.of_below {R B : Nat} {W W' : World} (h : Below R W W') : But R B W W' := ⟨h.os, h.tape, h.output, h.size, fun q hq _ => h.block q hq⟩
theorem But.trans {R R' B : Nat} {A C D : World} (h : But R B A C) (k : But R' B C D) (hr : R ≤ R') : But R B A D :=
  ⟨k.os.trans h.os, k.tape.trans h.tape, k.output.trans h.output, Nat.le_trans h.size k.size, fun q h1 h2 => (k.block q (Nat.lt_of_lt_of_le h1 hr) h2).trans (h.block q h1 h2)⟩
theorem But.drew {R B : Nat} {W W' : World} (h : But R B W W') : But R B W W'.drew := by
  exact ⟨h.os, h.tape, h.output, h.size, h.block⟩
theorem CBox.drew {n : Nat} {t : TypeId} {cs : Array Value} {w : World} (h : CBox n t cs w) : CBox n t cs w.drew := h
theorem but_9 {R B : Nat} {w w' : World} (h : But R B w w') (o : Nat) (v0 v1 v2 v3 v4 v5 v6 v7 v8 : Value) : But R B w
    (((((((((w'.setCell ⟨B, o, none⟩ v0).setCell ⟨B, o + 1, none⟩ v1).setCell ⟨B, o + 2, none⟩ v2).setCell ⟨B, o + 3, none⟩ v3).setCell ⟨B, o + 4, none⟩ v4).setCell ⟨B, o + 5, none⟩ v5).setCell ⟨B, o + 6, none⟩ v6).setCell ⟨B, o + 7, none⟩ v7).setCell ⟨B, o + 8, none⟩ v8) :=
  ((((((((h.setCell (.inl rfl) _ _).setCell (.inl rfl) _ _).setCell (.inl rfl) _ _).setCell (.inl rfl) _ _).setCell (.inl rfl) _ _).setCell (.inl rfl) _ _).setCell (.inl rfl) _ _).setCell (.inl rfl) _ _).setCell (.inl rfl) _ _
end Go.Proofs.Ytgkjbmejfcijkaa
