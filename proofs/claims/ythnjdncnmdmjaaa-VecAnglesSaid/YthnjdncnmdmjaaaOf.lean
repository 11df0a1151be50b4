/-
  The contract of the document's answer for layer 1: Of, a plain number's sign and digits.
-/
import Derived.Test.YthnjdncnmdmjaaaMinus
namespace Go.Proofs.Ythnjdncnmdmjaaa
open Go.RowKit Go.Shelf

/-- What a call leaves that answers a sign and the row of a number. -/
def GivesNum (neg : Bool) (z : Nat) (w : World) (e : Ending) (w' : World) : Prop :=
  ∃ a cap, e = .returned (.agg #[.bool neg, .slice a (dg z).length cap]) ∧ Row a (dg z) w' ∧ (dg z).length ≤ cap ∧ cap ≤ maxLen ∧ Below w.heap.size w w'

theorem heap_put {b : Nat} {c : Array Value} {t : TypeId} {w : World} (o : Nat) (v : Value) (H : w.heap[b]? = some (.cells c t)) : (w.setCell ⟨b, o, none⟩ v).heap[b]? = some (.cells (c.setIfInBounds o v) t) := by
  simp only [World.setCell, Array.getElem?_modify, H]
  simp

/-- Block b holds a sign and a row. -/
def NumAt (b : Nat) (neg : Bool) (s : Value) (w : World) : Prop := w.heap[b]? = some (.cells #[.bool neg, s] 66)
theorem NumAt.lt {b : Nat} {neg : Bool} {s : Value} {w : World} (h : NumAt b neg s w) : b < w.heap.size := (Array.getElem?_eq_some_iff.1 h).1
theorem NumAt.c0 {b : Nat} {neg : Bool} {s : Value} {w : World} (h : NumAt b neg s w) : w.cell? ⟨b, 0, none⟩ = some (.bool neg) := by unfold NumAt at h; simp [World.cell?, h]
theorem NumAt.c1 {b : Nat} {neg : Bool} {s : Value} {w : World} (h : NumAt b neg s w) : w.cell? ⟨b, 1, none⟩ = some s := by unfold NumAt at h; simp [World.cell?, h]
theorem NumAt.z0 {b : Nat} {neg : Bool} {s : Value} {w : World} (h : NumAt b neg s w) : w.frozen? ⟨b, 0, none⟩ = false := by unfold NumAt at h; simp [World.frozen?, h]
theorem NumAt.z1 {b : Nat} {neg : Bool} {s : Value} {w : World} (h : NumAt b neg s w) : w.frozen? ⟨b, 1, none⟩ = false := by unfold NumAt at h; simp [World.frozen?, h]
theorem NumAt.new (w : World) (neg : Bool) (s : Value) : NumAt w.heap.size neg s (w.alloc (.cells #[.bool neg, s] 66)) := by
  show (w.heap.push _)[w.heap.size]? = _
  rw [Array.getElem?_push, if_pos rfl]
theorem NumAt.below {b B : Nat} {neg : Bool} {s : Value} {w w' : World} (h : NumAt b neg s w) (t : Below B w w') (hb : b < B) : NumAt b neg s w' := by
  unfold NumAt at *
  rw [t.block b hb]; exact h
theorem NumAt.alloc {b : Nat} {neg : Bool} {s : Value} {w : World} (h : NumAt b neg s w) (o : Obj) : NumAt b neg s (w.alloc o) := by
  have := h.lt
  unfold NumAt at *
  rw [Below.heap_alloc _ _ _ this]; exact h
/-- A store into both cells. -/
theorem NumAt.set {b : Nat} {neg neg' : Bool} {s s' : Value} {w : World} (h : NumAt b neg s w) : NumAt b neg' s' ((w.setCell ⟨b, 0, none⟩ (.bool neg')).setCell ⟨b, 1, none⟩ s') := heap_put 1 _ (heap_put 0 _ h)

/-- A row of digits never lies in a block that holds a sign and a slice. -/
theorem Row.far {a : Option Addr} {zs : List Nat} {w : World} {q : Nat} {neg : Bool} {x : Option Addr} {n c : Nat} (h : Row a zs w) (hq : NumAt q neg (.slice x n c) w) {neg' : Bool} {s' : Value} :
    Row a zs ((w.setCell ⟨q, 0, none⟩ (.bool neg')).setCell ⟨q, 1, none⟩ s') := by
  rcases h with h | ⟨b, off, ha, hlt, hc⟩
  · exact Or.inl h
  · by_cases hz : zs = []
    · exact Or.inl hz
    · have hne : b ≠ q := by
        rintro rfl
        have h0 := hc 0 (List.length_pos_iff.2 hz)
        unfold NumAt at hq
        simp only [World.cell?, hq] at h0
        rcases off with _ | _ | off <;> simp at h0
      refine Or.inr ⟨b, off, ha, by simpa [World.setCell] using hlt, fun i hi => ?_⟩
      rw [World.cell?_of_block (w := w) (a := ⟨b, off + i, none⟩) ((Below.heap_setCell _ _ _ _ (by exact hne)).trans (Below.heap_setCell _ _ _ _ (by exact hne)))]
      exact hc i hi

/-- What Of's loop keeps: the digits so far, and what is left. -/
def OfInv (neg : Bool) (N B : Nat) (w : World) (c v i : Value) (wr : World) : Prop :=
  ∃ (k m : Nat) (os : List Nat), i = .int .i64 (k : Int) ∧ c = .int .i64 (if neg then -(m : Int) else (m : Int)) ∧ os.length = k ∧ Small os ∧ wr.ownsRow B 3 1 v k (cellsN os) ∧ Below B w wr ∧
    val os + 65536 ^ k * m = N ∧ m ≤ N ∧ k ≤ 4

theorem of_step (os : List Nat) (k m N : Nat) (hl : os.length = k) (h : val os + 65536 ^ k * m = N) : val (os ++ [m % 65536]) + 65536 ^ (k + 1) * (m / 65536) = N := by
  rw [val_snoc, hl, Nat.pow_succ, Nat.mul_assoc, Nat.add_assoc, ← Nat.mul_add, Nat.mod_add_div]
  exact h

theorem of_next (neg : Bool) (N B : Nat) (w wr w1 : World) (k m : Nat) (os : List Nat) (dI cI : Int) (v' : Value) (hl : os.length = k) (hs : Small os) (hb : Below B w wr) (hv : val os + 65536 ^ k * m = N) (hm : m ≤ N) (hk : k < 4)
    (e1 : dI = ((m % 65536 : Nat) : Int)) (e2 : cI = if neg then -((m / 65536 : Nat) : Int) else ((m / 65536 : Nat) : Int))
    (hown : w1.ownsRow B 3 1 v' (k + 1) (cellsN os ++ [.int .i64 dI])) (hb1 : Below B wr w1) :
    OfInv neg N B w (.int .i64 cI) v' (.int .i64 ((k : Int) + 1)) w1 := by
  subst e1 e2
  exact ⟨k + 1, m / 65536, os ++ [m % 65536], by rw [show (k : Int) + 1 = ((k + 1 : Nat) : Int) from by omega], rfl, by simp [hl], small_snoc hs (by omega), by rw [cellsN_snoc]; exact hown, hb.trans hb1, of_step os k m N hl hv, by omega, by omega⟩

/-- A row of the call's own, without its noughts ahead. -/
theorem own_trims' {w wr : World} {B : Nat} {v : Value} {os : List Nat} (hown : wr.ownsRow B 3 1 v os.length (cellsN os)) (hs : Small os) (hb : Below B w wr) :
    ∃ a cap, v = .slice a os.length cap ∧ (Calls Try.prog 73 #[.slice a os.length cap] wr fun e w' => e = .returned (.slice a (dg (val os)).length cap) ∧ wr = w') ∧
      (Row a (dg (val os)) wr ∧ (dg (val os)).length ≤ cap ∧ cap ≤ maxLen) ∧ Below B w wr := by
  obtain ⟨a, cap, rfl, hr, hl, hm⟩ := row_of_own hown
  have t := trim_any a os cap wr hl (by unfold maxLen at hm; omega) hr
  have hr' := hr.trim
  have hl' := trim_length os
  rw [trim_dg os hs] at t hr' hl'
  exact ⟨a, cap, rfl, t, ⟨hr', by omega, hm⟩, hb⟩

theorem of_end (os : List Nat) (m N : Nat) (h : val os + 65536 ^ 4 * m = N) (hN : N ≤ 9223372036854775808) : val os = N := by
  have : m = 0 := by omega
  subst this; simpa using h

theorem of_close {w wr : World} {N : Nat} {neg : Bool} {a' : Option Addr} {cap' : Nat} {ts : Array Value} (NA : NumAt w.heap.size false (.slice none 0 0) wr)
    (HB : Below (w.heap.size + 1) (w.alloc (.cells #[.bool false, .slice none 0 0] 66)) wr) (F : Row a' (dg N) wr ∧ (dg N).length ≤ cap' ∧ cap' ≤ maxLen) (hts : ts[2]? = some (.pointer (some ⟨w.heap.size, 0, none⟩))) :
    bodyPost Try.prog Try.f53 (GivesNum neg N w) Exit.ret { tmps := ts, defers := [] } ((wr.setCell ⟨w.heap.size, 0, none⟩ (.bool neg)).setCell ⟨w.heap.size, 1, none⟩ (.slice a' (dg N).length cap')) := by
  have F1 := NA.set (neg' := neg) (s' := .slice a' (dg N).length cap')
  refine bodyPost_ret (v := .agg #[.bool neg, .slice a' (dg N).length cap']) (by simp [results, Try.results53, go_sem, F1.c0, F1.c1, hts]) rfl ⟨a', cap', rfl, F.1.far NA, F.2.1, F.2.2, ?_⟩
  refine Below.setCell (Below.setCell (Below.trans ((Below.refl _ _).alloc (Nat.le_refl _) _) (HB.mono (by omega))) (Nat.le_refl _) _) (Nat.le_refl _) _

set_option maxHeartbeats 2000000 in
theorem of_neg (a : Int) (w : World) (h0 : -9223372036854775808 ≤ a) (h1 : a < 0) :
    Calls Try.prog 53 #[.int .i64 a] w (GivesNum true a.natAbs w) := by
  have ea : a = -(a.natAbs : Int) := by omega
  have hN : a.natAbs ≤ 9223372036854775808 := by omega
  generalize a.natAbs = N at *
  subst ea
  have hneg : decide (0 < N) = true := by simp; omega
  go_enter Try.func53, Try.ntmps53
  go_wp2_with fail
  go_loopw [0, 4, 5] (fun c v i wr => OfInv true N (w.heap.size + 1) (w.alloc (.cells #[.bool false, .slice none 0 0] 66)) c v i wr) (fun _ _ i _ => 4 - natOf i)
  case atStart => exact ⟨0, N, [], rfl, by simp, rfl, small_nil, World.ownsRow_nil _ _ _ _, Below.refl _ _, by simp [val], by omega, by omega⟩
  case round =>
    obtain ⟨k, m, os, rfl, rfl, hl, hs, hown, hb, hv, hm, hk⟩ := hrel
    have HNX := Lib.hid (fun dI cI v' w1 hk' => of_next true N (w.heap.size + 1) _ wr w1 k m os dI cI v' hl hs hb hv hm hk')
    have HL := Lib.hid hl
    have HV2 := Lib.hid hv
    have hsz := hb.size
    simp at hsz
    have HO := Lib.hid hown
    have HB := Lib.hid hb
    have HS := Lib.hid hs
    clear hl hv hown hb hs
    simp only [if_true]
    by_cases g1 : k < 4
    · have i1 : (m : Int) ≤ 9223372036854775808 := by omega
      clear h0 h1 hm hN
      by_cases hd : 0 < (m : Int) % 65536
      · go_wp2_with (first | (at_builtin; refine append_digit _ rfl (.tmp 19) (.tmp 21) rfl _ HO.out rfl rfl (by omega) (by omega) ?_; intro v' w1 hown' hb'))
        go_roundw
        case rel => exact HNX.out _ _ _ _ g1 (by omega) (by simp) hown' hb'
        case measure => simp [natOf]; omega
      · go_wp2_with (first | (at_builtin; refine append_digit _ rfl (.tmp 19) (.tmp 21) rfl _ HO.out rfl rfl (by omega) (by omega) ?_; intro v' w1 hown' hb'))
        go_roundw
        case rel => exact HNX.out _ _ _ _ g1 (by omega) (by simp) hown' hb'
        case measure => simp [natOf]; omega
    · obtain rfl : k = 4 := by omega
      have hl := HL.out
      have e := of_end os m N HV2.out hN
      rw [← hl] at HO
      obtain ⟨a', cap', hu, t, fin, _⟩ := own_trims' HO.out HS.out HB.out
      subst hu
      rw [e] at t fin
      have T := Lib.hid t
      have FIN := Lib.hid fin
      clear t fin e hl
      go_wp2_with fail
      refine T.out.mono ?_
      rintro e w1 ⟨rfl, rfl⟩
      have NA := (NumAt.new w false (.slice none 0 0)).below HB.out (by omega)
      have c0 := NA.c0; have c1 := NA.c1; have z0 := NA.z0; have z1 := NA.z1
      go_wp2_with fail
      exact of_close NA HB.out FIN.out rfl
set_option maxHeartbeats 2000000 in
theorem of_pos (a : Int) (w : World) (h0 : a ≤ 9223372036854775807) (h1 : 0 ≤ a) :
    Calls Try.prog 53 #[.int .i64 a] w (GivesNum false a.natAbs w) := by
  have ea : a = (a.natAbs : Int) := by omega
  have hN : a.natAbs ≤ 9223372036854775808 := by omega
  generalize a.natAbs = N at *
  subst ea
  have hneg : decide ((N : Int) < 0) = false := by simp
  go_enter Try.func53, Try.ntmps53
  go_wp2_with fail
  go_loopw [0, 4, 5] (fun c v i wr => OfInv false N (w.heap.size + 1) (w.alloc (.cells #[.bool false, .slice none 0 0] 66)) c v i wr) (fun _ _ i _ => 4 - natOf i)
  case atStart => exact ⟨0, N, [], rfl, by simp, rfl, small_nil, World.ownsRow_nil _ _ _ _, Below.refl _ _, by simp [val], by omega, by omega⟩
  case round =>
    obtain ⟨k, m, os, rfl, rfl, hl, hs, hown, hb, hv, hm, hk⟩ := hrel
    have HNX := Lib.hid (fun dI cI v' w1 hk' => of_next false N (w.heap.size + 1) _ wr w1 k m os dI cI v' hl hs hb hv hm hk')
    have HL := Lib.hid hl
    have HV2 := Lib.hid hv
    have hsz := hb.size
    simp at hsz
    have HO := Lib.hid hown
    have HB := Lib.hid hb
    have HS := Lib.hid hs
    clear hl hv hown hb hs
    simp only [Bool.false_eq_true, if_false]
    by_cases g1 : k < 4
    · have i1 : (m : Int) ≤ 9223372036854775808 := by omega
      have i3 : (m : Int) ≤ 9223372036854775807 := by omega
      clear h0 h1 hm hN
      go_wp2_with (first | (at_builtin; refine append_digit _ rfl (.tmp 19) (.tmp 21) rfl _ HO.out rfl rfl (by omega) (by omega) ?_; intro v' w1 hown' hb'))
      go_roundw
      case rel => exact HNX.out _ _ _ _ g1 (by omega) (by simp) hown' hb'
      case measure => simp [natOf]; omega
    · obtain rfl : k = 4 := by omega
      have hl := HL.out
      have e := of_end os m N HV2.out hN
      rw [← hl] at HO
      obtain ⟨a', cap', hu, t, fin, _⟩ := own_trims' HO.out HS.out HB.out
      subst hu
      rw [e] at t fin
      have T := Lib.hid t
      have FIN := Lib.hid fin
      clear t fin e hl
      go_wp2_with fail
      refine T.out.mono ?_
      rintro e w1 ⟨rfl, rfl⟩
      have NA := (NumAt.new w false (.slice none 0 0)).below HB.out (by omega)
      have c0 := NA.c0; have c1 := NA.c1; have z0 := NA.z0; have z1 := NA.z1
      go_wp2_with fail
      exact of_close NA HB.out FIN.out rfl
/-- Of: the sign and the digits of any plain number. -/
theorem of_any (a : Int) (w : World) (h : I64 a) : Calls Try.prog 53 #[.int .i64 a] w (GivesNum (decide (a < 0)) a.natAbs w) := by
  by_cases h1 : a < 0
  · rw [show decide (a < 0) = true from by simp [h1]]; exact of_neg a w h.1 h1
  · rw [show decide (a < 0) = false from by simp [h1]]; exact of_pos a w h.2 (by omega)
end Go.Proofs.Ythnjdncnmdmjaaa
