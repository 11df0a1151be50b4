/-
  The contracts of the document's answers for layer 1: plus and minus, over rows of digits that lie in memory.
-/
import Derived.Test.YthnjdncnmdmjaaaTrim
import Derived.OwnWalk
import Derived.Laws.AppendOwn
namespace Go.Proofs.Ythnjdncnmdmjaaa
open Go.RowKit Go.Shelf

theorem info_int : (Try.prog.info? 3).map (fun i => (i.zero, i.size, i.bytes)) = some (some (.int .i64 0), 1, 8) := by kernel_rfl

/-- One number appended to a row of the call's own. -/
theorem append_digit {ops : Array Oper} {rest : List Oper} {o : Oper} {a : Act} {Q : Exit → Act → World → Prop} (w : World) (hgd : o.guard = none) (s x : Operand)
    (ho : o.op = .call { callee := .builtin .append, args := #[s, x], argTypes := #[64, 64] }) {B k : Nat} {v : Value} {os : List Value} (d : Int) (hown : w.ownsRow B 3 1 v k os) (hs : a.eval s = v)
    (hx : a.eval x = .slice (some ⟨w.heap.size, 0, none⟩) 1 1) (hk : k ≤ 1000000000) (hB : B ≤ w.heap.size)
    (h : ∀ v' w', w'.ownsRow B 3 1 v' (k + 1) (os ++ [.int .i64 d]) → Below B w w' → wpList Try.prog ops Q rest (a.put o.dst v') w') :
    wpList Try.prog ops Q (o :: rest) a (w.alloc (.cells #[.int .i64 d] 3)) := by
  obtain ⟨i0, hi, hz0, hz1, hz2⟩ := info_parts info_int
  refine wpList_append_own _ hgd s x 64 ho B 3 i0 (.int .i64 0) 1 8 Try.underlying64 hi hz0 hz1 hz2 rfl (by decide) v k os hs (hown.alloc _) ⟨w.heap.size, 0, none⟩ 1 1 [.int .i64 d] hx rfl ?_ ?_ ?_ ?_ ?_ ?_
  · intro j u hj
    match j, hj with
    | 0, hj => simp at hj; subst hj; simp [Addr.add]
  · intro u hu; simp at hu; subst hu; rfl
  · unfold maxLen; omega
  · omega
  · simp; omega
  · intro v' w' hown' hg _
    refine h v' w' hown' ?_
    refine ((Below.refl B w).alloc hB _).grown hg (by simp; omega) ?_
    intro q hq
    exact (hown.lt q hq).1

/-- The digits as they lie in cells. -/
def cellsN (zs : List Nat) : List Value := zs.map fun (z : Nat) => Value.int .i64 (z : Int)
theorem cellsN_snoc (zs : List Nat) (d : Nat) : cellsN (zs ++ [d]) = cellsN zs ++ [.int .i64 (d : Int)] := by simp [cellsN]

/-- A row of the call's own, read. -/
theorem row_of_own {w : World} {B : Nat} {v : Value} {zs : List Nat} (h : w.ownsRow B 3 1 v zs.length (cellsN zs)) :
    ∃ a cap, v = .slice a zs.length cap ∧ Row a zs w ∧ zs.length ≤ cap ∧ cap ≤ maxLen := by
  rcases h.2 with ⟨rfl, h0⟩ | ⟨g, cap, cur, rfl, hB, hh, hn, hm, hs, ht⟩
  · have : zs = [] := List.length_eq_zero_iff.1 h0
    subst this
    exact ⟨none, 0, rfl, Or.inl rfl, Nat.le_refl _, by simp⟩
  · refine ⟨_, cap, rfl, Or.inr ⟨g, 0, rfl, (Array.getElem?_eq_some_iff.1 hh).1, fun i hi => ?_⟩, hn, hm⟩
    have hc : (cellsN zs)[i]? = some (.int .i64 (zs.getD i 0 : Nat)) := by simp [cellsN, List.getElem?_eq_getElem hi, List.getD]
    have := h.cells (g := g) rfl i _ hc
    by_cases h0 : i = 0
    · subst h0; simpa [Addr.add] using this
    · simpa [Addr.add, h0] using this

/-- What a call leaves that answers the row of a number. -/
def GivesRow (z : Nat) (w : World) (e : Ending) (w' : World) : Prop :=
  ∃ a cap, e = .returned (.slice a (dg z).length cap) ∧ Row a (dg z) w' ∧ (dg z).length ≤ cap ∧ cap ≤ maxLen ∧ Below w.heap.size w w'

theorem plus_step (os xs ys : List Nat) (k cy s : Nat) (hl : os.length = k) (h : val os + 65536 ^ k * cy = val (xs.take k) + val (ys.take k)) (hs : s = cy + xs.getD k 0 + ys.getD k 0) :
    val (os ++ [s % 65536]) + 65536 ^ (k + 1) * (s / 65536) = val (xs.take (k + 1)) + val (ys.take (k + 1)) := by
  rw [val_snoc, val_take', val_take', hl, Nat.pow_succ]
  have e : 65536 ^ k * s = 65536 ^ k * (s % 65536) + 65536 ^ k * 65536 * (s / 65536) := by
    rw [Nat.mul_assoc, ← Nat.mul_add, Nat.mod_add_div]
  have e2 : 65536 ^ k * s = 65536 ^ k * cy + 65536 ^ k * xs.getD k 0 + 65536 ^ k * ys.getD k 0 := by rw [hs, Nat.mul_add, Nat.mul_add]
  generalize 65536 ^ k * 65536 * (s / 65536) = p1 at *
  generalize 65536 ^ k * (s % 65536) = p2 at *
  generalize 65536 ^ k * s = p3 at *
  generalize 65536 ^ k * cy = p4 at *
  generalize 65536 ^ k * xs.getD k 0 = p5 at *
  generalize 65536 ^ k * ys.getD k 0 = p6 at *
  omega

theorem getD_past (zs : List Nat) (k : Nat) (h : ¬ k < zs.length) : zs.getD k 0 = 0 := by
  rw [List.getD_eq_getElem?_getD, List.getElem?_eq_none (by omega)]; rfl

theorem small_nil : Small [] := fun _ hz => nomatch hz

/-- What plus' loop keeps. -/
def PlusInv (xs ys : List Nat) (B : Nat) (w : World) (v c i : Value) (wr : World) : Prop :=
  ∃ (k cy : Nat) (os : List Nat), i = .int .i64 (k : Int) ∧ c = .int .i64 (cy : Int) ∧ os.length = k ∧ Small os ∧ cy ≤ 1 ∧ wr.ownsRow B 3 1 v k (cellsN os) ∧ Below B w wr ∧
    val os + 65536 ^ k * cy = val (xs.take k) + val (ys.take k) ∧ (k ≤ max xs.length ys.length ∨ k = max xs.length ys.length + 1 ∧ cy = 0)

theorem plus_next (xs ys os : List Nat) (B : Nat) (w wr w1 : World) (k cy s : Nat) (t : Int) (v' : Value) (hx : Small xs) (hy : Small ys) (hl : os.length = k) (ho : Small os) (hc : cy ≤ 1)
    (hb : Below B w wr) (hv : val os + 65536 ^ k * cy = val (xs.take k) + val (ys.take k)) (hk : k ≤ max xs.length ys.length ∨ k = max xs.length ys.length + 1 ∧ cy = 0)
    (hs : s = cy + xs.getD k 0 + ys.getD k 0) (ht : t = (s : Int))
    (hown : w1.ownsRow B 3 1 v' (k + 1) (cellsN os ++ [.int .i64 (t % 65536)])) (hb1 : Below B wr w1) (hgo : k < xs.length ∨ k < ys.length ∨ cy = 1) :
    PlusInv xs ys B w v' (.int .i64 (t / 65536)) (.int .i64 ((k : Int) + 1)) w1 := by
  subst ht
  have g1 := small_get hx k
  have g2 := small_get hy k
  refine ⟨k + 1, s / 65536, os ++ [s % 65536], by rw [show (k : Int) + 1 = ((k + 1 : Nat) : Int) from by omega], rfl, by simp [hl], small_snoc ho (by omega), by omega, by rw [cellsN_snoc]; exact hown, hb.trans hb1, plus_step os xs ys k cy s hl hv hs, ?_⟩
  by_cases h1 : k < xs.length
  · left; omega
  · by_cases h2 : k < ys.length
    · left; omega
    · rw [getD_past xs k h1, getD_past ys k h2] at hs
      right; omega

def natOf : Value → Nat
  | .int _ n => n.toNat
  | _ => 0

/-- The end of plus: the row without its noughts ahead. -/
theorem own_trims {w wr : World} {B : Nat} {v : Value} {os : List Nat} (hown : wr.ownsRow B 3 1 v os.length (cellsN os)) (hs : Small os) (hb : Below B w wr) (hB : B = w.heap.size) :
    ∃ a cap, v = .slice a os.length cap ∧ (Calls Try.prog 73 #[.slice a os.length cap] wr fun e w' => e = .returned (.slice a (dg (val os)).length cap) ∧ wr = w') ∧
      ∀ e, e = Ending.returned (.slice a (dg (val os)).length cap) → GivesRow (val os) w e wr := by
  obtain ⟨a, cap, rfl, hr, hl, hm⟩ := row_of_own hown
  have t := trim_any a os cap wr hl (by unfold maxLen at hm; omega) hr
  have hr' := hr.trim
  have hl' := trim_length os
  rw [trim_dg os hs] at t hr' hl'
  subst hB
  exact ⟨a, cap, rfl, t, fun e he => ⟨a, cap, he, hr', by omega, hm, hb⟩⟩

set_option maxHeartbeats 2000000 in
theorem plus_any (x y : Nat) (a b : Option Addr) (c1 c2 : Nat) (w : World) (l1 : (dg x).length ≤ 100000000) (l2 : (dg y).length ≤ 100000000) (h1 : Row a (dg x) w) (h2 : Row b (dg y) w) :
    Calls Try.prog 82 #[.slice a (dg x).length c1, .slice b (dg y).length c2] w (GivesRow (x + y) w) := by
  have HV := Lib.hid (And.intro (val_dg x) (val_dg y))
  have HX := Lib.hid (small_dg x)
  have HY := Lib.hid (small_dg y)
  have H1 := Lib.hid h1
  have H2 := Lib.hid h2
  clear h1 h2
  generalize dg x = xs at *
  generalize dg y = ys at *
  go_enter Try.func82, Try.ntmps82
  go_wp2_with fail
  go_loopw [5, 6, 7] (fun v c i wr => PlusInv xs ys w.heap.size w v c i wr) (fun _ _ i _ => xs.length + ys.length + 1 - natOf i)
  case atStart => exact ⟨0, 0, [], rfl, rfl, rfl, small_nil, by omega, World.ownsRow_nil _ _ _ _, Below.refl _ _, by simp [val], by left; omega⟩
  case round =>
    obtain ⟨k, cy, os, rfl, rfl, hl, hs, hc, hown, hb, hv, hk⟩ := hrel
    have HNX := Lib.hid (fun s t v' w1 => plus_next xs ys os w.heap.size w wr w1 k cy s t v' HX.out HY.out hl hs hc hb hv hk)
    have HL := Lib.hid hl
    have HV2 := Lib.hid hv
    have HK := Lib.hid hk
    have kb : k ≤ 200000001 := by omega
    have hsz := hb.size
    have HO := Lib.hid hown
    have HB := Lib.hid hb
    have HS := Lib.hid hs
    clear hl hv hown hb hk hs
    have i2 : (cy : Int) ≤ 1 := by omega
    by_cases g1 : k < xs.length
    · obtain ⟨b1, o1, rfl, q1, hc1⟩ := (H1.out.below HB.out (Nat.le_refl _)).pos g1
      have e1 := hc1 k g1
      have s1 := small_get HX.out k
      clear hc1
      by_cases g2 : k < ys.length
      · obtain ⟨b2, o2, rfl, q2, hc2⟩ := (H2.out.below HB.out (Nat.le_refl _)).pos g2
        have e2 := hc2 k g2
        have s2 := small_get HY.out k
        clear hc2
        generalize xs.getD k 0 = p at *
        generalize ys.getD k 0 = q at *
        have i1 : (p : Int) ≤ 65535 := by omega
        have i3 : (q : Int) ≤ 65535 := by omega
        go_wp2_with (first | (at_builtin; refine append_digit _ rfl (.tmp 46) (.tmp 49) rfl _ HO.out rfl rfl (by omega) (by omega) ?_; intro v' w1 hown' hb'))
        go_roundw
        case rel => exact HNX.out (cy + p + q) _ _ _ rfl (by omega) hown' hb' (Or.inl g1)
        case measure => simp [natOf]; omega
      · have s2 := Lib.hid (getD_past ys k g2)
        generalize xs.getD k 0 = p at *
        have i1 : (p : Int) ≤ 65535 := by omega
        go_wp2_with (first | (at_builtin; refine append_digit _ rfl (.tmp 46) (.tmp 49) rfl _ HO.out rfl rfl (by omega) (by omega) ?_; intro v' w1 hown' hb'))
        go_roundw
        case rel => exact HNX.out (cy + p) _ _ _ (by rw [s2.out]; rfl) (by omega) hown' hb' (Or.inl g1)
        case measure => simp [natOf]; omega
    · have s1 := Lib.hid (getD_past xs k g1)
      by_cases g2 : k < ys.length
      · obtain ⟨b2, o2, rfl, q2, hc2⟩ := (H2.out.below HB.out (Nat.le_refl _)).pos g2
        have e2 := hc2 k g2
        have s2 := small_get HY.out k
        clear hc2
        generalize ys.getD k 0 = q at *
        have i3 : (q : Int) ≤ 65535 := by omega
        go_wp2_with (first | (at_builtin; refine append_digit _ rfl (.tmp 46) (.tmp 49) rfl _ HO.out rfl rfl (by omega) (by omega) ?_; intro v' w1 hown' hb'))
        go_roundw
        case rel => exact HNX.out (cy + q) _ _ _ (by rw [s1.out]; rfl) (by omega) hown' hb' (Or.inr (Or.inl g2))
        case measure => simp [natOf]; omega
      · have s2 := Lib.hid (getD_past ys k g2)
        by_cases gc : cy = 1
        · subst gc
          have kb2 : k ≤ xs.length + ys.length := by have := HK.out; omega
          go_wp2_with (first | (at_builtin; refine append_digit _ rfl (.tmp 46) (.tmp 49) rfl _ HO.out rfl rfl (by omega) (by omega) ?_; intro v' w1 hown' hb'))
          go_roundw
          case rel => exact HNX.out 1 1 v' w1 (by rw [s1.out, s2.out]) rfl hown' hb' (Or.inr (Or.inr rfl))
          case measure => simp [natOf]; omega
        · obtain rfl : cy = 0 := by omega
          have hl := HL.out
          subst hl
          obtain ⟨a', cap', rfl, t, fin⟩ := own_trims HO.out HS.out HB.out rfl
          have ev : val os = x + y := by
            have := HV2.out
            rw [val_take_all xs _ (by omega), val_take_all ys _ (by omega), HV.out.1, HV.out.2] at this
            omega
          rw [ev] at t fin
          have T := Lib.hid t
          have FIN := Lib.hid fin
          clear t fin ev
          go_wp2_with fail
          refine T.out.mono ?_
          rintro e w1 ⟨rfl, rfl⟩
          go_wp2_with fail
          go_ret
          exact FIN.out _ rfl
end Go.Proofs.Ythnjdncnmdmjaaa
