/-
  The document's answers of layer 12: Same, Chords. (Typed by a program: wip/gen_ref12b.py.)
-/
import Derived.Test.YtejhegoegmoemaaEdgMem
import Derived.Deep.DeepCutAuto
namespace Go.Proofs.Ytejhegoegmoemaa
open Go.RowKit Go.Shelf

/-- What Same's loop keeps. -/
def SameInv (l m : List Edg) (w : World) (i : Value) (wr : World) : Prop := ∃ k : Nat, k ≤ l.length ∧ i = .int .i64 (k : Int) ∧ Below w.heap.size w wr ∧ l.take k = m.take k
theorem same_next {l m : List Edg} {w wr : World} {k : Nat} {g : Edg} {z : Int} (hz : z = (k : Int) + 1) (hb : Below w.heap.size w wr) (h : l.take k = m.take k) (h1 : l[k]? = some g) (h2 : m[k]? = some g) : SameInv l m w (.int .i64 z) wr :=
  ⟨k + 1, (List.getElem?_eq_some_iff.1 h1).1, by rw [hz]; rfl, hb, by rw [List.take_add_one, List.take_add_one, h, h1, h2]⟩
theorem at_edg (l : List Edg) {k : Nat} (h : k < l.length) : ∃ g, l[k]? = some g := ⟨l[k], List.getElem?_eq_getElem h⟩
set_option maxHeartbeats 8000000 in
set_option maxRecDepth 100000 in
theorem rsame12 (a b : Option Addr) (l m : List Edg) (ca cb : Nat) (w : World) (hl : l.length ≤ 100000000) (ha : RdE a l w) (hm : RdE b m w) :
    Calls Try.prog 14 #[.slice a l.length ca, .slice b m.length cb] w fun e w' => e = .returned (.bool (decide (l = m))) ∧ Below w.heap.size w w' := by
  by_cases hlen : l.length = m.length
  rotate_left
  · rw [decide_eq_false (fun h => hlen (by rw [h]))]
    have hne : ((l.length : Int) != (m.length : Int)) = true := by rw [bne_iff_ne]; omega
    go_enter Try.func14, Try.ntmps14
    go_wp2_with fail
    go_ret
    exact ⟨rfl, Below.refl _ _⟩
  have HA := Lib.hid ha
  have HM := Lib.hid hm
  have HL := Lib.hid hlen
  obtain ⟨n, hn⟩ : ∃ n, n = l.length := ⟨_, rfl⟩
  have EN := Lib.hid hn
  rw [← hlen, ← hn]
  clear ha hm hlen
  rw [← hn] at hl
  clear hn
  have hne : ((n : Int) != (n : Int)) = false := by simp
  go_enter Try.func14, Try.ntmps14
  go_wp2_with fail
  go_loopw [5] (fun i wr => SameInv l m w i wr) (fun i _ => n - (intOf i).toNat)
  case atStart => exact ⟨0, Nat.zero_le _, rfl, Below.refl _ _, rfl⟩
  case round =>
    obtain ⟨k, hk, rfl, hb, ht⟩ := hrel
    have HB := Lib.hid hb; have HT := Lib.hid ht
    clear hb ht
    rw [← EN.out] at hk
    by_cases hlt : k < n
    · obtain ⟨g, hg⟩ := at_edg l (k := k) (by rw [← EN.out]; exact hlt)
      obtain ⟨h, hh⟩ := at_edg m (k := k) (by rw [← HL.out, ← EN.out]; exact hlt)
      obtain ⟨ba, oa, rfl, l1, x0, x1, x2, x3⟩ := RdE.at (Lay8.rd.next HA.out HB.out) hg
      obtain ⟨bb, ob, rfl, l2, y0, y1, y2, y3⟩ := RdE.at (Lay8.rd.next HM.out HB.out) hh
      have HG := Lib.hid hg; have HH := Lib.hid hh
      clear hg hh
      have hk0 : (0 : Int) ≤ k := by omega
      have hk1 : (k : Int) < n := by omega
      have ew : wrap64 ((k : Int) + 1) = (k : Int) + 1 := by unfold wrap64; omega
      obtain ⟨gx, gy, gu, gv⟩ := g
      obtain ⟨hx, hy, hu, hv⟩ := h
      dsimp only at x0 x1 x2 x3 y0 y1 y2 y3
      by_cases c0 : gx = hx
      rotate_left
      · have d0 : (gx == hx) = false := beq_eq_false_iff_ne.2 c0
        have hno : ¬ l = m := fun e => by
          have h1 := HG.out; have h2 := HH.out
          rw [e, h2] at h1
          exact c0 (congrArg Edg.px (Option.some.inj h1)).symm
        have hdec : decide (l = m) = false := decide_eq_false hno
        go_upto_region 6 with fail
        go_region_held3 (fun w' => w'.cell? ⟨ba, oa + k * 4, none⟩ = some (.int .i64 gx) ∧ w'.cell? ⟨ba, oa + k * 4 + 1, none⟩ = some (.int .i64 gy) ∧ w'.cell? ⟨ba, oa + k * 4 + 2, none⟩ = some (.int .i64 gu) ∧ w'.cell? ⟨ba, oa + k * 4 + 3, none⟩ = some (.int .i64 gv) ∧ w'.cell? ⟨bb, ob + k * 4, none⟩ = some (.int .i64 hx) ∧ w'.cell? ⟨bb, ob + k * 4 + 1, none⟩ = some (.int .i64 hy) ∧ w'.cell? ⟨bb, ob + k * 4 + 2, none⟩ = some (.int .i64 hu) ∧ w'.cell? ⟨bb, ob + k * 4 + 3, none⟩ = some (.int .i64 hv)) (first | (refine ⟨?_, ?_, ?_, ?_, ?_, ?_, ?_, ?_⟩ <;> first | with_reducible assumption) | (simp [go_sem, *]; done)) (fail)
        all_goals
          go_wp2_with fail
          go_ret
          rw [hdec]
          exact ⟨rfl, HB.out.drew⟩
      subst c0
      by_cases c1 : gy = hy
      rotate_left
      · have d1 : (gy == hy) = false := beq_eq_false_iff_ne.2 c1
        have hno : ¬ l = m := fun e => by
          have h1 := HG.out; have h2 := HH.out
          rw [e, h2] at h1
          exact c1 (congrArg Edg.py (Option.some.inj h1)).symm
        have hdec : decide (l = m) = false := decide_eq_false hno
        go_upto_region 6 with fail
        go_region_held3 (fun w' => w'.cell? ⟨ba, oa + k * 4, none⟩ = some (.int .i64 gx) ∧ w'.cell? ⟨ba, oa + k * 4 + 1, none⟩ = some (.int .i64 gy) ∧ w'.cell? ⟨ba, oa + k * 4 + 2, none⟩ = some (.int .i64 gu) ∧ w'.cell? ⟨ba, oa + k * 4 + 3, none⟩ = some (.int .i64 gv) ∧ w'.cell? ⟨bb, ob + k * 4, none⟩ = some (.int .i64 gx) ∧ w'.cell? ⟨bb, ob + k * 4 + 1, none⟩ = some (.int .i64 hy) ∧ w'.cell? ⟨bb, ob + k * 4 + 2, none⟩ = some (.int .i64 hu) ∧ w'.cell? ⟨bb, ob + k * 4 + 3, none⟩ = some (.int .i64 hv)) (first | (refine ⟨?_, ?_, ?_, ?_, ?_, ?_, ?_, ?_⟩ <;> first | with_reducible assumption) | (simp [go_sem, *]; done)) (fail)
        all_goals
          go_wp2_with fail
          go_ret
          rw [hdec]
          exact ⟨rfl, HB.out.drew⟩
      subst c1
      by_cases c2 : gu = hu
      rotate_left
      · have d2 : (gu == hu) = false := beq_eq_false_iff_ne.2 c2
        have hno : ¬ l = m := fun e => by
          have h1 := HG.out; have h2 := HH.out
          rw [e, h2] at h1
          exact c2 (congrArg Edg.qx (Option.some.inj h1)).symm
        have hdec : decide (l = m) = false := decide_eq_false hno
        go_upto_region 6 with fail
        go_region_held3 (fun w' => w'.cell? ⟨ba, oa + k * 4, none⟩ = some (.int .i64 gx) ∧ w'.cell? ⟨ba, oa + k * 4 + 1, none⟩ = some (.int .i64 gy) ∧ w'.cell? ⟨ba, oa + k * 4 + 2, none⟩ = some (.int .i64 gu) ∧ w'.cell? ⟨ba, oa + k * 4 + 3, none⟩ = some (.int .i64 gv) ∧ w'.cell? ⟨bb, ob + k * 4, none⟩ = some (.int .i64 gx) ∧ w'.cell? ⟨bb, ob + k * 4 + 1, none⟩ = some (.int .i64 gy) ∧ w'.cell? ⟨bb, ob + k * 4 + 2, none⟩ = some (.int .i64 hu) ∧ w'.cell? ⟨bb, ob + k * 4 + 3, none⟩ = some (.int .i64 hv)) (first | (refine ⟨?_, ?_, ?_, ?_, ?_, ?_, ?_, ?_⟩ <;> first | with_reducible assumption) | (simp [go_sem, *]; done)) (fail)
        all_goals
          go_wp2_with fail
          go_ret
          rw [hdec]
          exact ⟨rfl, HB.out.drew⟩
      subst c2
      by_cases c3 : gv = hv
      rotate_left
      · have d3 : (gv == hv) = false := beq_eq_false_iff_ne.2 c3
        have hno : ¬ l = m := fun e => by
          have h1 := HG.out; have h2 := HH.out
          rw [e, h2] at h1
          exact c3 (congrArg Edg.qy (Option.some.inj h1)).symm
        have hdec : decide (l = m) = false := decide_eq_false hno
        go_upto_region 6 with fail
        go_region_held3 (fun w' => w'.cell? ⟨ba, oa + k * 4, none⟩ = some (.int .i64 gx) ∧ w'.cell? ⟨ba, oa + k * 4 + 1, none⟩ = some (.int .i64 gy) ∧ w'.cell? ⟨ba, oa + k * 4 + 2, none⟩ = some (.int .i64 gu) ∧ w'.cell? ⟨ba, oa + k * 4 + 3, none⟩ = some (.int .i64 gv) ∧ w'.cell? ⟨bb, ob + k * 4, none⟩ = some (.int .i64 gx) ∧ w'.cell? ⟨bb, ob + k * 4 + 1, none⟩ = some (.int .i64 gy) ∧ w'.cell? ⟨bb, ob + k * 4 + 2, none⟩ = some (.int .i64 gu) ∧ w'.cell? ⟨bb, ob + k * 4 + 3, none⟩ = some (.int .i64 hv)) (first | (refine ⟨?_, ?_, ?_, ?_, ?_, ?_, ?_, ?_⟩ <;> first | with_reducible assumption) | (simp [go_sem, *]; done)) (fail)
        all_goals
          go_wp2_with fail
          go_ret
          rw [hdec]
          exact ⟨rfl, HB.out.drew⟩
      subst c3
      go_upto_region 6 with fail
      go_region_held3 (fun w' => w'.cell? ⟨ba, oa + k * 4, none⟩ = some (.int .i64 gx) ∧ w'.cell? ⟨ba, oa + k * 4 + 1, none⟩ = some (.int .i64 gy) ∧ w'.cell? ⟨ba, oa + k * 4 + 2, none⟩ = some (.int .i64 gu) ∧ w'.cell? ⟨ba, oa + k * 4 + 3, none⟩ = some (.int .i64 gv) ∧ w'.cell? ⟨bb, ob + k * 4, none⟩ = some (.int .i64 gx) ∧ w'.cell? ⟨bb, ob + k * 4 + 1, none⟩ = some (.int .i64 gy) ∧ w'.cell? ⟨bb, ob + k * 4 + 2, none⟩ = some (.int .i64 gu) ∧ w'.cell? ⟨bb, ob + k * 4 + 3, none⟩ = some (.int .i64 gv)) (first | (refine ⟨?_, ?_, ?_, ?_, ?_, ?_, ?_, ?_⟩ <;> first | with_reducible assumption) | (simp [go_sem, *]; done)) (fail)
      all_goals
        go_wp2_with fail
        go_roundw
        case rel => exact same_next (by first | rfl | exact ew) HB.out.drew HT.out HG.out HH.out
        case measure => simp [intOf]; omega
    · obtain rfl : k = n := by omega
      have hyes : l = m := by
        have h := HT.out
        rw [EN.out, List.take_length, HL.out, List.take_length] at h
        exact h
      have hdec : decide (l = m) = true := decide_eq_true hyes
      go_wp2_with fail
      go_ret
      rw [hdec]
      exact ⟨rfl, HB.out⟩
end Go.Proofs.Ytejhegoegmoemaa
