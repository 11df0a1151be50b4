/-
  The document's Small of layer 14. (Typed by a program: wip/gen_snap3.py.)
-/
import Derived.Test.YtejhegoegmoemaaSnapE
import Derived.Test.YtejhegoegmoemaaAffCell
import Derived.Deep.DeepCutAuto
namespace Go.Proofs.Ytejhegoegmoemaa
open Go.RowKit Go.Shelf
set_option linter.unusedSimpArgs false

instance decIn62s (n : Int) : Decidable (In62s n) := by unfold In62s; infer_instance
instance decEdgS (g : Edg) : Decidable (EdgS g) := by unfold EdgS; infer_instance
/-- What Small's loop keeps. -/
def SmInv (l : List Edg) (w : World) (i : Value) (wr : World) : Prop := ∃ k : Nat, k ≤ l.length ∧ i = .int .i64 (k : Int) ∧ Below w.heap.size w wr ∧ ∀ g ∈ l.take k, EdgS g
theorem sm_next {l : List Edg} {w wr : World} {k : Nat} {g : Edg} {z : Int} (hz : z = (k : Int) + 1) (hb : Below w.heap.size w wr) (h : ∀ g ∈ l.take k, EdgS g) (h1 : l[k]? = some g) (hg : EdgS g) : SmInv l w (.int .i64 z) wr :=
  ⟨k + 1, (List.getElem?_eq_some_iff.1 h1).1, by rw [hz]; rfl, hb, fun e he => by
    rw [List.take_add_one, h1] at he
    rcases List.mem_append.1 he with he | he
    · exact h e he
    · rw [List.mem_singleton.1 he]; exact hg⟩
theorem sm_false {l : List Edg} {k : Nat} {g : Edg} (h1 : l[k]? = some g) (hg : ¬ EdgS g) : decide (∀ g ∈ l, EdgS g) = false :=
  decide_eq_false fun h => hg (h g (List.mem_of_getElem? h1))
theorem at_edg14 (l : List Edg) {k : Nat} (h : k < l.length) : ∃ g, l[k]? = some g := ⟨l[k], List.getElem?_eq_getElem h⟩
set_option maxHeartbeats 8000000 in
set_option maxRecDepth 100000 in
theorem rsmall14 (a : Option Addr) (l : List Edg) (cap : Nat) (w : World) (hl : l.length ≤ 100000000) (ha : RdE a l w) :
    Calls Try.prog 11 #[.slice a l.length cap, .int .i64 4611686018427387904] w fun e w' => e = .returned (.bool (decide (∀ g ∈ l, EdgS g))) ∧ Below w.heap.size w w' := by
  have HA := Lib.hid ha
  obtain ⟨n, hn⟩ : ∃ n, n = l.length := ⟨_, rfl⟩
  have EN := Lib.hid hn
  rw [← hn]
  rw [← hn] at hl
  clear ha hn
  go_enter Try.func11, Try.ntmps11
  go_wp2_with fail
  go_loopw [5] (fun i wr => SmInv l w i wr) (fun i _ => n - (intOf i).toNat)
  case atStart => exact ⟨0, Nat.zero_le _, rfl, Below.refl _ _, by simp⟩
  case round =>
    obtain ⟨k, hk, rfl, hb, ht⟩ := hrel
    have HB := Lib.hid hb; have HT := Lib.hid ht
    clear hb ht
    rw [← EN.out] at hk
    by_cases hlt : k < n
    · obtain ⟨g, hg⟩ := at_edg14 l (k := k) (by rw [← EN.out]; exact hlt)
      obtain ⟨b, o, rfl, l1, x0, x1, x2, x3⟩ := RdE.at (Lay8.rd.next HA.out HB.out) hg
      have hk0 : (0 : Int) ≤ k := by omega
      have hk1 : (k : Int) < n := by omega
      have ew : wrap64 ((k : Int) + 1) = (k : Int) + 1 := by unfold wrap64; omega
      have NX := Lib.hid (fun z w' (hz : z = (k : Int) + 1) hb h => sm_next (l := l) (w := w) (wr := w') (k := k) (g := g) (z := z) hz hb HT.out hg h)
      have NO := Lib.hid (fun h => sm_false (l := l) (k := k) (g := g) hg h)
      have hG : EdgS g ↔ (In62s g.px ∧ In62s g.py) ∧ (In62s g.qx ∧ In62s g.qy) := Iff.rfl
      obtain ⟨px, py, qx, qy⟩ := g
      dsimp only at x0 x1 x2 x3 hG
      generalize EdgS ⟨px, py, qx, qy⟩ = G at *
      have HG := Lib.hid hG
      clear hG hg HT
      go_upto_region 4 with fail
      go_region_held3 (fun w' => w'.cell? ⟨b, o + k * 4, none⟩ = some (.int .i64 px) ∧ w'.cell? ⟨b, o + k * 4 + 1, none⟩ = some (.int .i64 py) ∧ w'.cell? ⟨b, o + k * 4 + 2, none⟩ = some (.int .i64 qx) ∧ w'.cell? ⟨b, o + k * 4 + 3, none⟩ = some (.int .i64 qy)) (first | (refine ⟨?_, ?_, ?_, ?_⟩ <;> first | with_reducible assumption) | (simp [go_sem, *]; done)) (fail)
      have HX := Lib.hid (show CBox wr.heap.size 2 #[.int .i64 px, .int .i64 py, .int .i64 qx, .int .i64 qy] (wr.alloc (.cells #[.int .i64 px, .int .i64 py, .int .i64 qx, .int .i64 qy] 2)).drew from CBox.new wr _ _)
      have HB2 := Lib.hid (show Below w.heap.size w (wr.alloc (.cells #[.int .i64 px, .int .i64 py, .int .i64 qx, .int .i64 qy] 2)).drew from (HB.out.alloc HB.out.size (.cells #[.int .i64 px, .int .i64 py, .int .i64 qx, .int .i64 qy] 2)).drew)
      clear x0 x1 x2 x3 HB
      generalize hw3 : (wr.alloc (.cells #[.int .i64 px, .int .i64 py, .int .i64 qx, .int .i64 qy] 2)).drew = w3 at *
      clear hw3
      generalize wr.heap.size = q at *
      go_wp2_with fail
      go_loopw [40] (fun v wr2 => ∃ j : Nat, j ≤ 4 ∧ v = .int .i64 (j : Int) ∧ wr2 = w3 ∧ ((1 ≤ j → In62s px) ∧ (2 ≤ j → In62s py) ∧ (3 ≤ j → In62s qx) ∧ (4 ≤ j → In62s qy))) (fun v _ => 4 - (intOf v).toNat)
      case atStart => exact ⟨0, by decide, rfl, rfl, by omega, by omega, by omega, by omega⟩
      case round =>
        obtain ⟨j, hj, rfl, rfl, i1, i2, i3, i4⟩ := hrel
        rcases (show j = 0 ∨ j = 1 ∨ j = 2 ∨ j = 3 ∨ j = 4 by omega) with rfl | rfl | rfl | rfl | rfl
        · have v0 := HX.out.c (v := .int .i64 px) 0 rfl
          by_cases h1 : 4611686018427387904 < px
          · have HF := Lib.hid (NO.out (fun h => by have h' := HG.out.1 h; unfold In62s at h'; omega))
            go_wp2_with fail
            refine bodyPost_ret (results_tmp (t := 4) rfl _ _ _) rfl ?_
            exact ⟨by rw [HF.out]; rfl, HB2.out⟩
          by_cases h2 : px < -4611686018427387904
          · have HF := Lib.hid (NO.out (fun h => by have h' := HG.out.1 h; unfold In62s at h'; omega))
            go_wp2_with fail
            refine bodyPost_ret (results_tmp (t := 4) rfl _ _ _) rfl ?_
            exact ⟨by rw [HF.out]; rfl, HB2.out⟩
          have hin : In62s px := ⟨by omega, by omega⟩
          go_wp2_with fail
          go_roundw
          case rel => exact ⟨1, by decide, rfl, trivial, fun _ => hin, by omega, by omega, by omega⟩
          case measure => simp [intOf]
        · have v0 := HX.out.c (v := .int .i64 py) 1 rfl
          by_cases h1 : 4611686018427387904 < py
          · have HF := Lib.hid (NO.out (fun h => by have h' := HG.out.1 h; unfold In62s at h'; omega))
            go_wp2_with fail
            refine bodyPost_ret (results_tmp (t := 4) rfl _ _ _) rfl ?_
            exact ⟨by rw [HF.out]; rfl, HB2.out⟩
          by_cases h2 : py < -4611686018427387904
          · have HF := Lib.hid (NO.out (fun h => by have h' := HG.out.1 h; unfold In62s at h'; omega))
            go_wp2_with fail
            refine bodyPost_ret (results_tmp (t := 4) rfl _ _ _) rfl ?_
            exact ⟨by rw [HF.out]; rfl, HB2.out⟩
          have hin : In62s py := ⟨by omega, by omega⟩
          go_wp2_with fail
          go_roundw
          case rel => exact ⟨2, by decide, rfl, trivial, fun _ => i1 (by decide), fun _ => hin, by omega, by omega⟩
          case measure => simp [intOf]
        · have v0 := HX.out.c (v := .int .i64 qx) 2 rfl
          by_cases h1 : 4611686018427387904 < qx
          · have HF := Lib.hid (NO.out (fun h => by have h' := HG.out.1 h; unfold In62s at h'; omega))
            go_wp2_with fail
            refine bodyPost_ret (results_tmp (t := 4) rfl _ _ _) rfl ?_
            exact ⟨by rw [HF.out]; rfl, HB2.out⟩
          by_cases h2 : qx < -4611686018427387904
          · have HF := Lib.hid (NO.out (fun h => by have h' := HG.out.1 h; unfold In62s at h'; omega))
            go_wp2_with fail
            refine bodyPost_ret (results_tmp (t := 4) rfl _ _ _) rfl ?_
            exact ⟨by rw [HF.out]; rfl, HB2.out⟩
          have hin : In62s qx := ⟨by omega, by omega⟩
          go_wp2_with fail
          go_roundw
          case rel => exact ⟨3, by decide, rfl, trivial, fun _ => i1 (by decide), fun _ => i2 (by decide), fun _ => hin, by omega⟩
          case measure => simp [intOf]
        · have v0 := HX.out.c (v := .int .i64 qy) 3 rfl
          by_cases h1 : 4611686018427387904 < qy
          · have HF := Lib.hid (NO.out (fun h => by have h' := HG.out.1 h; unfold In62s at h'; omega))
            go_wp2_with fail
            refine bodyPost_ret (results_tmp (t := 4) rfl _ _ _) rfl ?_
            exact ⟨by rw [HF.out]; rfl, HB2.out⟩
          by_cases h2 : qy < -4611686018427387904
          · have HF := Lib.hid (NO.out (fun h => by have h' := HG.out.1 h; unfold In62s at h'; omega))
            go_wp2_with fail
            refine bodyPost_ret (results_tmp (t := 4) rfl _ _ _) rfl ?_
            exact ⟨by rw [HF.out]; rfl, HB2.out⟩
          have hin : In62s qy := ⟨by omega, by omega⟩
          go_wp2_with fail
          go_roundw
          case rel => exact ⟨4, by decide, rfl, trivial, fun _ => i1 (by decide), fun _ => i2 (by decide), fun _ => i3 (by decide), fun _ => hin⟩
          case measure => simp [intOf]
        · have HIN := Lib.hid (HG.out.2 ⟨⟨i1 (by decide), i2 (by decide)⟩, i3 (by decide), i4 (by decide)⟩)
          clear i1 i2 i3 i4
          go_wp2_with fail
          go_roundw
          case rel => exact NX.out _ _ (by first | rfl | exact ew) HB2.out HIN.out
          case measure => simp [intOf]; omega
    · obtain rfl : k = n := by omega
      have hf : (∀ g ∈ l, EdgS g) := by have h := HT.out; rw [EN.out, List.take_length] at h; exact h
      have HF := Lib.hid (decide_eq_true hf)
      clear hf HT
      go_wp2_with fail
      refine bodyPost_ret (results_tmp (t := 4) rfl _ _ _) rfl ?_
      exact ⟨by rw [HF.out]; rfl, HB.out⟩
end Go.Proofs.Ytejhegoegmoemaa
