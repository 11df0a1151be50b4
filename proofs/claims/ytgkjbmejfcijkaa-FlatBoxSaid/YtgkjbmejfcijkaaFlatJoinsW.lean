/-
  FlatJoins, whatever tells the pieces, and counts them. (Typed by a program: wip/gen_joins12.py.)
-/
import Derived.Test.YtgkjbmejfcijkaaLawWakes12
import Derived.Test.YtgkjbmejfcijkaaRefCrvF
import Derived.Test.YtgkjbmejfcijkaaJRow
namespace Go.Proofs.Ytgkjbmejfcijkaa
open Go.RowKit Go.Shelf
attribute [local go_sem] Oper.semAt_some

/-- A point within a bound. -/
def PtB (B x y : Int) : Prop := (-B ≤ x ∧ x ≤ B) ∧ (-B ≤ y ∧ y ≤ B)
theorem boxM_ret {F : Fence} {n : Nat} {f : Func} {k : Nat} (hres : f.results = #[ResultVar.cell k 4]) {q : Nat} {w wr : World} {v : Value} {ts : Array Value} (hp : CBox q 4 #[v] wr) (hb : Below w.heap.size w wr) (hts : ts[k]? = some (.pointer (some ⟨q, 0, none⟩))) (hv : v = .bool true) :
    bodyPostM F n Try.prog f (fun e w' => e = .returned (.bool true) ∧ Below w.heap.size w w') .ret { tmps := ts, defers := [] } wr := by
  have c0 : wr.cell? ⟨q, 0, none⟩ = some v := hp.c 0 rfl
  subst hv
  exact ⟨.bool true, by simp [results, hres, go_sem, c0, hts], rfl, hb⟩
theorem boxM_done {F : Fence} {n : Nat} {f : Func} {k : Nat} (hres : f.results = #[ResultVar.cell k 4]) {q D : Nat} {w wr : World} {v : Value} {ts : Array Value} (hp : CBox q 4 #[v] wr) (hb : Below w.heap.size w wr) (hts : ts[k]? = some (.pointer (some ⟨q, 0, none⟩))) (hv : v = .bool true) (hK : wr.heap[D]? = some (.deferred (some []))) (hD : w.heap.size ≤ D) :
    bodyPostM F n Try.prog f (fun e w' => e = .returned (.bool true) ∧ Below w.heap.size w w') .ret { tmps := ts, defers := [{ target := .collected D, args := #[] }] } wr := by
  have hne : q ≠ D := by
    rintro rfl
    unfold CBox at hp
    rw [hp] at hK
    cases hK
  have hp2 : CBox q 4 #[v] (wr.putObj D (.deferred none)) := (World.putObj_heap_other hne).trans hp
  have hb2 : Below w.heap.size w (wr.putObj D (.deferred none)) := hb.grown (grownBy_putObj' wr D _) hb.size fun k e => by cases e; exact hD
  have c0 : (wr.putObj D (.deferred none)).cell? ⟨q, 0, none⟩ = some v := hp2.c 0 rfl
  subst hv
  refine ⟨by simp, .inl ⟨_, _, rfl, run_takeDeferred hK, ?_⟩⟩
  exact ⟨.bool true, by simp [results, hres, go_sem, c0, hts], rfl, hb2⟩
/-- Where one is behind curves. -/
def atP : Int × Int → List Crv → Int × Int
  | p, [] => p
  | _, c :: l => atP (endP c) l
theorem atP_snoc (p : Int × Int) (l : List Crv) (x : Crv) : atP p (l ++ [x]) = endP x := by
  induction l generalizing p with
  | nil => rfl
  | cons c t ih => exact ih _
theorem atP_chain : ∀ (l : List Crv) (p q : Int × Int), chain p l q → atP p l = q
  | [], _, _, h => h
  | _ :: l, _, _, h => atP_chain l _ _ h.2
theorem atP_next : ∀ (l : List Crv) (x : Crv) (r : List Crv) (p q : Int × Int), chain p (l ++ [x] ++ r) q → (x.px, x.py) = atP p l
  | [], _, _, _, _, h => h.1
  | _ :: l, x, r, _, _, h => atP_next l x r _ _ h.2
set_option maxHeartbeats 8000000 in
set_option maxRecDepth 100000 in
theorem joins_walk (PI : PiecesOk) (CO : CountOk) (c : Crv) (w : World) : Calls Try.prog 5 #[c.val] w fun e w' => e = .returned (.bool true) ∧ Below w.heap.size w w' := by
  refine (callsIn_wide (n := 6)).1 ?_
  have K := Lib.hid (fun w => wakes12 PI CO w)
  have PI0 := Lib.hid PI
  obtain ⟨px, py, qx, qy, rx, ry, sx, sy⟩ := c
  unfold Crv.val Crv.arr at *
  dsimp only at *
  obtain ⟨k1, k2, k3⟩ := boxes_two w #[.int .i64 px, .int .i64 py, .int .i64 qx, .int .i64 qy, .int .i64 rx, .int .i64 ry, .int .i64 sx, .int .i64 sy] #[.bool false] 25 4
  have HC0 := Lib.hid k1; have HZ0 := Lib.hid k2; have HB0 := Lib.hid k3
  clear k1 k2 k3
  refine callsIn_of_wp_marks Try.func5 rfl trivial ?_ rfl
  simp only [Try.ntmps5, List.size_toArray, List.length_cons, List.length_nil, Nat.reduceAdd, Nat.reduceSub, Array.replicate_succ, Array.replicate_zero, List.push_toArray, List.append_toArray, List.nil_append, List.cons_append]
  refine wpIn_wide.2 ?_
  go_upto_region 1 with fail
  generalize ((w.alloc (.cells #[.int .i64 px, .int .i64 py, .int .i64 qx, .int .i64 qy, .int .i64 rx, .int .i64 ry, .int .i64 sx, .int .i64 sy] 25)).alloc (.cells #[.bool false] 4)) = w1 at *
  go_wp2_with fail
  refine (K.out _).mono ?_
  rintro e w2 ⟨rfl, b1⟩
  have HZ1 := Lib.hid (HZ0.out.next b1)
  have HB1 := Lib.hid (HB0.out.trans (b1.mono HB0.out.size))
  have HC1 := Lib.hid (HC0.out.next b1)
  clear b1
  go_upto_region 3 with fail
  have xC0 : w2.cell? ⟨w.heap.size, 0, none⟩ = some (.int .i64 px) := HC1.out.c 0 rfl
  have xC1 : w2.cell? ⟨w.heap.size, 1, none⟩ = some (.int .i64 py) := HC1.out.c 1 rfl
  have xC2 : w2.cell? ⟨w.heap.size, 2, none⟩ = some (.int .i64 qx) := HC1.out.c 2 rfl
  have xC3 : w2.cell? ⟨w.heap.size, 3, none⟩ = some (.int .i64 qy) := HC1.out.c 3 rfl
  have xC4 : w2.cell? ⟨w.heap.size, 4, none⟩ = some (.int .i64 rx) := HC1.out.c 4 rfl
  have xC5 : w2.cell? ⟨w.heap.size, 5, none⟩ = some (.int .i64 ry) := HC1.out.c 5 rfl
  have xC6 : w2.cell? ⟨w.heap.size, 6, none⟩ = some (.int .i64 sx) := HC1.out.c 6 rfl
  have xC7 : w2.cell? ⟨w.heap.size, 7, none⟩ = some (.int .i64 sy) := HC1.out.c 7 rfl
  have k1 := CBox.new w2 23 #[.int .i64 px, .int .i64 py, .int .i64 qx, .int .i64 qy, .int .i64 rx, .int .i64 ry, .int .i64 sx, .int .i64 sy]
  have k2 := (Below.refl w2.heap.size w2).alloc (Nat.le_refl _) (.cells #[.int .i64 px, .int .i64 py, .int .i64 qx, .int .i64 qy, .int .i64 rx, .int .i64 ry, .int .i64 sx, .int .i64 sy] 23)
  have HY := Lib.hid k1; have HB := Lib.hid (HB1.out.trans (k2.mono HB1.out.size)); have HC := Lib.hid (HC1.out.next k2); have HZ := Lib.hid (HZ1.out.next k2)
  clear k1 k2
  go_wp2_with fail
  generalize w2.alloc (.cells #[.int .i64 px, .int .i64 py, .int .i64 qx, .int .i64 qy, .int .i64 rx, .int .i64 ry, .int .i64 sx, .int .i64 sy] 23) = w3 at *
  generalize w2.heap.size = y at *
  clear xC0 xC1 xC2 xC3 xC4 xC5 xC6 xC7
  clear HC0 HZ0 HB0 HC1 HZ1 HB1 K
  go_loopw [21] (fun iv wr => (Below w.heap.size w wr ∧ CBox w.heap.size 25 #[.int .i64 px, .int .i64 py, .int .i64 qx, .int .i64 qy, .int .i64 rx, .int .i64 ry, .int .i64 sx, .int .i64 sy] wr ∧ CBox (w.heap.size + 1) 4 #[.bool false] wr ∧ CBox y 23 #[.int .i64 px, .int .i64 py, .int .i64 qx, .int .i64 qy, .int .i64 rx, .int .i64 ry, .int .i64 sx, .int .i64 sy] wr) ∧ ((iv = .int .i64 0 ∧ Hid (True)) ∨ (iv = .int .i64 1 ∧ Hid (PtB 8589934592 px py)) ∨ (iv = .int .i64 2 ∧ Hid (PtB 8589934592 px py ∧ PtB 8589934592 qx qy)) ∨ (iv = .int .i64 3 ∧ Hid (PtB 8589934592 px py ∧ PtB 8589934592 qx qy ∧ PtB 8589934592 rx ry)) ∨ (iv = .int .i64 4 ∧ Hid (PtB 8589934592 px py ∧ PtB 8589934592 qx qy ∧ PtB 8589934592 rx ry ∧ PtB 8589934592 sx sy)))) (fun iv _ => (4 - intOf iv).toNat)
  case atStart => exact ⟨⟨HB.out, HC.out, HZ.out, HY.out⟩, Or.inl ⟨rfl, Lib.hid trivial⟩⟩
  case round =>
    obtain ⟨⟨hb, hc, hz, hy⟩, hrel⟩ := hrel
    have HBr := Lib.hid hb; have HCr := Lib.hid hc; have HZr := Lib.hid hz; have HYr := Lib.hid hy
    clear hb hc hz hy HB HC HZ HY
    rcases hrel with ⟨rfl, hin⟩ | ⟨rfl, hin⟩ | ⟨rfl, hin⟩ | ⟨rfl, hin⟩ | ⟨rfl, hin⟩
    ·
      have z0 : wr.cell? ⟨y, 0, none⟩ = some (.int .i64 px) := HYr.out.c 0 rfl; have z1 : wr.cell? ⟨y, 1, none⟩ = some (.int .i64 py) := HYr.out.c 1 rfl
      have r0 : wr.cell? ⟨w.heap.size + 1, 0, none⟩ = some (.bool false) := HZr.out.c 0 rfl; have q0 := HZr.out.z 0
      have ha := (Below.refl wr.heap.size wr).alloc (Nat.le_refl _) (.cells #[.int .i64 px, .int .i64 py] 23)
      have HBa := Lib.hid (HBr.out.trans (ha.mono HBr.out.size)); have HZa := Lib.hid (HZr.out.next ha); have HCa := Lib.hid (HCr.out.next ha); have HYa := Lib.hid (HYr.out.next ha)
      clear ha
      by_cases t0 : px < -8589934592
      ·
        have rz : (wr.alloc (.cells #[.int .i64 px, .int .i64 py] 23)).cell? ⟨w.heap.size + 1, 0, none⟩ = some (.bool false) := HZa.out.c 0 rfl; have qz := HZa.out.z 0
        go_wp2_with fail
        exact boxM_ret Try.results5 (HZa.out.set 0 (.bool true) (show (0 : Nat) < 1 by decide)) (Below.setCell HBa.out (by exact Nat.le_succ _) _) rfl rfl
      by_cases t1 : 8589934592 < px
      ·
        have rz : (wr.alloc (.cells #[.int .i64 px, .int .i64 py] 23)).cell? ⟨w.heap.size + 1, 0, none⟩ = some (.bool false) := HZa.out.c 0 rfl; have qz := HZa.out.z 0
        go_wp2_with fail
        exact boxM_ret Try.results5 (HZa.out.set 0 (.bool true) (show (0 : Nat) < 1 by decide)) (Below.setCell HBa.out (by exact Nat.le_succ _) _) rfl rfl
      by_cases t2 : py < -8589934592
      ·
        have rz : (wr.alloc (.cells #[.int .i64 px, .int .i64 py] 23)).cell? ⟨w.heap.size + 1, 0, none⟩ = some (.bool false) := HZa.out.c 0 rfl; have qz := HZa.out.z 0
        go_wp2_with fail
        exact boxM_ret Try.results5 (HZa.out.set 0 (.bool true) (show (0 : Nat) < 1 by decide)) (Below.setCell HBa.out (by exact Nat.le_succ _) _) rfl rfl
      by_cases t3 : 8589934592 < py
      ·
        have rz : (wr.alloc (.cells #[.int .i64 px, .int .i64 py] 23)).cell? ⟨w.heap.size + 1, 0, none⟩ = some (.bool false) := HZa.out.c 0 rfl; have qz := HZa.out.z 0
        go_wp2_with fail
        exact boxM_ret Try.results5 (HZa.out.set 0 (.bool true) (show (0 : Nat) < 1 by decide)) (Below.setCell HBa.out (by exact Nat.le_succ _) _) rfl rfl
      have hin2 : Hid (PtB 8589934592 px py) := Lib.hid (by unfold PtB; omega)
      go_wp2_with fail
      go_roundw
      case rel => exact ⟨⟨HBa.out, HCa.out, HZa.out, HYa.out⟩, Or.inr (Or.inl ⟨by go_num, hin2⟩)⟩
      case measure => simp [intOf]
    ·
      have z0 : wr.cell? ⟨y, 2, none⟩ = some (.int .i64 qx) := HYr.out.c 2 rfl; have z1 : wr.cell? ⟨y, 3, none⟩ = some (.int .i64 qy) := HYr.out.c 3 rfl
      have r0 : wr.cell? ⟨w.heap.size + 1, 0, none⟩ = some (.bool false) := HZr.out.c 0 rfl; have q0 := HZr.out.z 0
      have ha := (Below.refl wr.heap.size wr).alloc (Nat.le_refl _) (.cells #[.int .i64 qx, .int .i64 qy] 23)
      have HBa := Lib.hid (HBr.out.trans (ha.mono HBr.out.size)); have HZa := Lib.hid (HZr.out.next ha); have HCa := Lib.hid (HCr.out.next ha); have HYa := Lib.hid (HYr.out.next ha)
      clear ha
      by_cases t0 : qx < -8589934592
      ·
        have rz : (wr.alloc (.cells #[.int .i64 qx, .int .i64 qy] 23)).cell? ⟨w.heap.size + 1, 0, none⟩ = some (.bool false) := HZa.out.c 0 rfl; have qz := HZa.out.z 0
        go_wp2_with fail
        exact boxM_ret Try.results5 (HZa.out.set 0 (.bool true) (show (0 : Nat) < 1 by decide)) (Below.setCell HBa.out (by exact Nat.le_succ _) _) rfl rfl
      by_cases t1 : 8589934592 < qx
      ·
        have rz : (wr.alloc (.cells #[.int .i64 qx, .int .i64 qy] 23)).cell? ⟨w.heap.size + 1, 0, none⟩ = some (.bool false) := HZa.out.c 0 rfl; have qz := HZa.out.z 0
        go_wp2_with fail
        exact boxM_ret Try.results5 (HZa.out.set 0 (.bool true) (show (0 : Nat) < 1 by decide)) (Below.setCell HBa.out (by exact Nat.le_succ _) _) rfl rfl
      by_cases t2 : qy < -8589934592
      ·
        have rz : (wr.alloc (.cells #[.int .i64 qx, .int .i64 qy] 23)).cell? ⟨w.heap.size + 1, 0, none⟩ = some (.bool false) := HZa.out.c 0 rfl; have qz := HZa.out.z 0
        go_wp2_with fail
        exact boxM_ret Try.results5 (HZa.out.set 0 (.bool true) (show (0 : Nat) < 1 by decide)) (Below.setCell HBa.out (by exact Nat.le_succ _) _) rfl rfl
      by_cases t3 : 8589934592 < qy
      ·
        have rz : (wr.alloc (.cells #[.int .i64 qx, .int .i64 qy] 23)).cell? ⟨w.heap.size + 1, 0, none⟩ = some (.bool false) := HZa.out.c 0 rfl; have qz := HZa.out.z 0
        go_wp2_with fail
        exact boxM_ret Try.results5 (HZa.out.set 0 (.bool true) (show (0 : Nat) < 1 by decide)) (Below.setCell HBa.out (by exact Nat.le_succ _) _) rfl rfl
      have hin2 : Hid (PtB 8589934592 px py ∧ PtB 8589934592 qx qy) := Lib.hid (⟨hin.out, by unfold PtB; omega⟩)
      go_wp2_with fail
      go_roundw
      case rel => exact ⟨⟨HBa.out, HCa.out, HZa.out, HYa.out⟩, Or.inr (Or.inr (Or.inl ⟨by go_num, hin2⟩))⟩
      case measure => simp [intOf]
    ·
      have z0 : wr.cell? ⟨y, 4, none⟩ = some (.int .i64 rx) := HYr.out.c 4 rfl; have z1 : wr.cell? ⟨y, 5, none⟩ = some (.int .i64 ry) := HYr.out.c 5 rfl
      have r0 : wr.cell? ⟨w.heap.size + 1, 0, none⟩ = some (.bool false) := HZr.out.c 0 rfl; have q0 := HZr.out.z 0
      have ha := (Below.refl wr.heap.size wr).alloc (Nat.le_refl _) (.cells #[.int .i64 rx, .int .i64 ry] 23)
      have HBa := Lib.hid (HBr.out.trans (ha.mono HBr.out.size)); have HZa := Lib.hid (HZr.out.next ha); have HCa := Lib.hid (HCr.out.next ha); have HYa := Lib.hid (HYr.out.next ha)
      clear ha
      by_cases t0 : rx < -8589934592
      ·
        have rz : (wr.alloc (.cells #[.int .i64 rx, .int .i64 ry] 23)).cell? ⟨w.heap.size + 1, 0, none⟩ = some (.bool false) := HZa.out.c 0 rfl; have qz := HZa.out.z 0
        go_wp2_with fail
        exact boxM_ret Try.results5 (HZa.out.set 0 (.bool true) (show (0 : Nat) < 1 by decide)) (Below.setCell HBa.out (by exact Nat.le_succ _) _) rfl rfl
      by_cases t1 : 8589934592 < rx
      ·
        have rz : (wr.alloc (.cells #[.int .i64 rx, .int .i64 ry] 23)).cell? ⟨w.heap.size + 1, 0, none⟩ = some (.bool false) := HZa.out.c 0 rfl; have qz := HZa.out.z 0
        go_wp2_with fail
        exact boxM_ret Try.results5 (HZa.out.set 0 (.bool true) (show (0 : Nat) < 1 by decide)) (Below.setCell HBa.out (by exact Nat.le_succ _) _) rfl rfl
      by_cases t2 : ry < -8589934592
      ·
        have rz : (wr.alloc (.cells #[.int .i64 rx, .int .i64 ry] 23)).cell? ⟨w.heap.size + 1, 0, none⟩ = some (.bool false) := HZa.out.c 0 rfl; have qz := HZa.out.z 0
        go_wp2_with fail
        exact boxM_ret Try.results5 (HZa.out.set 0 (.bool true) (show (0 : Nat) < 1 by decide)) (Below.setCell HBa.out (by exact Nat.le_succ _) _) rfl rfl
      by_cases t3 : 8589934592 < ry
      ·
        have rz : (wr.alloc (.cells #[.int .i64 rx, .int .i64 ry] 23)).cell? ⟨w.heap.size + 1, 0, none⟩ = some (.bool false) := HZa.out.c 0 rfl; have qz := HZa.out.z 0
        go_wp2_with fail
        exact boxM_ret Try.results5 (HZa.out.set 0 (.bool true) (show (0 : Nat) < 1 by decide)) (Below.setCell HBa.out (by exact Nat.le_succ _) _) rfl rfl
      have hin2 : Hid (PtB 8589934592 px py ∧ PtB 8589934592 qx qy ∧ PtB 8589934592 rx ry) := Lib.hid (⟨hin.out.1, hin.out.2, by unfold PtB; omega⟩)
      go_wp2_with fail
      go_roundw
      case rel => exact ⟨⟨HBa.out, HCa.out, HZa.out, HYa.out⟩, Or.inr (Or.inr (Or.inr (Or.inl ⟨by go_num, hin2⟩)))⟩
      case measure => simp [intOf]
    ·
      have z0 : wr.cell? ⟨y, 6, none⟩ = some (.int .i64 sx) := HYr.out.c 6 rfl; have z1 : wr.cell? ⟨y, 7, none⟩ = some (.int .i64 sy) := HYr.out.c 7 rfl
      have r0 : wr.cell? ⟨w.heap.size + 1, 0, none⟩ = some (.bool false) := HZr.out.c 0 rfl; have q0 := HZr.out.z 0
      have ha := (Below.refl wr.heap.size wr).alloc (Nat.le_refl _) (.cells #[.int .i64 sx, .int .i64 sy] 23)
      have HBa := Lib.hid (HBr.out.trans (ha.mono HBr.out.size)); have HZa := Lib.hid (HZr.out.next ha); have HCa := Lib.hid (HCr.out.next ha); have HYa := Lib.hid (HYr.out.next ha)
      clear ha
      by_cases t0 : sx < -8589934592
      ·
        have rz : (wr.alloc (.cells #[.int .i64 sx, .int .i64 sy] 23)).cell? ⟨w.heap.size + 1, 0, none⟩ = some (.bool false) := HZa.out.c 0 rfl; have qz := HZa.out.z 0
        go_wp2_with fail
        exact boxM_ret Try.results5 (HZa.out.set 0 (.bool true) (show (0 : Nat) < 1 by decide)) (Below.setCell HBa.out (by exact Nat.le_succ _) _) rfl rfl
      by_cases t1 : 8589934592 < sx
      ·
        have rz : (wr.alloc (.cells #[.int .i64 sx, .int .i64 sy] 23)).cell? ⟨w.heap.size + 1, 0, none⟩ = some (.bool false) := HZa.out.c 0 rfl; have qz := HZa.out.z 0
        go_wp2_with fail
        exact boxM_ret Try.results5 (HZa.out.set 0 (.bool true) (show (0 : Nat) < 1 by decide)) (Below.setCell HBa.out (by exact Nat.le_succ _) _) rfl rfl
      by_cases t2 : sy < -8589934592
      ·
        have rz : (wr.alloc (.cells #[.int .i64 sx, .int .i64 sy] 23)).cell? ⟨w.heap.size + 1, 0, none⟩ = some (.bool false) := HZa.out.c 0 rfl; have qz := HZa.out.z 0
        go_wp2_with fail
        exact boxM_ret Try.results5 (HZa.out.set 0 (.bool true) (show (0 : Nat) < 1 by decide)) (Below.setCell HBa.out (by exact Nat.le_succ _) _) rfl rfl
      by_cases t3 : 8589934592 < sy
      ·
        have rz : (wr.alloc (.cells #[.int .i64 sx, .int .i64 sy] 23)).cell? ⟨w.heap.size + 1, 0, none⟩ = some (.bool false) := HZa.out.c 0 rfl; have qz := HZa.out.z 0
        go_wp2_with fail
        exact boxM_ret Try.results5 (HZa.out.set 0 (.bool true) (show (0 : Nat) < 1 by decide)) (Below.setCell HBa.out (by exact Nat.le_succ _) _) rfl rfl
      have hin2 : Hid (PtB 8589934592 px py ∧ PtB 8589934592 qx qy ∧ PtB 8589934592 rx ry ∧ PtB 8589934592 sx sy) := Lib.hid (⟨hin.out.1, hin.out.2.1, hin.out.2.2, by unfold PtB; omega⟩)
      go_wp2_with fail
      go_roundw
      case rel => exact ⟨⟨HBa.out, HCa.out, HZa.out, HYa.out⟩, Or.inr (Or.inr (Or.inr (Or.inr (⟨by go_num, hin2⟩))))⟩
      case measure => simp [intOf]
    ·
      have hB : Crv.inB ⟨px, py, qx, qy, rx, ry, sx, sy⟩ 8589934592 := by
        obtain ⟨i1, i2, i3, i4⟩ := hin.out
        unfold PtB at i1 i2 i3 i4
        exact ⟨i1, i2, i3, i4⟩
      clear hin HYr
      have hr := inB_right hB (by decide)
      have PC := Lib.hid (fun w => PI0.out ⟨px, py, qx, qy, rx, ry, sx, sy⟩ w hr)
      have hfl := pieces12_inB hB
      have hch := pieces12_chain 20 ⟨px, py, qx, qy, rx, ry, sx, sy⟩
      have hrt := pieces12_right 20 hr
      have hpos := pieces12_pos 20 ⟨px, py, qx, qy, rx, ry, sx, sy⟩
      unfold Crv.val Crv.arr at PC
      dsimp only at PC hch
      generalize hRES : pieces12 20 ⟨px, py, qx, qy, rx, ry, sx, sy⟩ = RES at *
      clear PI0 PI CO hB hr hRES
      obtain ⟨k1, k2, k3⟩ := boxes_two wr #[.int .i64 px, .int .i64 py] #[.int .i64 0] 23 3
      have HA4 := Lib.hid k1; have HN4 := Lib.hid k2; have HB4 := Lib.hid (HBr.out.trans (k3.mono HBr.out.size)); have HC4 := Lib.hid (HCr.out.next k3); have HZ4 := Lib.hid (HZr.out.next k3)
      clear k1 k2 k3
      have xC0 : wr.cell? ⟨w.heap.size, 0, none⟩ = some (.int .i64 px) := HCr.out.c 0 rfl
      have xC1 : wr.cell? ⟨w.heap.size, 1, none⟩ = some (.int .i64 py) := HCr.out.c 1 rfl
      go_upto_region 11 with fail
      generalize ((wr.alloc (.cells #[.int .i64 px, .int .i64 py] 23)).alloc (.cells #[.int .i64 0] 3)) = w4 at *
      have gz : w.heap.size + 1 < wr.heap.size := HZr.out.lt
      generalize wr.heap.size = q at *
      clear xC0 xC1
      have xC0 : w4.cell? ⟨w.heap.size, 0, none⟩ = some (.int .i64 px) := HC4.out.c 0 rfl
      have xC1 : w4.cell? ⟨w.heap.size, 1, none⟩ = some (.int .i64 py) := HC4.out.c 1 rfl
      have xC2 : w4.cell? ⟨w.heap.size, 2, none⟩ = some (.int .i64 qx) := HC4.out.c 2 rfl
      have xC3 : w4.cell? ⟨w.heap.size, 3, none⟩ = some (.int .i64 qy) := HC4.out.c 3 rfl
      have xC4 : w4.cell? ⟨w.heap.size, 4, none⟩ = some (.int .i64 rx) := HC4.out.c 4 rfl
      have xC5 : w4.cell? ⟨w.heap.size, 5, none⟩ = some (.int .i64 ry) := HC4.out.c 5 rfl
      have xC6 : w4.cell? ⟨w.heap.size, 6, none⟩ = some (.int .i64 sx) := HC4.out.c 6 rfl
      have xC7 : w4.cell? ⟨w.heap.size, 7, none⟩ = some (.int .i64 sy) := HC4.out.c 7 rfl
      go_wp2_with fail
      refine (PC.out _).mono ?_
      clear xC0 xC1 xC2 xC3 xC4 xC5 xC6 xC7
      rintro o W0 ⟨gf, lb, a, b, rfl, eg, b2, ha, hb, hca, hfe⟩
      have HA5 := Lib.hid (HA4.out.next b2); have HN5 := Lib.hid (HN4.out.next b2); have HB5 := Lib.hid (HB4.out.trans (b2.mono HB4.out.size)); have HC5 := Lib.hid (HC4.out.next b2); have HZ5 := Lib.hid (HZ4.out.next b2)
      have hlt : q + 1 < W0.heap.size := HN5.out.lt
      have hqa : q + 1 < a := Nat.lt_of_lt_of_le HN4.out.lt ha
      have hfe5 := FeedsO.wideAny (n := 5) hfe
      have hrun := nil_neq gf lb W0
      clear hfe PC HC4 HZ4 HA4 HN4 HB4 b2 HBr HCr HZr
      go_wp2
      refine (wpIn_wide (n := 6)).1 ?_
      
      have AB : AbideO T12 W0.heap.size (fun (pre : List Crv) X => (Fixed W0.heap.size [w.heap.size + 1, q, q + 1] W0 X ∧ CBox (w.heap.size + 1) 4 #[.bool false] X ∧ CBox q 23 #[.int .i64 (atP (px, py) pre).1, .int .i64 (atP (px, py) pre).2] X ∧ CBox (q + 1) 3 #[.int .i64 (pre.length : Int)] X) ∧ (Below w.heap.size w X ∧ W0.heap.size ≤ X.heap.size) ∧ pre.length < 5000) := (abideO_fixed.and ((abideO_box (by omega)).and ((abideO_boxP (by omega) (fun pre => #[.int .i64 (atP (px, py) pre).1, .int .i64 (atP (px, py) pre).2])).and (abideO_boxP (by omega) (fun pre => #[.int .i64 (pre.length : Int)]))))).and ((abideO_below (by omega)).and (abideO_pre (fun pre => pre.length < 5000)))
      have HAB := Lib.hid AB
      refine wpIn_feedsO (T := T12) (ca := a) (cb := b) (enc := encC) (RES := RES) rfl (by decide) (gf := gf) (lb := lb) rfl trivial eg
        hfe5 (Mid.refl _ _ _) hb (fun _ => rfl) (fun pre X => (Fixed W0.heap.size [w.heap.size + 1, q, q + 1] W0 X ∧ CBox (w.heap.size + 1) 4 #[.bool false] X ∧ CBox q 23 #[.int .i64 (atP (px, py) pre).1, .int .i64 (atP (px, py) pre).2] X ∧ CBox (q + 1) 3 #[.int .i64 (pre.length : Int)] X) ∧ (Below w.heap.size w X ∧ W0.heap.size ≤ X.heap.size) ∧ pre.length < 5000) (fun c _ X => c = .ret ∧ CBox (w.heap.size + 1) 4 #[.bool true] X ∧ (Below w.heap.size w X ∧ W0.heap.size ≤ X.heap.size))
        AB (fun c => (abideO_pre (fun _ => c = .ret)).and ((abideO_box (by omega)).and (abideO_below (by omega)))) ⟨⟨Fixed.refl (Nat.le_refl _), HZ5.out, HA5.out, HN5.out⟩, ⟨HB5.out, Nat.le_refl _⟩, by decide⟩
        (fun x a' X => ∃ Bx, W0.heap.size ≤ Bx ∧ CBox Bx 25 x.arr X ∧ a' = { tmps := #[.agg #[.int .i64 px, .int .i64 py, .int .i64 qx, .int .i64 qy, .int .i64 rx, .int .i64 ry, .int .i64 sx, .int .i64 sy], .pointer (some ⟨w.heap.size, 0, none⟩), .pointer (some ⟨w.heap.size + 1, 0, none⟩), undef, u4, .pointer (some ⟨q, 0, none⟩), .pointer (some ⟨q + 1, 0, none⟩), .func (.func gf) #[] lb, .pointer (some ⟨Bx, 0, none⟩), .bool true, .bool false, .pointer (some ⟨w.heap.size, 0, none⟩), .agg #[.int .i64 px, .int .i64 py], .pointer (some ⟨w.heap.size, 2, none⟩), .agg #[.int .i64 qx, .int .i64 qy], .pointer (some ⟨w.heap.size, 4, none⟩), .agg #[.int .i64 rx, .int .i64 ry], .pointer (some ⟨w.heap.size, 6, none⟩), .agg #[.int .i64 sx, .int .i64 sy], .slice (some ⟨y, 0, none⟩) 4 4, .int .i64 4, .int .i64 4, .bool false, u23, u24, u25, u26, u27, u28, u29, u30, u31, u32, u33, u34, u35, u36, u37, u38, u39, u40, u41, u42, u43, .pointer (some ⟨w.heap.size, 0, none⟩), .agg #[.int .i64 px, .int .i64 py], .agg #[.int .i64 px, .int .i64 py, .int .i64 qx, .int .i64 qy, .int .i64 rx, .int .i64 ry, .int .i64 sx, .int .i64 sy], .func (.func gf) #[] lb, .func (.func gf) #[] lb, .bool true, .func (.func gf) #[] lb, x.val, undef, undef, undef, undef, undef, undef, undef, undef, undef, undef, undef, undef, undef, undef, undef, undef, undef, undef, undef, undef, undef, undef, undef], defers := [] }) ?own ?assign ?body ?done ?stop
      case own =>
        rintro x a' _ X X' row ⟨Bx, h0, h1, h3⟩ hg hr
        exact ⟨Bx, h0, h1.free hg (fun r e => (hr r e).2), h3⟩
      case assign =>
        rintro l' pre x X K hj hws hpx hK
        have z2 := (Below.refl X.heap.size X).alloc (Nat.le_refl _) (.cells x.arr 25)
        have hj' := HAB.out.abide.new _ _ _ hj z2
        have HJ3 := Lib.hid hj'
        have HZ1 := Lib.hid (CBox.new X 25 x.arr); have HZ2 := Lib.hid z2; have HK := Lib.hid hK
        clear z2 hj hK hj' AB
        unfold encC
        obtain ⟨ax, ay, bx, by1, cx, cy, dx, dy⟩ := x
        unfold Crv.val at *
        unfold Crv.arr at *
        dsimp only at *
        gi_wp2
        exact HK.out _ _ ((KeepsOthers.alloc _ _).from _) (KeepsT.below HZ2.out (by omega)) HJ3.out ⟨_, hws, HZ1.out, rfl⟩
      case body =>
        rintro l' pre x a' X ⟨⟨hfx, hz, hat, hn⟩, ⟨hbe, hsz⟩, hl5⟩ ⟨Bx, hBx, hbx, rfl⟩ hws hpx
        obtain ⟨rr, hpr⟩ := hpx
        have e1 : (x.px, x.py) = atP (px, py) pre := atP_next pre x rr _ _ (by rw [hpr]; exact hch)
        have hx : x ∈ RES := by rw [← hpr]; simp
        have RF := Lib.hid (fun w => rflat11 x w (hrt x hx))
        rw [decide_eq_true (hfl x hx)] at RF
        rw [← e1] at hat
        have HE := Lib.hid (atP_snoc (px, py) pre x)
        have HLN := Lib.hid (show ((pre ++ [x]).length : Int) = (pre.length : Int) + 1 by simp)
        have HLM := Lib.hid (show (pre ++ [x]).length = pre.length + 1 by simp)
        clear e1 hx hpr hch hrt hfl hpos HAB AB
        obtain ⟨ax, ay, bx, by1, cx, cy, dx, dy⟩ := x
        unfold Crv.val Crv.arr at *
        unfold endP at HE
        dsimp only at *
        have HX := Lib.hid hfx; have HZ := Lib.hid hz; have HA := Lib.hid hat; have HN := Lib.hid hn; have HB := Lib.hid hbe; have HBX := Lib.hid hbx
        clear hfx hz hat hn hbe hbx
        have a0 : X.cell? ⟨q, 0, none⟩ = some (.int .i64 ax) := HA.out.c 0 rfl; have a1 : X.cell? ⟨q, 1, none⟩ = some (.int .i64 ay) := HA.out.c 1 rfl
        have b0 : X.cell? ⟨Bx, 0, none⟩ = some (.int .i64 ax) := HBX.out.c 0 rfl; have b1 : X.cell? ⟨Bx, 1, none⟩ = some (.int .i64 ay) := HBX.out.c 1 rfl; have b2 : X.cell? ⟨Bx, 2, none⟩ = some (.int .i64 bx) := HBX.out.c 2 rfl; have b3 : X.cell? ⟨Bx, 3, none⟩ = some (.int .i64 by1) := HBX.out.c 3 rfl; have b4 : X.cell? ⟨Bx, 4, none⟩ = some (.int .i64 cx) := HBX.out.c 4 rfl; have b5 : X.cell? ⟨Bx, 5, none⟩ = some (.int .i64 cy) := HBX.out.c 5 rfl; have b6 : X.cell? ⟨Bx, 6, none⟩ = some (.int .i64 dx) := HBX.out.c 6 rfl; have b7 : X.cell? ⟨Bx, 7, none⟩ = some (.int .i64 dy) := HBX.out.c 7 rfl
        gi_wp2_with fail
        refine ⟨trivial, (CallsIn.inRound l' (callsIn_wide.2 (RF.out _))).mono ?_⟩
        rintro e X3 ⟨rfl, z3⟩
        clear a0 a1 b0 b1 b2 b3 b4 b5 b6 b7
        have HX3 := Lib.hid (HX.out.next z3); have HZ3 := Lib.hid (HZ.out.next z3); have HA3 := Lib.hid (HA.out.next z3); have HN3 := Lib.hid (HN.out.next z3); have HB3 := Lib.hid (HB.out.trans (z3.mono HB.out.size)); have HBX3 := Lib.hid (HBX.out.next z3); have H3 := Lib.hid z3
        clear z3 HX HZ HA HN HB HBX RF
        have b6 : X3.cell? ⟨Bx, 6, none⟩ = some (.int .i64 dx) := HBX3.out.c 6 rfl; have b7 : X3.cell? ⟨Bx, 7, none⟩ = some (.int .i64 dy) := HBX3.out.c 7 rfl
        have a0 : X3.cell? ⟨q, 0, none⟩ = some (.int .i64 ax) := HA3.out.c 0 rfl; have a1 : X3.cell? ⟨q, 1, none⟩ = some (.int .i64 ay) := HA3.out.c 1 rfl; have a2 := HA3.out.z 0; have a3 := HA3.out.z 1
        have n0 : X3.cell? ⟨q + 1, 0, none⟩ = some (.int .i64 (pre.length : Int)) := HN3.out.c 0 rfl; have n1 := HN3.out.z 0
        have r0 : X3.cell? ⟨w.heap.size + 1, 0, none⟩ = some (.bool false) := HZ3.out.c 0 rfl; have r1 := HZ3.out.z 0
        have hm0 : w.heap.size + 1 ∈ [w.heap.size + 1, q, q + 1] := by simp
        have hm1 : q ∈ [w.heap.size + 1, q, q + 1] := by simp
        have hm2 : q + 1 ∈ [w.heap.size + 1, q, q + 1] := by simp
        have he12 : ∀ k ∈ [w.heap.size + 1, q, q + 1], k < W0.heap.size ∧ (k < a ∨ b ≤ k) := by
          intro k hk
          simp only [List.mem_cons, List.not_mem_nil, or_false] at hk
          omega
        have SM := Lib.hid (((((Small12.refl W0.heap.size [w.heap.size + 1, q, q + 1] X).below H3.out).set (o := 0) hm1 (.int .i64 dx)).set (o := 1) hm1 (.int .i64 dy)).set (o := 0) hm2 (.int .i64 ((pre.length : Int) + 1)))
        have BE := Lib.hid (Below.setCell (Below.setCell (Below.setCell HB3.out (p := ⟨q, 0, none⟩) (show w.heap.size ≤ q by omega) (.int .i64 dx)) (p := ⟨q, 1, none⟩) (show w.heap.size ≤ q by omega) (.int .i64 dy)) (p := ⟨q + 1, 0, none⟩) (show w.heap.size ≤ q + 1 by omega) (.int .i64 ((pre.length : Int) + 1)))
        have ZZ := Lib.hid (((HZ3.out.other (show w.heap.size + 1 ≠ q by omega) 0 (.int .i64 dx)).other (show w.heap.size + 1 ≠ q by omega) 1 (.int .i64 dy)).other (show w.heap.size + 1 ≠ q + 1 by omega) 0 (.int .i64 ((pre.length : Int) + 1)))
        clear hm0
        have hm0 := Lib.hid (show w.heap.size + 1 ∈ [w.heap.size + 1, q, q + 1] by simp)
        by_cases h5 : ((pre.length : Int) + 1 == 5000) = true
        · gi_wp2_with fail
          have SM2 := SM.out.set (o := 0) hm0.out (.bool true)
          have hk := SM2.keeps (T := T12) hsz hb he12
          exact ⟨hk.1, rfl, ZZ.out.set 0 (.bool true) (show (0 : Nat) < 1 by decide), Below.setCell BE.out (by exact Nat.le_succ _) _, Nat.le_trans hsz SM2.size⟩
        · have h6 : ((pre.length : Int) + 1 == 5000) = false := by simpa using h5
          have h7 := Lib.hid (show (pre.length : Int) + 1 ≠ 5000 by simpa using h5)
          have AA := Lib.hid (((HA3.out.set 0 (.int .i64 dx) (show (0 : Nat) < 2 by decide)).set 1 (.int .i64 dy) (show (1 : Nat) < 2 by decide)).other (show q ≠ q + 1 by omega) 0 (.int .i64 ((pre.length : Int) + 1)))
          have NN := Lib.hid (((HN3.out.other (show q + 1 ≠ q by omega) 0 (.int .i64 dx)).other (show q + 1 ≠ q by omega) 1 (.int .i64 dy)).set 0 (.int .i64 ((pre.length : Int) + 1)) (show (0 : Nat) < 1 by decide))
          have FX := Lib.hid (((HX3.out.set (o := 0) hm1 (.int .i64 dx)).set (o := 1) hm1 (.int .i64 dy)).set (o := 0) hm2 (.int .i64 ((pre.length : Int) + 1)))
          gi_wp2_with fail
          have hk := SM.out.keeps (T := T12) hsz hb he12
          exact ⟨hk.1, hk.2, ⟨FX.out, ZZ.out, by rw [HE.out]; exact AA.out, by rw [HLN.out]; exact NN.out⟩, ⟨BE.out, Nat.le_trans hsz SM.out.size⟩, by rw [HLM.out]; have := h7.out; omega⟩
      case done =>
        rintro D X hD ⟨⟨hfx, hz, hat, hn⟩, ⟨hbe, hsz⟩, hl5⟩ hK
        have hl0 : (1 : Int) ≤ (RES.length : Int) := by omega
        have e1 := atP_chain RES _ _ hch
        rw [e1] at hat
        have HZD := Lib.hid hz; have HBD := Lib.hid hbe; have HKD := Lib.hid hK
        have a0 : X.cell? ⟨q, 0, none⟩ = some (.int .i64 sx) := hat.c 0 rfl; have a1 : X.cell? ⟨q, 1, none⟩ = some (.int .i64 sy) := hat.c 1 rfl
        have n0 : X.cell? ⟨q + 1, 0, none⟩ = some (.int .i64 (RES.length : Int)) := hn.c 0 rfl
        have r0 : X.cell? ⟨w.heap.size + 1, 0, none⟩ = some (.bool false) := hz.c 0 rfl; have q0 := hz.z 0
        have HCD := Lib.hid (hfx.box HC5.out (by omega) (by simp; omega))
        have c6 : X.cell? ⟨w.heap.size, 6, none⟩ = some (.int .i64 sx) := HCD.out.c 6 rfl; have c7 : X.cell? ⟨w.heap.size, 7, none⟩ = some (.int .i64 sy) := HCD.out.c 7 rfl
        clear hfx hz hat hn hbe hK HAB AB
        go_wp2_with fail
        exact boxM_done Try.results5 (HZD.out.set 0 (.bool true) (show (0 : Nat) < 1 by decide)) (Below.setCell HBD.out (by exact Nat.le_succ _) _) rfl rfl ((Below.heap_setCell _ _ _ _ (by exact fun e => by have e2 : D = w.heap.size + 1 := e; omega)).trans HKD.out) (by omega)
      case stop =>
        rintro D c pre X hD hpre ⟨rfl, hz, hbe, hsz⟩ hK
        have r0 : X.cell? ⟨w.heap.size + 1, 0, none⟩ = some (.bool true) := hz.c 0 rfl
        have HZD := Lib.hid hz; have HBD := Lib.hid hbe; have HKD := Lib.hid hK
        clear hz hbe hK HAB AB
        gi_wp2_with fail
        exact boxM_done Try.results5 HZD.out HBD.out rfl rfl HKD.out (by omega)
end Go.Proofs.Ytgkjbmejfcijkaa
