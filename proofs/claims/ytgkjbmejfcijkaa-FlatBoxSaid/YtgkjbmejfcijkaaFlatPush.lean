/-
  Package flat: push and pop.
-/
import Derived.Test.YtgkjbmejfcijkaaFlatStk
import Derived.Deep.DeepCutAuto
namespace Go.Proofs.Ytgkjbmejfcijkaa
open Go.RowKit Go.Shelf
set_option linter.unusedSimpArgs false

theorem wrap_o (o : Nat) (h : o < 21) : wrap64 ((o : Int) + 1) = (o : Int) + 1 := by unfold wrap64; omega
set_option maxHeartbeats 4000000 in
set_option maxRecDepth 100000 in
theorem push_any (n : Nat) (s : List (Crv × Nat)) (x : Crv × Nat) (w : World) (h : Stk n s w) (hl : s.length < 21) :
    Calls Try.prog 25 #[.pointer (some ⟨n, 0, none⟩), .agg (brX x)] w fun e w' => e = .returned (.tuple #[]) ∧ Stk n (x :: s) w' ∧ But w.heap.size n w w' := by
  obtain ⟨cs, hb, hc⟩ := h
  have hlt := hb.lt
  obtain ⟨⟨px, py, qx, qy, rx, ry, sx, sy⟩, m⟩ := x
  have hP := Lib.hid (hc.push (⟨px, py, qx, qy, rx, ry, sx, sy⟩, m) hl rfl)
  have hnum := hc.num
  have hsz := hc.size
  unfold brX brA
  dsimp only at *
  generalize cutsI m = k at *
  obtain ⟨o, ho⟩ : ∃ o, s.length = o := ⟨_, rfl⟩
  rw [ho] at hP hnum hl
  have k1 := CBox.new w 53 #[.int .i64 px, .int .i64 py, .int .i64 qx, .int .i64 qy, .int .i64 rx, .int .i64 ry, .int .i64 sx, .int .i64 sy, .int .i64 k]
  have b1 := (Below.refl w.heap.size w).alloc (Nat.le_refl _) (.cells #[.int .i64 px, .int .i64 py, .int .i64 qx, .int .i64 qy, .int .i64 rx, .int .i64 ry, .int .i64 sx, .int .i64 sy, .int .i64 k] 53)
  have HK := Lib.hid k1
  have HS := Lib.hid (hb.next b1)
  have HB := Lib.hid b1
  have HN := Lib.hid hnum
  clear k1 b1 hb hc hnum
  go_enter Try.func25, Try.ntmps25
  go_upto_region 1 with fail
  generalize w.alloc (.cells #[.int .i64 px, .int .i64 py, .int .i64 qx, .int .i64 qy, .int .i64 rx, .int .i64 ry, .int .i64 sx, .int .i64 sy, .int .i64 k] 53) = w1 at *
  have n0 : w1.cell? ⟨n, 189, none⟩ = some (.int .i64 (o : Int)) := HS.out.c 189 HN.out
  have hoi : (o : Int) < 21 := by omega
  have hoi0 : (0 : Int) ≤ (o : Int) := by omega
  have z0 : w1.cell? ⟨w.heap.size, 0, none⟩ = some (.int .i64 px) := HK.out.c 0 rfl
  have z1 : w1.cell? ⟨w.heap.size, 1, none⟩ = some (.int .i64 py) := HK.out.c 1 rfl
  have z2 : w1.cell? ⟨w.heap.size, 2, none⟩ = some (.int .i64 qx) := HK.out.c 2 rfl
  have z3 : w1.cell? ⟨w.heap.size, 3, none⟩ = some (.int .i64 qy) := HK.out.c 3 rfl
  have z4 : w1.cell? ⟨w.heap.size, 4, none⟩ = some (.int .i64 rx) := HK.out.c 4 rfl
  have z5 : w1.cell? ⟨w.heap.size, 5, none⟩ = some (.int .i64 ry) := HK.out.c 5 rfl
  have z6 : w1.cell? ⟨w.heap.size, 6, none⟩ = some (.int .i64 sx) := HK.out.c 6 rfl
  have z7 : w1.cell? ⟨w.heap.size, 7, none⟩ = some (.int .i64 sy) := HK.out.c 7 rfl
  have z8 : w1.cell? ⟨w.heap.size, 8, none⟩ = some (.int .i64 k) := HK.out.c 8 rfl
  obtain ⟨u0, hu0⟩ : ∃ v, cs[o * 9]? = some v := ⟨_, Array.getElem?_eq_getElem (by omega)⟩
  have c0 : w1.cell? ⟨n, o * 9, none⟩ = some u0 := HS.out.c _ hu0
  have f0 : w1.frozen? ⟨n, o * 9, none⟩ = false := HS.out.z _
  clear hu0
  obtain ⟨u1, hu1⟩ : ∃ v, cs[o * 9 + 1]? = some v := ⟨_, Array.getElem?_eq_getElem (by omega)⟩
  have c1 : w1.cell? ⟨n, o * 9 + 1, none⟩ = some u1 := HS.out.c _ hu1
  have f1 : w1.frozen? ⟨n, o * 9 + 1, none⟩ = false := HS.out.z _
  clear hu1
  obtain ⟨u2, hu2⟩ : ∃ v, cs[o * 9 + 2]? = some v := ⟨_, Array.getElem?_eq_getElem (by omega)⟩
  have c2 : w1.cell? ⟨n, o * 9 + 2, none⟩ = some u2 := HS.out.c _ hu2
  have f2 : w1.frozen? ⟨n, o * 9 + 2, none⟩ = false := HS.out.z _
  clear hu2
  obtain ⟨u3, hu3⟩ : ∃ v, cs[o * 9 + 3]? = some v := ⟨_, Array.getElem?_eq_getElem (by omega)⟩
  have c3 : w1.cell? ⟨n, o * 9 + 3, none⟩ = some u3 := HS.out.c _ hu3
  have f3 : w1.frozen? ⟨n, o * 9 + 3, none⟩ = false := HS.out.z _
  clear hu3
  obtain ⟨u4, hu4⟩ : ∃ v, cs[o * 9 + 4]? = some v := ⟨_, Array.getElem?_eq_getElem (by omega)⟩
  have c4 : w1.cell? ⟨n, o * 9 + 4, none⟩ = some u4 := HS.out.c _ hu4
  have f4 : w1.frozen? ⟨n, o * 9 + 4, none⟩ = false := HS.out.z _
  clear hu4
  obtain ⟨u5, hu5⟩ : ∃ v, cs[o * 9 + 5]? = some v := ⟨_, Array.getElem?_eq_getElem (by omega)⟩
  have c5 : w1.cell? ⟨n, o * 9 + 5, none⟩ = some u5 := HS.out.c _ hu5
  have f5 : w1.frozen? ⟨n, o * 9 + 5, none⟩ = false := HS.out.z _
  clear hu5
  obtain ⟨u6, hu6⟩ : ∃ v, cs[o * 9 + 6]? = some v := ⟨_, Array.getElem?_eq_getElem (by omega)⟩
  have c6 : w1.cell? ⟨n, o * 9 + 6, none⟩ = some u6 := HS.out.c _ hu6
  have f6 : w1.frozen? ⟨n, o * 9 + 6, none⟩ = false := HS.out.z _
  clear hu6
  obtain ⟨u7, hu7⟩ : ∃ v, cs[o * 9 + 7]? = some v := ⟨_, Array.getElem?_eq_getElem (by omega)⟩
  have c7 : w1.cell? ⟨n, o * 9 + 7, none⟩ = some u7 := HS.out.c _ hu7
  have f7 : w1.frozen? ⟨n, o * 9 + 7, none⟩ = false := HS.out.z _
  clear hu7
  obtain ⟨u8, hu8⟩ : ∃ v, cs[o * 9 + 8]? = some v := ⟨_, Array.getElem?_eq_getElem (by omega)⟩
  have c8 : w1.cell? ⟨n, o * 9 + 8, none⟩ = some u8 := HS.out.c _ hu8
  have f8 : w1.frozen? ⟨n, o * 9 + 8, none⟩ = false := HS.out.z _
  clear hu8
  go_region_with fail
  all_goals (
    have p1 : CBox n 56 (put9 cs (o * 9) (.int .i64 px) (.int .i64 py) (.int .i64 qx) (.int .i64 qy) (.int .i64 rx) (.int .i64 ry) (.int .i64 sx) (.int .i64 sy) (.int .i64 k)) (((((((((w1.setCell ⟨n, o * 9, none⟩ (.int .i64 px)).setCell ⟨n, o * 9 + 1, none⟩ (.int .i64 py)).setCell ⟨n, o * 9 + 2, none⟩ (.int .i64 qx)).setCell ⟨n, o * 9 + 3, none⟩ (.int .i64 qy)).setCell ⟨n, o * 9 + 4, none⟩ (.int .i64 rx)).setCell ⟨n, o * 9 + 5, none⟩ (.int .i64 ry)).setCell ⟨n, o * 9 + 6, none⟩ (.int .i64 sx)).setCell ⟨n, o * 9 + 7, none⟩ (.int .i64 sy)).setCell ⟨n, o * 9 + 8, none⟩ (.int .i64 k)).drew := (HS.out.put9 (o * 9) (.int .i64 px) (.int .i64 py) (.int .i64 qx) (.int .i64 qy) (.int .i64 rx) (.int .i64 ry) (.int .i64 sx) (.int .i64 sy) (.int .i64 k)).drew
    have p2 : But w.heap.size n w (((((((((w1.setCell ⟨n, o * 9, none⟩ (.int .i64 px)).setCell ⟨n, o * 9 + 1, none⟩ (.int .i64 py)).setCell ⟨n, o * 9 + 2, none⟩ (.int .i64 qx)).setCell ⟨n, o * 9 + 3, none⟩ (.int .i64 qy)).setCell ⟨n, o * 9 + 4, none⟩ (.int .i64 rx)).setCell ⟨n, o * 9 + 5, none⟩ (.int .i64 ry)).setCell ⟨n, o * 9 + 6, none⟩ (.int .i64 sx)).setCell ⟨n, o * 9 + 7, none⟩ (.int .i64 sy)).setCell ⟨n, o * 9 + 8, none⟩ (.int .i64 k)).drew := (but_9 (But.of_below HB.out) (o * 9) (.int .i64 px) (.int .i64 py) (.int .i64 qx) (.int .i64 qy) (.int .i64 rx) (.int .i64 ry) (.int .i64 sx) (.int .i64 sy) (.int .i64 k)).drew
    generalize (((((((((w1.setCell ⟨n, o * 9, none⟩ (.int .i64 px)).setCell ⟨n, o * 9 + 1, none⟩ (.int .i64 py)).setCell ⟨n, o * 9 + 2, none⟩ (.int .i64 qx)).setCell ⟨n, o * 9 + 3, none⟩ (.int .i64 qy)).setCell ⟨n, o * 9 + 4, none⟩ (.int .i64 rx)).setCell ⟨n, o * 9 + 5, none⟩ (.int .i64 ry)).setCell ⟨n, o * 9 + 6, none⟩ (.int .i64 sx)).setCell ⟨n, o * 9 + 7, none⟩ (.int .i64 sy)).setCell ⟨n, o * 9 + 8, none⟩ (.int .i64 k)).drew = w2 at *
    have m0 : w2.cell? ⟨n, 189, none⟩ = some (.int .i64 (o : Int)) := p1.c 189 (by rw [put9_other _ _ _ _ _ _ _ _ _ _ _ (by omega)]; exact HN.out)
    have m1 : w2.frozen? ⟨n, 189, none⟩ = false := p1.z _
    have HP1 := Lib.hid p1; have HP2 := Lib.hid p2
    clear c0 c1 c2 c3 c4 c5 c6 c7 c8 f0 f1 f2 f3 f4 f5 f6 f7 f8 z0 z1 z2 z3 z4 z5 z6 z7 z8 n0 p1 p2
    have hw := wrap_o o hl
    clear hoi hoi0 hlt ho hsz
    go_wp2_with fail
    go_end0
    exact ⟨rfl, ⟨_, HP1.out.setI _ _, hP.out⟩, HP2.out.setCell (.inl rfl) _ _⟩)
end Go.Proofs.Ytgkjbmejfcijkaa
