/-
  The document's answers of layer 7: capital, in, pair, mirror, begin.
-/
import Derived.Test.YtgiibcnakiggaaaGreatDoorJNPath
namespace Go.Proofs.YtgiibcnakiggaaaGreatDoor
open Go.RowKit Go.Shelf

theorem rcap_any (c : Nat) (hc : c < 256) (w : World) : Calls Tryz.prog 36 #[.int .u8 (c : Int)] w fun e w' => e = .returned (.int .u8 (capL c : Int)) ∧ w = w' := by
  by_cases h1 : 97 ≤ c
  · by_cases h2 : c ≤ 122
    · have e1 : IntKind.u8.wrap ((c : Int) - 32) = (capL c : Int) := by
        rw [IntWalk.u8_in _ (by omega)]; unfold capL; rw [if_pos ⟨h1, h2⟩]; omega
      go_enter Tryz.func36, Tryz.ntmps36
      go_wp2_with fail
      go_ret
      exact ⟨rfl, rfl⟩
    · have e1 : capL c = c := by unfold capL; rw [if_neg (fun h => h2 h.2)]
      rw [e1]
      go_enter Tryz.func36, Tryz.ntmps36
      go_wp2_with fail
      go_ret
      exact ⟨rfl, rfl⟩
  · have e1 : capL c = c := by unfold capL; rw [if_neg (fun h => h1 h.1)]
    rw [e1]
    go_enter Tryz.func36, Tryz.ntmps36
    go_wp2_with fail
    go_ret
    exact ⟨rfl, rfl⟩
theorem rin_any (x y : Int) (w : World) : Calls Tryz.prog 19 #[.agg #[.int .i64 x, .int .i64 y]] w fun e w' => e = .returned (.bool (decide (In32 x ∧ In32 y))) ∧ Below w.heap.size w w' := by
  have b0 := Lib.hid ((Below.refl w.heap.size w).alloc (Nat.le_refl _) (.cells #[.int .i64 x, .int .i64 y] 39))
  by_cases h1 : -4294967296 < x
  · by_cases h2 : x < 4294967296
    · by_cases h3 : -4294967296 < y
      · by_cases h4 : y < 4294967296
        · rw [decide_eq_true (show In32 x ∧ In32 y from ⟨⟨h1, h2⟩, h3, h4⟩)]
          go_enter Tryz.func19, Tryz.ntmps19
          go_wp2_with fail
          go_ret
          exact ⟨rfl, b0.out⟩
        · rw [decide_eq_false (show ¬ (In32 x ∧ In32 y) from fun h => h4 h.2.2)]
          go_enter Tryz.func19, Tryz.ntmps19
          go_wp2_with fail
          go_ret
          exact ⟨rfl, b0.out⟩
      · rw [decide_eq_false (show ¬ (In32 x ∧ In32 y) from fun h => h3 h.2.1)]
        go_enter Tryz.func19, Tryz.ntmps19
        go_wp2_with fail
        go_ret
        exact ⟨rfl, b0.out⟩
    · rw [decide_eq_false (show ¬ (In32 x ∧ In32 y) from fun h => h2 h.1.2)]
      go_enter Tryz.func19, Tryz.ntmps19
      go_wp2_with fail
      go_ret
      exact ⟨rfl, b0.out⟩
  · rw [decide_eq_false (show ¬ (In32 x ∧ In32 y) from fun h => h1 h.1.1)]
    go_enter Tryz.func19, Tryz.ntmps19
    go_wp2_with fail
    go_ret
    exact ⟨rfl, b0.out⟩
set_option maxHeartbeats 2000000 in
set_option maxRecDepth 100000 in
theorem rpair_any (fx fy : Int) (b off n cap k j : Nat) (x0 x1 : Int) (w : World) (hb : b < w.heap.size) (hj : j = k + 1) (hk : j < n) (hn : n ≤ 1000) (h0 : w.cell? ⟨b, off + k, none⟩ = some (.int .i64 x0)) (h1 : w.cell? ⟨b, off + j, none⟩ = some (.int .i64 x1)) (i0 : I64 (fx + x0)) (i1 : I64 (fy + x1)) :
    Calls Tryz.prog 62 #[.agg #[.int .i64 fx, .int .i64 fy], .slice (some ⟨b, off, none⟩) n cap, .int .i64 (k : Int)] w fun e w' => e = .returned (ptV (fx + x0) (fy + x1)) ∧ Below w.heap.size w w' := by
  have e0 : IntKind.i64.wrap (fx + x0) = fx + x0 := IntWalk.i64_in _ i0
  have e1 : IntKind.i64.wrap (fy + x1) = fy + x1 := IntWalk.i64_in _ i1
  have e2 : IntKind.i64.wrap ((k : Int) + 1) = (j : Int) := by rw [IntWalk.i64_in _ (by omega)]; omega
  have hkI : (k : Int) < (n : Int) := by omega
  have hk2 : (j : Int) < (n : Int) := by omega
  clear i0 i1 hj
  have P0 := PtAt.new w fx fy
  have b0 := (Below.refl w.heap.size w).alloc (Nat.le_refl _) (.cells #[.int .i64 fx, .int .i64 fy] 39)
  have HB := Lib.hid b0
  have q0 := P0.c0
  have q1 := P0.c1
  have hlt := P0.lt
  have hs1 : (w.alloc (.cells #[.int .i64 fx, .int .i64 fy] 39)).heap.size = w.heap.size + 1 := by simp
  have g0 := (b0.cell (p := ⟨b, off + k, none⟩) (by exact hb)).trans h0
  have g1 := (b0.cell (p := ⟨b, off + j, none⟩) (by exact hb)).trans h1
  go_enter Tryz.func62, Tryz.ntmps62
  go_wp2_with fail
  generalize w.alloc (.cells #[.int .i64 fx, .int .i64 fy] 39) = W1 at *
  have hbW : b < W1.heap.size := by omega
  have hwW : w.heap.size < W1.heap.size := by omega
  have PP := PtAt.new W1 (fx + x0) (fy + x1)
  rw [hs1] at PP
  have HPP := Lib.hid PP
  clear PP P0 b0 h0 h1
  go_region_held3 (fun w' => w'.cell? ⟨w.heap.size, 0, none⟩ = some (.int .i64 fx) ∧ w'.cell? ⟨w.heap.size, 1, none⟩ = some (.int .i64 fy) ∧ w'.cell? ⟨b, off + k, none⟩ = some (.int .i64 x0) ∧ w'.cell? ⟨b, off + j, none⟩ = some (.int .i64 x1)) (first | (simp [go_sem, *]; done) | (exact ⟨by assumption, by assumption, by assumption, by assumption⟩))
    (fail)
  all_goals
    go_wp2_with fail
    exact pt_close Tryz.results62 HPP.out (HB.out.alloc HB.out.size _).drew rfl
set_option maxRecDepth 100000 in
theorem rmirror_any (px py cx cy : Int) (w : World) (i0 : In32 px) (i1 : In32 py) (i2 : In32 cx) (i3 : In32 cy) :
    Calls Tryz.prog 63 #[.agg #[.int .i64 px, .int .i64 py], .agg #[.int .i64 cx, .int .i64 cy]] w fun e w' => e = .returned (ptV (2 * px - cx) (2 * py - cy)) ∧ Below w.heap.size w w' := by
  have s0 := in_mir i0 i2
  have s1 := in_mir i1 i3
  unfold In32 at i0 i1
  have e0 : IntKind.i64.wrap (2 * px - cx) = 2 * px - cx := IntWalk.i64_in _ s0.i64
  have e1 : IntKind.i64.wrap (2 * py - cy) = 2 * py - cy := IntWalk.i64_in _ s1.i64
  have e2 : IntKind.i64.wrap (2 * px) = 2 * px := IntWalk.i64_in _ (by omega)
  have e3 : IntKind.i64.wrap (2 * py) = 2 * py := IntWalk.i64_in _ (by omega)
  have b0 := (Below.refl w.heap.size w).alloc (Nat.le_refl _) (.cells #[.int .i64 px, .int .i64 py] 39)
  have b1 := b0.alloc b0.size (.cells #[.int .i64 cx, .int .i64 cy] 39)
  have HB := Lib.hid b1
  clear i0 i1 i2 i3 s0 s1 b0 b1
  go_enter Tryz.func63, Tryz.ntmps63
  go_wp2_with fail
  have P2 := PtAt.new ((w.alloc (.cells #[.int .i64 px, .int .i64 py] 39)).alloc (.cells #[.int .i64 cx, .int .i64 cy] 39)) (2 * px - cx) (2 * py - cy)
  rw [show ((w.alloc (.cells #[.int .i64 px, .int .i64 py] 39)).alloc (.cells #[.int .i64 cx, .int .i64 cy] 39)).heap.size = w.heap.size + 1 + 1 by simp] at P2
  exact pt_close Tryz.results63 P2 (HB.out.alloc HB.out.size _) rfl
def BegInv (l : List Seg) (v : Value) : Prop := ∃ i : Nat, v = .int .i64 ((i : Int) - 1) ∧ i ≤ l.length ∧ Hid (begL l = begL (l.take i))
theorem beg_step {l : List Seg} {i : Nat} (hi : i < l.length) : begL (l.take (i + 1)) = if (l.getD i zeroS).kind = 1 then ((l.getD i zeroS).tx, (l.getD i zeroS).ty) else begL (l.take i) := by
  rw [List.take_succ_eq_append_getElem hi, begL_snoc]
  simp [List.getD, List.getElem?_eq_getElem hi]
set_option maxHeartbeats 4000000 in
set_option maxRecDepth 100000 in
theorem rbegin_any (a : Option Addr) (l : List Seg) (cap : Nat) (w : World) (hl : l.length ≤ 1000000000) (hA : RdS a l w) :
    Calls Tryz.prog 21 #[.slice a l.length cap] w fun e w' => e = .returned (ptV (begL l).1 (begL l).2) ∧ Below w.heap.size w w' := by
  have b0 := (Below.refl w.heap.size w).alloc (Nat.le_refl _) (.cells #[.int .i64 0, .int .i64 0] 39)
  have HB := Lib.hid b0
  have HP := Lib.hid (PtAt.new w 0 0)
  have HA := Lib.hid (hA.next b0)
  have e0 : IntKind.i64.wrap ((l.length : Int) - 1) = (l.length : Int) - 1 := IntWalk.i64_in _ (by omega)
  clear b0 hA
  go_enter Tryz.func21, Tryz.ntmps21
  go_wp2_with fail
  generalize hW1 : w.alloc (.cells #[.int .i64 0, .int .i64 0] 39) = W1 at *
  clear hW1
  go_loop [3] (fun v => BegInv l v) (fun v => (intOf v + 1).toNat)
  case atStart => exact ⟨l.length, rfl, Nat.le_refl _, by rw [List.take_length]; exact Lib.hid rfl⟩
  case round =>
    obtain ⟨i, rfl, hi, hE⟩ := hrel
    have hsz := HP.out.lt
    have p0 := HP.out.c0
    have p1 := HP.out.c1
    have z0 := HP.out.z 0
    have z1 := HP.out.z 1
    cases i with
    | zero =>
      have hE' : begL l = (0, 0) := hE.out
      have HE := Lib.hid hE'
      have hneg : (((0 : Nat) : Int) - 1) = -1 := by omega
      rw [hneg]
      clear hE hE'
      go_wp2_with fail
      rw [HE.out]
      exact pt_close Tryz.results21 (HP.out.set 0 0) (below_two HB.out (Nat.le_refl _) (.int .i64 0) (.int .i64 0)) rfl
    | succ j =>
      rw [show (((j + 1 : Nat) : Int) - 1) = (j : Int) by omega]
      obtain ⟨b, off, rfl, hb, hc⟩ := HA.out.pos (by omega)
      obtain ⟨k0, k1, k2, _⟩ := hc j (by omega)
      have hE' := hE.out
      rw [beg_step (by omega)] at hE'
      have hjI : (j : Int) < (l.length : Int) := by omega
      have hj0 : (0 : Int) ≤ (j : Int) := by omega
      have e1 : IntKind.i64.wrap ((j : Int) - 1) = (j : Int) - 1 := IntWalk.i64_in _ (by omega)
      generalize l.getD j zeroS = g at *
      clear hc hE
      by_cases h1 : g.kind = 1
      · rw [if_pos h1] at hE'
        have HE := Lib.hid hE'
        have hb1 : (g.kind == 1) = true := by rw [beq_iff_eq]; exact h1
        have S := Lib.hid (HP.out.set g.tx g.ty)
        have BS := Lib.hid (below_two HB.out (Nat.le_refl _) (.int .i64 g.tx) (.int .i64 g.ty))
        clear hE' h1
        go_wp2_with fail
        rw [HE.out]
        exact pt_close Tryz.results21 S.out BS.out rfl
      · rw [if_neg h1] at hE'
        have HE := Lib.hid hE'
        have hb1 : (g.kind == 1) = false := by rw [beq_eq_false_iff_ne]; exact h1
        clear hE' h1
        go_wp2_with fail
        go_round
        case rel => exact ⟨j, rfl, by omega, HE⟩
        case measure => simp [intOf]
end Go.Proofs.YtgiibcnakiggaaaGreatDoor
