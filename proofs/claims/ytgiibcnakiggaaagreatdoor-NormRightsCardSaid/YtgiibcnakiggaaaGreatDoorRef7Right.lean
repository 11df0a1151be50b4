/-
  The document's Right of segments. (Typed by a program.)
-/
import Derived.Test.YtgiibcnakiggaaaGreatDoorRef7Fn
import Derived.Test.YtgiibcnakiggaaaGreatDoorNormRightM
namespace Go.Proofs.YtgiibcnakiggaaaGreatDoor
open Go.RowKit Go.Shelf

theorem rbound_any (n : Int) (w : World) : Calls Tryz.prog 20 #[.int .i64 n] w fun e w' => e = .returned (.bool (decide (In32 n))) ∧ w = w' := by
  by_cases h1 : -4294967296 < n
  · by_cases h2 : n < 4294967296
    · rw [decide_eq_true (show In32 n from ⟨h1, h2⟩)]
      go_enter Tryz.func20, Tryz.ntmps20
      go_wp2_with fail
      go_ret
      exact ⟨rfl, rfl⟩
    · rw [decide_eq_false (show ¬ In32 n from fun h => h2 h.2)]
      go_enter Tryz.func20, Tryz.ntmps20
      go_wp2_with fail
      go_ret
      exact ⟨rfl, rfl⟩
  · rw [decide_eq_false (show ¬ In32 n from fun h => h1 h.1)]
    go_enter Tryz.func20, Tryz.ntmps20
    go_wp2_with fail
    go_ret
    exact ⟨rfl, rfl⟩
theorem shut_take {l : List Seg} {n : Nat} (h : n < l.length) : shutL (l.take (n + 1)) ↔ (l.getD n zeroS).kind = 6 := by
  rw [List.take_succ_eq_append_getElem h, shut_snoc]
  simp [List.getD, List.getElem?_eq_getElem h]
theorem BoxS.cells {n : Nat} {g : Seg} {W : World} (h : BoxS n g W) : SegAt n 0 g W := SegAt.of_block h
set_option maxHeartbeats 16000000 in
set_option maxRecDepth 100000 in
theorem rright7_any (a : Option Addr) (l : List Seg) (cap : Nat) (w : World) (hl : l.length ≤ 1000) (hcap : l.length ≤ cap) (hA : RdS a l w) (r : Bool) (hr : r = true ↔ RightR l) :
    Calls Tryz.prog 11 #[.slice a l.length cap] w fun e w' => e = .returned (.bool r) ∧ Below w.heap.size w w' := by
  have HA := Lib.hid hA
  have HR := Lib.hid hr
  clear hA hr
  go_enter Tryz.func11, Tryz.ntmps11
  go_wp2_with fail
  go_loopw [3] (fun u3 wr => ∃ i : Nat, u3 = .int .i64 (i : Int) ∧ i ≤ l.length ∧ Below w.heap.size w wr ∧ Hid (∀ j, j < i → docP (l.take j) (l.getD j zeroS))) (fun u3 _ => l.length - (intOf u3).toNat)
  case atStart => exact ⟨0, rfl, Nat.zero_le _, Below.refl _ _, Lib.hid (fun j hj => absurd hj (Nat.not_lt_zero _))⟩
  case round =>
    obtain ⟨i, rfl, hi, hbel, hD⟩ := hrel
    by_cases hlt : i < l.length
    · obtain ⟨b, off, rfl, hb, hc⟩ := HA.out.pos (by omega)
      have HSeg := Lib.hid hc
      obtain ⟨x0, x1, x2, x3, x4, x5, x6, x7, x8, x9, x10, x11⟩ := (hc i hlt).below hbel hb
      have hltI : (i : Int) < (l.length : Int) := by omega
      have e1 : IntKind.i64.wrap ((i : Int) + 1) = ((i + 1 : Nat) : Int) := by rw [IntWalk.i64_in _ (by omega)]; omega
      have HF := Lib.hid (show ¬ docP (l.take i) (l.getD i zeroS) → r = false from fun h => by
        cases r
        · rfl
        · exact absurd (HR.out.1 rfl i hlt) h)
      have HN := Lib.hid (show docP (l.take i) (l.getD i zeroS) → ∀ j, j < i + 1 → docP (l.take j) (l.getD j zeroS) from fun h j hj => by
        rcases Nat.lt_succ_iff_lt_or_eq.1 hj with k | rfl
        · exact hD.out j k
        · exact h)
      have HB := Lib.hid hbel
      clear hc hD hbel
      generalize hg : l.getD i zeroS = g at *
      obtain ⟨k, tx, ty, ax, ay, cx, cy, rx, ry, tu, lg, sw⟩ := g
      dsimp only at x0 x1 x2 x3 x4 x5 x6 x7 x8 x9 x10 x11
      have HP0 : Hid (BoxS wr.heap.size ⟨k, tx, ty, ax, ay, cx, cy, rx, ry, tu, lg, sw⟩ (wr.alloc (.cells #[.int .i64 k, .int .i64 tx, .int .i64 ty, .int .i64 ax, .int .i64 ay, .int .i64 cx, .int .i64 cy, .int .i64 rx, .int .i64 ry, .int .i64 tu, .bool lg, .bool sw] 42))) := Lib.hid (World.alloc_heap_new wr _)
      have HB0 := Lib.hid (HB.out.alloc HB.out.size (.cells #[.int .i64 k, .int .i64 tx, .int .i64 ty, .int .i64 ax, .int .i64 ay, .int .i64 cx, .int .i64 cy, .int .i64 rx, .int .i64 ry, .int .i64 tu, .bool lg, .bool sw] 42))
      have hWs : wr.heap.size < (wr.alloc (.cells #[.int .i64 k, .int .i64 tx, .int .i64 ty, .int .i64 ax, .int .i64 ay, .int .i64 cx, .int .i64 cy, .int .i64 rx, .int .i64 ry, .int .i64 tu, .bool lg, .bool sw] 42)).heap.size := by simp
      have IN := Lib.hid (fun x y w => rin_any x y w)
      have BN := Lib.hid (fun n w => rbound_any n w)
      by_cases h1 : k < 1
      · obtain rfl : r = false := HF.out (fun h => h.1.1 h1)
        as_aux_lemma =>
          go_wp2_with fail
          go_ret
          exact ⟨rfl, HB0.out⟩
      by_cases h2 : 6 < k
      · obtain rfl : r = false := HF.out (fun h => h.1.2.1 h2)
        as_aux_lemma =>
          go_wp2_with fail
          go_ret
          exact ⟨rfl, HB0.out⟩
      go_wp2_with fail
      generalize wr.alloc (.cells #[.int .i64 k, .int .i64 tx, .int .i64 ty, .int .i64 ax, .int .i64 ay, .int .i64 cx, .int .i64 cy, .int .i64 rx, .int .i64 ry, .int .i64 tu, .bool lg, .bool sw] 42) = W1 at *
      refine (IN.out _ _ _).mono ?_
      rintro e w2 ⟨rfl, b2⟩
      have HB2 := Lib.hid (HB0.out.trans (b2.mono HB0.out.size))
      have HP2 := Lib.hid (HP0.out.next b2)
      clear x0 x1 x2 x3 x4 x5 x6 x7 x8 x9 x10 x11
      have q := HP2.out.cells
      have y0 : w2.cell? ⟨wr.heap.size, 0, none⟩ = some (.int .i64 k) := q.c0
      have y1 : w2.cell? ⟨wr.heap.size, 1, none⟩ = some (.int .i64 tx) := q.c1
      have y2 : w2.cell? ⟨wr.heap.size, 2, none⟩ = some (.int .i64 ty) := q.c2
      have y3 : w2.cell? ⟨wr.heap.size, 3, none⟩ = some (.int .i64 ax) := q.c3
      have y4 : w2.cell? ⟨wr.heap.size, 4, none⟩ = some (.int .i64 ay) := q.c4
      have y5 : w2.cell? ⟨wr.heap.size, 5, none⟩ = some (.int .i64 cx) := q.c5
      have y6 : w2.cell? ⟨wr.heap.size, 6, none⟩ = some (.int .i64 cy) := q.c6
      have y7 : w2.cell? ⟨wr.heap.size, 7, none⟩ = some (.int .i64 rx) := q.c7
      have y8 : w2.cell? ⟨wr.heap.size, 8, none⟩ = some (.int .i64 ry) := q.c8
      have y9 : w2.cell? ⟨wr.heap.size, 9, none⟩ = some (.int .i64 tu) := q.c9
      have y10 : w2.cell? ⟨wr.heap.size, 10, none⟩ = some (.bool lg) := q.c10
      have y11 : w2.cell? ⟨wr.heap.size, 11, none⟩ = some (.bool sw) := q.c11
      clear q b2
      by_cases h3 : In32 tx ∧ In32 ty
      case neg =>
        rw [decide_eq_false h3]
        obtain rfl : r = false := HF.out (fun h => h3 h.1.2.2.1)
        as_aux_lemma =>
          go_wp2_with fail
          go_ret
          exact ⟨rfl, HB2.out⟩
      rw [decide_eq_true h3]
      go_wp2_with fail
      refine (IN.out _ _ _).mono ?_
      rintro e w3 ⟨rfl, b3⟩
      have HB3 := Lib.hid (HB2.out.trans (b3.mono HB2.out.size))
      have HP3 := Lib.hid (HP2.out.next b3)
      clear y0 y1 y2 y3 y4 y5 y6 y7 y8 y9 y10 y11
      have q := HP3.out.cells
      have y0 : w3.cell? ⟨wr.heap.size, 0, none⟩ = some (.int .i64 k) := q.c0
      have y1 : w3.cell? ⟨wr.heap.size, 1, none⟩ = some (.int .i64 tx) := q.c1
      have y2 : w3.cell? ⟨wr.heap.size, 2, none⟩ = some (.int .i64 ty) := q.c2
      have y3 : w3.cell? ⟨wr.heap.size, 3, none⟩ = some (.int .i64 ax) := q.c3
      have y4 : w3.cell? ⟨wr.heap.size, 4, none⟩ = some (.int .i64 ay) := q.c4
      have y5 : w3.cell? ⟨wr.heap.size, 5, none⟩ = some (.int .i64 cx) := q.c5
      have y6 : w3.cell? ⟨wr.heap.size, 6, none⟩ = some (.int .i64 cy) := q.c6
      have y7 : w3.cell? ⟨wr.heap.size, 7, none⟩ = some (.int .i64 rx) := q.c7
      have y8 : w3.cell? ⟨wr.heap.size, 8, none⟩ = some (.int .i64 ry) := q.c8
      have y9 : w3.cell? ⟨wr.heap.size, 9, none⟩ = some (.int .i64 tu) := q.c9
      have y10 : w3.cell? ⟨wr.heap.size, 10, none⟩ = some (.bool lg) := q.c10
      have y11 : w3.cell? ⟨wr.heap.size, 11, none⟩ = some (.bool sw) := q.c11
      clear q b3
      by_cases h4 : In32 ax ∧ In32 ay
      case neg =>
        rw [decide_eq_false h4]
        obtain rfl : r = false := HF.out (fun h => h4 h.1.2.2.2.1)
        as_aux_lemma =>
          go_wp2_with fail
          go_ret
          exact ⟨rfl, HB3.out⟩
      rw [decide_eq_true h4]
      go_wp2_with fail
      refine (IN.out _ _ _).mono ?_
      rintro e w4 ⟨rfl, b4⟩
      have HB4 := Lib.hid (HB3.out.trans (b4.mono HB3.out.size))
      have HP4 := Lib.hid (HP3.out.next b4)
      clear y0 y1 y2 y3 y4 y5 y6 y7 y8 y9 y10 y11
      have q := HP4.out.cells
      have y0 : w4.cell? ⟨wr.heap.size, 0, none⟩ = some (.int .i64 k) := q.c0
      have y1 : w4.cell? ⟨wr.heap.size, 1, none⟩ = some (.int .i64 tx) := q.c1
      have y2 : w4.cell? ⟨wr.heap.size, 2, none⟩ = some (.int .i64 ty) := q.c2
      have y3 : w4.cell? ⟨wr.heap.size, 3, none⟩ = some (.int .i64 ax) := q.c3
      have y4 : w4.cell? ⟨wr.heap.size, 4, none⟩ = some (.int .i64 ay) := q.c4
      have y5 : w4.cell? ⟨wr.heap.size, 5, none⟩ = some (.int .i64 cx) := q.c5
      have y6 : w4.cell? ⟨wr.heap.size, 6, none⟩ = some (.int .i64 cy) := q.c6
      have y7 : w4.cell? ⟨wr.heap.size, 7, none⟩ = some (.int .i64 rx) := q.c7
      have y8 : w4.cell? ⟨wr.heap.size, 8, none⟩ = some (.int .i64 ry) := q.c8
      have y9 : w4.cell? ⟨wr.heap.size, 9, none⟩ = some (.int .i64 tu) := q.c9
      have y10 : w4.cell? ⟨wr.heap.size, 10, none⟩ = some (.bool lg) := q.c10
      have y11 : w4.cell? ⟨wr.heap.size, 11, none⟩ = some (.bool sw) := q.c11
      clear q b4
      by_cases h5 : In32 cx ∧ In32 cy
      case neg =>
        rw [decide_eq_false h5]
        obtain rfl : r = false := HF.out (fun h => h5 h.1.2.2.2.2.1)
        as_aux_lemma =>
          go_wp2_with fail
          go_ret
          exact ⟨rfl, HB4.out⟩
      rw [decide_eq_true h5]
      go_wp2_with fail
      refine (BN.out _ _).mono ?_
      rintro e w5 ⟨rfl, rfl⟩
      by_cases h6 : In32 rx
      case neg =>
        rw [decide_eq_false h6]
        obtain rfl : r = false := HF.out (fun h => h6 h.1.2.2.2.2.2.1)
        as_aux_lemma =>
          go_wp2_with fail
          go_ret
          exact ⟨rfl, HB4.out⟩
      rw [decide_eq_true h6]
      go_wp2_with fail
      refine (BN.out _ _).mono ?_
      rintro e w5 ⟨rfl, rfl⟩
      by_cases h7 : In32 ry
      case neg =>
        rw [decide_eq_false h7]
        obtain rfl : r = false := HF.out (fun h => h7 h.1.2.2.2.2.2.2.1)
        as_aux_lemma =>
          go_wp2_with fail
          go_ret
          exact ⟨rfl, HB4.out⟩
      rw [decide_eq_true h7]
      go_wp2_with fail
      refine (BN.out _ _).mono ?_
      rintro e w5 ⟨rfl, rfl⟩
      by_cases h8 : In32 tu
      case neg =>
        rw [decide_eq_false h8]
        obtain rfl : r = false := HF.out (fun h => h8 h.1.2.2.2.2.2.2.2.1)
        as_aux_lemma =>
          go_wp2_with fail
          go_ret
          exact ⟨rfl, HB4.out⟩
      rw [decide_eq_true h8]
      by_cases h9 : rx < 0
      · obtain rfl : r = false := HF.out (fun h => h.1.2.2.2.2.2.2.2.2.1 h9)
        as_aux_lemma =>
          go_wp2_with fail
          go_ret
          exact ⟨rfl, HB4.out⟩
      by_cases h10 : ry < 0
      · obtain rfl : r = false := HF.out (fun h => h.1.2.2.2.2.2.2.2.2.2 h10)
        as_aux_lemma =>
          go_wp2_with fail
          go_ret
          exact ⟨rfl, HB4.out⟩
      have DA := Lib.hid (show docA ⟨k, tx, ty, ax, ay, cx, cy, rx, ry, tu, lg, sw⟩ from ⟨by show ¬ k < 1; omega, by show ¬ 6 < k; omega, h3, h4, h5, h6, h7, h8, by show ¬ rx < 0; omega, by show ¬ ry < 0; omega⟩)
      clear h3 h4 h5 h6 h7 h8 IN BN
      by_cases k3 : k = 3
      · subst k3
        by_cases zrx : rx = 0
        case neg =>
          obtain rfl : r = false := HF.out (fun h => absurd (h.2.2.1 (by first | omega | (dsimp only; omega) | (dsimp only; done))).1 zrx)
          as_aux_lemma =>
            go_wp2_with fail
            go_ret
            exact ⟨rfl, HB4.out⟩
        subst zrx
        by_cases zry : ry = 0
        case neg =>
          obtain rfl : r = false := HF.out (fun h => absurd (h.2.2.1 (by first | omega | (dsimp only; omega) | (dsimp only; done))).2.1 zry)
          as_aux_lemma =>
            go_wp2_with fail
            go_ret
            exact ⟨rfl, HB4.out⟩
        subst zry
        by_cases ztu : tu = 0
        case neg =>
          obtain rfl : r = false := HF.out (fun h => absurd (h.2.2.1 (by first | omega | (dsimp only; omega) | (dsimp only; done))).2.2.1 ztu)
          as_aux_lemma =>
            go_wp2_with fail
            go_ret
            exact ⟨rfl, HB4.out⟩
        subst ztu
        cases lg with
        | true =>
          obtain rfl : r = false := HF.out (fun h => Bool.noConfusion (h.2.2.1 (by first | omega | (dsimp only; omega) | (dsimp only; done))).2.2.2.1)
          as_aux_lemma =>
            go_wp2_with fail
            go_ret
            exact ⟨rfl, HB4.out⟩
        | false =>
          cases sw with
          | true =>
            obtain rfl : r = false := HF.out (fun h => Bool.noConfusion (h.2.2.1 (by first | omega | (dsimp only; omega) | (dsimp only; done))).2.2.2.2)
            as_aux_lemma =>
              go_wp2_with fail
              go_ret
              exact ⟨rfl, HB4.out⟩
          | false =>
            by_cases hi0 : i = 0
            · have hI0 : ((i : Int) == 0) = true := by rw [beq_iff_eq]; omega
              obtain rfl : r = false := HF.out (fun h => h.2.2.2.1 (by first | omega | (dsimp only; omega) | (dsimp only; done)) (by rw [hi0, List.take_zero]; exact Or.inl rfl))
              as_aux_lemma =>
                go_wp2_with fail
                go_quiet (fail)
                have d := drewq w4 nq
                have BL' := Lib.hid (HB4.out.trans (d.mono HB4.out.size))
                generalize w4.drewN nq = w6 at *
                go_wp2_with fail
                go_ret
                exact ⟨rfl, BL'.out⟩
            obtain ⟨n, hn⟩ : ∃ n, i = n + 1 := ⟨i - 1, by omega⟩
            have hI0 : ((i : Int) == 0) = false := by rw [beq_eq_false_iff_ne]; omega
            have e2 : IntKind.i64.wrap ((i : Int) - 1) = (n : Int) := by rw [IntWalk.i64_in _ (by omega)]; omega
            have hnI : (n : Int) < (l.length : Int) := by omega
            have hn0 : (0 : Int) ≤ (n : Int) := by omega
            have pk := ((HSeg.out n (by omega)).below HB4.out hb).c0
            have hsh : shutL (l.take i) ↔ (l.getD n zeroS).kind = 6 := by rw [hn]; exact shut_take (by omega)
            clear hn
            generalize (l.getD n zeroS).kind = kp at *
            by_cases hp : kp = 6
            · have hpb : (kp == 6) = true := by rw [beq_iff_eq]; exact hp
              obtain rfl : r = false := HF.out (fun h => h.2.2.2.1 (by first | omega | (dsimp only; omega) | (dsimp only; done)) (hsh.2 hp))
              as_aux_lemma =>
                go_wp2_with fail
                go_quiet (fail)
                have d := drewq w4 nq
                have BL' := Lib.hid (HB4.out.trans (d.mono HB4.out.size))
                generalize w4.drewN nq = w6 at *
                go_wp2_with fail
                go_ret
                exact ⟨rfl, BL'.out⟩
            have hpb : (kp == 6) = false := by rw [beq_eq_false_iff_ne]; exact hp
            have HN2 := Lib.hid (HN.out ⟨DA.out, ⟨fun k => absurd rfl k, fun k => absurd rfl k⟩, (fun _ => ⟨rfl, rfl, rfl, rfl, rfl⟩), ⟨fun _ k => hp (hsh.1 k), fun k => absurd k (by first | omega | (dsimp only; omega) | (dsimp only; done))⟩⟩)
            clear HN HF DA HR
            as_aux_lemma =>
              go_wp2_with fail
              go_quiet (fail)
              have d := drewq w4 nq
              have BL' := Lib.hid (HB4.out.trans (d.mono HB4.out.size))
              generalize w4.drewN nq = w6 at *
              go_wp2_with fail
              go_roundw
              case rel => exact ⟨i + 1, by go_num, by omega, BL'.out, HN2⟩
              case measure => simp [intOf]; omega
      by_cases k4 : k = 4
      · subst k4
        by_cases zcx : cx = 0
        case neg =>
          obtain rfl : r = false := HF.out (fun h => absurd ((h.2.1.1 (by first | omega | (dsimp only; omega) | (dsimp only; done))).1) zcx)
          as_aux_lemma =>
            go_wp2_with fail
            go_ret
            exact ⟨rfl, HB4.out⟩
        subst zcx
        by_cases zcy : cy = 0
        case neg =>
          obtain rfl : r = false := HF.out (fun h => absurd ((h.2.1.1 (by first | omega | (dsimp only; omega) | (dsimp only; done))).2) zcy)
          as_aux_lemma =>
            go_wp2_with fail
            go_ret
            exact ⟨rfl, HB4.out⟩
        subst zcy
        by_cases zrx : rx = 0
        case neg =>
          obtain rfl : r = false := HF.out (fun h => absurd (h.2.2.1 (by first | omega | (dsimp only; omega) | (dsimp only; done))).1 zrx)
          as_aux_lemma =>
            go_wp2_with fail
            go_ret
            exact ⟨rfl, HB4.out⟩
        subst zrx
        by_cases zry : ry = 0
        case neg =>
          obtain rfl : r = false := HF.out (fun h => absurd (h.2.2.1 (by first | omega | (dsimp only; omega) | (dsimp only; done))).2.1 zry)
          as_aux_lemma =>
            go_wp2_with fail
            go_ret
            exact ⟨rfl, HB4.out⟩
        subst zry
        by_cases ztu : tu = 0
        case neg =>
          obtain rfl : r = false := HF.out (fun h => absurd (h.2.2.1 (by first | omega | (dsimp only; omega) | (dsimp only; done))).2.2.1 ztu)
          as_aux_lemma =>
            go_wp2_with fail
            go_ret
            exact ⟨rfl, HB4.out⟩
        subst ztu
        cases lg with
        | true =>
          obtain rfl : r = false := HF.out (fun h => Bool.noConfusion (h.2.2.1 (by first | omega | (dsimp only; omega) | (dsimp only; done))).2.2.2.1)
          as_aux_lemma =>
            go_wp2_with fail
            go_ret
            exact ⟨rfl, HB4.out⟩
        | false =>
          cases sw with
          | true =>
            obtain rfl : r = false := HF.out (fun h => Bool.noConfusion (h.2.2.1 (by first | omega | (dsimp only; omega) | (dsimp only; done))).2.2.2.2)
            as_aux_lemma =>
              go_wp2_with fail
              go_ret
              exact ⟨rfl, HB4.out⟩
          | false =>
            by_cases hi0 : i = 0
            · have hI0 : ((i : Int) == 0) = true := by rw [beq_iff_eq]; omega
              obtain rfl : r = false := HF.out (fun h => h.2.2.2.1 (by first | omega | (dsimp only; omega) | (dsimp only; done)) (by rw [hi0, List.take_zero]; exact Or.inl rfl))
              as_aux_lemma =>
                go_wp2_with fail
                go_quiet (fail)
                have d := drewq w4 nq
                have BL' := Lib.hid (HB4.out.trans (d.mono HB4.out.size))
                generalize w4.drewN nq = w6 at *
                go_wp2_with fail
                go_ret
                exact ⟨rfl, BL'.out⟩
            obtain ⟨n, hn⟩ : ∃ n, i = n + 1 := ⟨i - 1, by omega⟩
            have hI0 : ((i : Int) == 0) = false := by rw [beq_eq_false_iff_ne]; omega
            have e2 : IntKind.i64.wrap ((i : Int) - 1) = (n : Int) := by rw [IntWalk.i64_in _ (by omega)]; omega
            have hnI : (n : Int) < (l.length : Int) := by omega
            have hn0 : (0 : Int) ≤ (n : Int) := by omega
            have pk := ((HSeg.out n (by omega)).below HB4.out hb).c0
            have hsh : shutL (l.take i) ↔ (l.getD n zeroS).kind = 6 := by rw [hn]; exact shut_take (by omega)
            clear hn
            generalize (l.getD n zeroS).kind = kp at *
            by_cases hp : kp = 6
            · have hpb : (kp == 6) = true := by rw [beq_iff_eq]; exact hp
              obtain rfl : r = false := HF.out (fun h => h.2.2.2.1 (by first | omega | (dsimp only; omega) | (dsimp only; done)) (hsh.2 hp))
              as_aux_lemma =>
                go_wp2_with fail
                go_quiet (fail)
                have d := drewq w4 nq
                have BL' := Lib.hid (HB4.out.trans (d.mono HB4.out.size))
                generalize w4.drewN nq = w6 at *
                go_wp2_with fail
                go_ret
                exact ⟨rfl, BL'.out⟩
            have hpb : (kp == 6) = false := by rw [beq_eq_false_iff_ne]; exact hp
            have HN2 := Lib.hid (HN.out ⟨DA.out, ⟨fun _ => ⟨rfl, rfl⟩, fun _ k => absurd rfl k⟩, (fun _ => ⟨rfl, rfl, rfl, rfl, rfl⟩), ⟨fun _ k => hp (hsh.1 k), fun k => absurd k (by first | omega | (dsimp only; omega) | (dsimp only; done))⟩⟩)
            clear HN HF DA HR
            as_aux_lemma =>
              go_wp2_with fail
              go_quiet (fail)
              have d := drewq w4 nq
              have BL' := Lib.hid (HB4.out.trans (d.mono HB4.out.size))
              generalize w4.drewN nq = w6 at *
              go_wp2_with fail
              go_roundw
              case rel => exact ⟨i + 1, by go_num, by omega, BL'.out, HN2⟩
              case measure => simp [intOf]; omega
      have k3b : (k == 3) = false := by rw [beq_eq_false_iff_ne]; exact k3
      have k3n : (k != 3) = true := by rw [bne_iff_ne]; exact k3
      have k4b : (k == 4) = false := by rw [beq_eq_false_iff_ne]; exact k4
      have k4n : (k != 4) = true := by rw [bne_iff_ne]; exact k4
      by_cases zcx : cx = 0
      case neg =>
        obtain rfl : r = false := HF.out (fun h => absurd ((h.2.1.1 k3).1) zcx)
        as_aux_lemma =>
          go_wp2_with fail
          go_ret
          exact ⟨rfl, HB4.out⟩
      subst zcx
      by_cases zcy : cy = 0
      case neg =>
        obtain rfl : r = false := HF.out (fun h => absurd ((h.2.1.1 k3).2) zcy)
        as_aux_lemma =>
          go_wp2_with fail
          go_ret
          exact ⟨rfl, HB4.out⟩
      subst zcy
      by_cases zax : ax = 0
      case neg =>
        obtain rfl : r = false := HF.out (fun h => absurd ((h.2.1.2 k3 k4).1) zax)
        as_aux_lemma =>
          go_wp2_with fail
          go_ret
          exact ⟨rfl, HB4.out⟩
      subst zax
      by_cases zay : ay = 0
      case neg =>
        obtain rfl : r = false := HF.out (fun h => absurd ((h.2.1.2 k3 k4).2) zay)
        as_aux_lemma =>
          go_wp2_with fail
          go_ret
          exact ⟨rfl, HB4.out⟩
      subst zay
      by_cases k5 : k = 5
      · subst k5
        by_cases hi0 : i = 0
        · have hI0 : ((i : Int) == 0) = true := by rw [beq_iff_eq]; omega
          obtain rfl : r = false := HF.out (fun h => h.2.2.2.1 (by first | omega | (dsimp only; omega) | (dsimp only; done)) (by rw [hi0, List.take_zero]; exact Or.inl rfl))
          as_aux_lemma =>
            go_wp2_with fail
            go_quiet (fail)
            have d := drewq w4 nq
            have BL' := Lib.hid (HB4.out.trans (d.mono HB4.out.size))
            generalize w4.drewN nq = w6 at *
            go_wp2_with fail
            go_ret
            exact ⟨rfl, BL'.out⟩
        obtain ⟨n, hn⟩ : ∃ n, i = n + 1 := ⟨i - 1, by omega⟩
        have hI0 : ((i : Int) == 0) = false := by rw [beq_eq_false_iff_ne]; omega
        have e2 : IntKind.i64.wrap ((i : Int) - 1) = (n : Int) := by rw [IntWalk.i64_in _ (by omega)]; omega
        have hnI : (n : Int) < (l.length : Int) := by omega
        have hn0 : (0 : Int) ≤ (n : Int) := by omega
        have pk := ((HSeg.out n (by omega)).below HB4.out hb).c0
        have hsh : shutL (l.take i) ↔ (l.getD n zeroS).kind = 6 := by rw [hn]; exact shut_take (by omega)
        clear hn
        generalize (l.getD n zeroS).kind = kp at *
        by_cases hp : kp = 6
        · have hpb : (kp == 6) = true := by rw [beq_iff_eq]; exact hp
          obtain rfl : r = false := HF.out (fun h => h.2.2.2.1 (by first | omega | (dsimp only; omega) | (dsimp only; done)) (hsh.2 hp))
          as_aux_lemma =>
            go_wp2_with fail
            go_quiet (fail)
            have d := drewq w4 nq
            have BL' := Lib.hid (HB4.out.trans (d.mono HB4.out.size))
            generalize w4.drewN nq = w6 at *
            go_wp2_with fail
            go_ret
            exact ⟨rfl, BL'.out⟩
        have hpb : (kp == 6) = false := by rw [beq_eq_false_iff_ne]; exact hp
        have HN2 := Lib.hid (HN.out ⟨DA.out, ⟨fun _ => ⟨rfl, rfl⟩, fun _ _ => ⟨rfl, rfl⟩⟩, (fun k => absurd rfl k), ⟨fun _ k => hp (hsh.1 k), fun k => absurd k (by first | omega | (dsimp only; omega) | (dsimp only; done))⟩⟩)
        clear HN HF DA HR
        as_aux_lemma =>
          go_wp2_with fail
          go_quiet (fail)
          have d := drewq w4 nq
          have BL' := Lib.hid (HB4.out.trans (d.mono HB4.out.size))
          generalize w4.drewN nq = w6 at *
          go_wp2_with fail
          go_roundw
          case rel => exact ⟨i + 1, by go_num, by omega, BL'.out, HN2⟩
          case measure => simp [intOf]; omega
      have k5b : (k == 5) = false := by rw [beq_eq_false_iff_ne]; exact k5
      have k5n : (k != 5) = true := by rw [bne_iff_ne]; exact k5
      by_cases zrx : rx = 0
      case neg =>
        obtain rfl : r = false := HF.out (fun h => absurd (h.2.2.1 k5).1 zrx)
        as_aux_lemma =>
          go_wp2_with fail
          go_ret
          exact ⟨rfl, HB4.out⟩
      subst zrx
      by_cases zry : ry = 0
      case neg =>
        obtain rfl : r = false := HF.out (fun h => absurd (h.2.2.1 k5).2.1 zry)
        as_aux_lemma =>
          go_wp2_with fail
          go_ret
          exact ⟨rfl, HB4.out⟩
      subst zry
      by_cases ztu : tu = 0
      case neg =>
        obtain rfl : r = false := HF.out (fun h => absurd (h.2.2.1 k5).2.2.1 ztu)
        as_aux_lemma =>
          go_wp2_with fail
          go_ret
          exact ⟨rfl, HB4.out⟩
      subst ztu
      cases lg with
      | true =>
        obtain rfl : r = false := HF.out (fun h => Bool.noConfusion (h.2.2.1 k5).2.2.2.1)
        as_aux_lemma =>
          go_wp2_with fail
          go_ret
          exact ⟨rfl, HB4.out⟩
      | false =>
        cases sw with
        | true =>
          obtain rfl : r = false := HF.out (fun h => Bool.noConfusion (h.2.2.1 k5).2.2.2.2)
          as_aux_lemma =>
            go_wp2_with fail
            go_ret
            exact ⟨rfl, HB4.out⟩
        | false =>
          by_cases k1 : k = 1
          · subst k1
            have HN2 := Lib.hid (HN.out ⟨DA.out, ⟨fun _ => ⟨rfl, rfl⟩, fun _ _ => ⟨rfl, rfl⟩⟩, (fun _ => ⟨rfl, rfl, rfl, rfl, rfl⟩), ⟨fun k => absurd rfl k, fun k => absurd k (by show ¬ (1 : Int) = 6; omega)⟩⟩)
            clear HN HF DA HR
            as_aux_lemma =>
              go_wp2_with fail
              go_quiet (fail)
              have d := drewq w4 nq
              have BL' := Lib.hid (HB4.out.trans (d.mono HB4.out.size))
              generalize w4.drewN nq = w6 at *
              go_wp2_with fail
              go_roundw
              case rel => exact ⟨i + 1, by go_num, by omega, BL'.out, HN2⟩
              case measure => simp [intOf]; omega
          have k1b : (k == 1) = false := by rw [beq_eq_false_iff_ne]; exact k1
          have k1n : (k != 1) = true := by rw [bne_iff_ne]; exact k1
          by_cases k6 : k = 6
          · subst k6
            by_cases hi0 : i = 0
            · have hI0 : ((i : Int) == 0) = true := by rw [beq_iff_eq]; omega
              obtain rfl : r = false := HF.out (fun h => h.2.2.2.1 (by first | omega | (dsimp only; omega) | (dsimp only; done)) (by rw [hi0, List.take_zero]; exact Or.inl rfl))
              as_aux_lemma =>
                go_wp2_with fail
                go_quiet (fail)
                have d := drewq w4 nq
                have BL' := Lib.hid (HB4.out.trans (d.mono HB4.out.size))
                generalize w4.drewN nq = w6 at *
                go_wp2_with fail
                go_ret
                exact ⟨rfl, BL'.out⟩
            obtain ⟨n, hn⟩ : ∃ n, i = n + 1 := ⟨i - 1, by omega⟩
            have hI0 : ((i : Int) == 0) = false := by rw [beq_eq_false_iff_ne]; omega
            have e2 : IntKind.i64.wrap ((i : Int) - 1) = (n : Int) := by rw [IntWalk.i64_in _ (by omega)]; omega
            have hnI : (n : Int) < (l.length : Int) := by omega
            have hn0 : (0 : Int) ≤ (n : Int) := by omega
            have pk := ((HSeg.out n (by omega)).below HB4.out hb).c0
            have hsh : shutL (l.take i) ↔ (l.getD n zeroS).kind = 6 := by rw [hn]; exact shut_take (by omega)
            clear hn
            generalize (l.getD n zeroS).kind = kp at *
            by_cases hp : kp = 6
            · have hpb : (kp == 6) = true := by rw [beq_iff_eq]; exact hp
              obtain rfl : r = false := HF.out (fun h => h.2.2.2.1 (by first | omega | (dsimp only; omega) | (dsimp only; done)) (hsh.2 hp))
              as_aux_lemma =>
                go_wp2_with fail
                go_quiet (fail)
                have d := drewq w4 nq
                have BL' := Lib.hid (HB4.out.trans (d.mono HB4.out.size))
                generalize w4.drewN nq = w6 at *
                go_wp2_with fail
                go_ret
                exact ⟨rfl, BL'.out⟩
            have hpb : (kp == 6) = false := by rw [beq_eq_false_iff_ne]; exact hp
            have hic : (i : Int) ≤ (cap : Int) := by omega
            have hi0' : (0 : Int) ≤ (i : Int) := by omega
            have hlt' : (l.take i).length = i := by rw [List.length_take]; omega
            have BG := Lib.hid (fun W (t : Below w.heap.size w W) => rbegin_any (some ⟨b, off, none⟩) (l.take i) cap W (by omega) ((HA.out.next t).take i))
            rw [hlt'] at BG
            obtain ⟨bx, hbx⟩ : ∃ z, (begL (l.take i)).1 = z := ⟨_, rfl⟩
            obtain ⟨by', hby⟩ : ∃ z, (begL (l.take i)).2 = z := ⟨_, rfl⟩
            rw [hbx, hby] at BG
            unfold ptV at BG
            have HBd := Lib.hid HB4.out.drew
            have HPd : Hid (BoxS wr.heap.size ⟨6, tx, ty, 0, 0, 0, 0, 0, 0, 0, false, false⟩ w4.drew) := Lib.hid HP4.out
            have hbw : b < w4.drew.heap.size := Nat.lt_of_lt_of_le hb HB4.out.size
            by_cases ttx : tx = bx
            case neg =>
              obtain rfl : r = false := HF.out (fun h => ttx ((h.2.2.2.2 rfl).1.trans hbx))
              as_aux_lemma =>
                go_wp2_with fail
                go_region_held3 (fun w' => w'.cell? ⟨wr.heap.size, 0, none⟩ = some (.int .i64 6) ∧ w'.cell? ⟨wr.heap.size, 1, none⟩ = some (.int .i64 tx) ∧ w'.cell? ⟨wr.heap.size, 2, none⟩ = some (.int .i64 ty) ∧ w'.cell? ⟨b, off + n * 12, none⟩ = some (.int .i64 kp)) (first | (simp [go_sem, *]; done) | (exact ⟨by assumption, by assumption, by assumption, by assumption⟩))
                  (first | (go_at_call 21; (with_reducible refine (BG.out _ HBd.out).mono ?_); rintro e w6 ⟨rfl, b6⟩; have HB6 := Lib.hid (HBd.out.trans (b6.mono HBd.out.size)); have q := (HPd.out.next b6).cells; have v0 : w6.cell? ⟨wr.heap.size, 0, none⟩ = some (.int .i64 6) := q.c0; have v1 : w6.cell? ⟨wr.heap.size, 1, none⟩ = some (.int .i64 tx) := q.c1; have v2 : w6.cell? ⟨wr.heap.size, 2, none⟩ = some (.int .i64 ty) := q.c2; have v3 := (b6.cell (p := ⟨b, off + n * 12, none⟩) (by exact hbw)).trans pk; clear q b6))
                all_goals
                  go_wp2_with fail
                  go_ret
                  exact ⟨rfl, by first | exact HB6.out | exact HB6.out.drew⟩
            by_cases tty : ty = by'
            case neg =>
              obtain rfl : r = false := HF.out (fun h => tty ((h.2.2.2.2 rfl).2.trans hby))
              as_aux_lemma =>
                go_wp2_with fail
                go_region_held3 (fun w' => w'.cell? ⟨wr.heap.size, 0, none⟩ = some (.int .i64 6) ∧ w'.cell? ⟨wr.heap.size, 1, none⟩ = some (.int .i64 tx) ∧ w'.cell? ⟨wr.heap.size, 2, none⟩ = some (.int .i64 ty) ∧ w'.cell? ⟨b, off + n * 12, none⟩ = some (.int .i64 kp)) (first | (simp [go_sem, *]; done) | (exact ⟨by assumption, by assumption, by assumption, by assumption⟩))
                  (first | (go_at_call 21; (with_reducible refine (BG.out _ HBd.out).mono ?_); rintro e w6 ⟨rfl, b6⟩; have HB6 := Lib.hid (HBd.out.trans (b6.mono HBd.out.size)); have q := (HPd.out.next b6).cells; have v0 : w6.cell? ⟨wr.heap.size, 0, none⟩ = some (.int .i64 6) := q.c0; have v1 : w6.cell? ⟨wr.heap.size, 1, none⟩ = some (.int .i64 tx) := q.c1; have v2 : w6.cell? ⟨wr.heap.size, 2, none⟩ = some (.int .i64 ty) := q.c2; have v3 := (b6.cell (p := ⟨b, off + n * 12, none⟩) (by exact hbw)).trans pk; clear q b6))
                all_goals
                  go_wp2_with fail
                  go_ret
                  exact ⟨rfl, by first | exact HB6.out | exact HB6.out.drew⟩
            have HN2 := Lib.hid (HN.out ⟨DA.out, ⟨fun _ => ⟨rfl, rfl⟩, fun _ _ => ⟨rfl, rfl⟩⟩, (fun _ => ⟨rfl, rfl, rfl, rfl, rfl⟩), ⟨fun _ k => hp (hsh.1 k), fun _ => ⟨ttx.trans hbx.symm, tty.trans hby.symm⟩⟩⟩)
            clear HN HF DA HR hbx hby
            subst ttx tty
            as_aux_lemma =>
              go_wp2_with fail
              go_region_held3 (fun w' => w'.cell? ⟨wr.heap.size, 0, none⟩ = some (.int .i64 6) ∧ w'.cell? ⟨wr.heap.size, 1, none⟩ = some (.int .i64 tx) ∧ w'.cell? ⟨wr.heap.size, 2, none⟩ = some (.int .i64 ty) ∧ w'.cell? ⟨b, off + n * 12, none⟩ = some (.int .i64 kp)) (first | (simp [go_sem, *]; done) | (exact ⟨by assumption, by assumption, by assumption, by assumption⟩))
                (first | (go_at_call 21; (with_reducible refine (BG.out _ HBd.out).mono ?_); rintro e w6 ⟨rfl, b6⟩; have HB6 := Lib.hid (HBd.out.trans (b6.mono HBd.out.size)); have q := (HPd.out.next b6).cells; have v0 : w6.cell? ⟨wr.heap.size, 0, none⟩ = some (.int .i64 6) := q.c0; have v1 : w6.cell? ⟨wr.heap.size, 1, none⟩ = some (.int .i64 tx) := q.c1; have v2 : w6.cell? ⟨wr.heap.size, 2, none⟩ = some (.int .i64 ty) := q.c2; have v3 := (b6.cell (p := ⟨b, off + n * 12, none⟩) (by exact hbw)).trans pk; clear q b6))
              all_goals
                go_wp2_with fail
                go_roundw
                case rel => exact ⟨i + 1, by go_num, by omega, by first | exact HB6.out | exact HB6.out.drew, HN2⟩
                case measure => simp [intOf]; omega
          obtain rfl : k = 2 := by omega
          by_cases hi0 : i = 0
          · have hI0 : ((i : Int) == 0) = true := by rw [beq_iff_eq]; omega
            obtain rfl : r = false := HF.out (fun h => h.2.2.2.1 (by first | omega | (dsimp only; omega) | (dsimp only; done)) (by rw [hi0, List.take_zero]; exact Or.inl rfl))
            as_aux_lemma =>
              go_wp2_with fail
              go_quiet (fail)
              have d := drewq w4 nq
              have BL' := Lib.hid (HB4.out.trans (d.mono HB4.out.size))
              generalize w4.drewN nq = w6 at *
              go_wp2_with fail
              go_ret
              exact ⟨rfl, BL'.out⟩
          obtain ⟨n, hn⟩ : ∃ n, i = n + 1 := ⟨i - 1, by omega⟩
          have hI0 : ((i : Int) == 0) = false := by rw [beq_eq_false_iff_ne]; omega
          have e2 : IntKind.i64.wrap ((i : Int) - 1) = (n : Int) := by rw [IntWalk.i64_in _ (by omega)]; omega
          have hnI : (n : Int) < (l.length : Int) := by omega
          have hn0 : (0 : Int) ≤ (n : Int) := by omega
          have pk := ((HSeg.out n (by omega)).below HB4.out hb).c0
          have hsh : shutL (l.take i) ↔ (l.getD n zeroS).kind = 6 := by rw [hn]; exact shut_take (by omega)
          clear hn
          generalize (l.getD n zeroS).kind = kp at *
          by_cases hp : kp = 6
          · have hpb : (kp == 6) = true := by rw [beq_iff_eq]; exact hp
            obtain rfl : r = false := HF.out (fun h => h.2.2.2.1 (by first | omega | (dsimp only; omega) | (dsimp only; done)) (hsh.2 hp))
            as_aux_lemma =>
              go_wp2_with fail
              go_quiet (fail)
              have d := drewq w4 nq
              have BL' := Lib.hid (HB4.out.trans (d.mono HB4.out.size))
              generalize w4.drewN nq = w6 at *
              go_wp2_with fail
              go_ret
              exact ⟨rfl, BL'.out⟩
          have hpb : (kp == 6) = false := by rw [beq_eq_false_iff_ne]; exact hp
          have HN2 := Lib.hid (HN.out ⟨DA.out, ⟨fun _ => ⟨rfl, rfl⟩, fun _ _ => ⟨rfl, rfl⟩⟩, (fun _ => ⟨rfl, rfl, rfl, rfl, rfl⟩), ⟨fun _ k => hp (hsh.1 k), fun k => absurd k (by first | omega | (dsimp only; omega) | (dsimp only; done))⟩⟩)
          clear HN HF DA HR
          as_aux_lemma =>
            go_wp2_with fail
            go_quiet (fail)
            have d := drewq w4 nq
            have BL' := Lib.hid (HB4.out.trans (d.mono HB4.out.size))
            generalize w4.drewN nq = w6 at *
            go_wp2_with fail
            go_roundw
            case rel => exact ⟨i + 1, by go_num, by omega, BL'.out, HN2⟩
            case measure => simp [intOf]; omega
    · have hnl : ¬ (i : Int) < (l.length : Int) := by omega
      obtain rfl : i = l.length := by omega
      obtain rfl : r = true := HR.out.2 hD.out
      go_wp2_with fail
      go_ret
      exact ⟨rfl, hbel⟩
end Go.Proofs.YtgiibcnakiggaaaGreatDoor
