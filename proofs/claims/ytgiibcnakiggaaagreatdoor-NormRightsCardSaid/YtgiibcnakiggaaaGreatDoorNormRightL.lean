/-
  The contract of package norm's Right.
-/
import Derived.Test.YtgiibcnakiggaaaGreatDoorNormRight
import Derived.Test.YtgiibcnakiggaaaGreatDoorJNorm
namespace Go.Proofs.YtgiibcnakiggaaaGreatDoor
open Go.RowKit Go.Shelf

theorem drop_seg {l : List Seg} {i : Nat} (h : i < l.length) : l.drop i = l.getD i zeroS :: l.drop (i + 1) := by
  rw [List.drop_eq_getElem_cons h]; simp [List.getD, List.getElem?_eq_getElem h]
theorem mem_seg {l : List Seg} {i : Nat} (h : i < l.length) : l.getD i zeroS ∈ l := by
  simp [List.getD, List.getElem?_eq_getElem h]
set_option maxHeartbeats 8000000 in
set_option maxRecDepth 100000 in
theorem right_any7 (a : Option Addr) (l : List Seg) (cap : Nat) (w : World) (hl : l.length ≤ 1000) (hA : RdS a l w) (hS : ∀ g ∈ l, SegI g) (r : Bool) (hr : r = true ↔ rightP l 0 0 false) :
    Calls Tryz.prog 10 #[.slice a l.length cap] w fun e w' => e = .returned (.bool r) ∧ Below w.heap.size w w' := by
  have b0 := (Below.refl w.heap.size w).alloc (Nat.le_refl _) (.cells #[.int .i64 0, .int .i64 0] 39)
  have HA := Lib.hid hA
  have HS := Lib.hid hS
  have HR0 := Lib.hid (show r = true ↔ rightP (l.drop 0) 0 0 false from hr)
  have HB0 := Lib.hid b0
  have HP0 := Lib.hid (PtAt.new w 0 0)
  have hs1 : (w.alloc (.cells #[.int .i64 0, .int .i64 0] 39)).heap.size = w.heap.size + 1 := by simp
  clear hA hS hr b0
  go_enter Tryz.func10, Tryz.ntmps10
  go_wp2_with fail
  generalize hW1 : w.alloc (.cells #[.int .i64 0, .int .i64 0] 39) = W1 at *
  clear hW1
  go_loopw [4, 9] (fun u4 u9 wr => ∃ (i : Nat) (op : Bool) (bx by' : Int), u4 = .bool op ∧ u9 = .int .i64 (i : Int) ∧ i ≤ l.length ∧ Hid (PtAt w.heap.size bx by' wr) ∧ Below w.heap.size w wr ∧ Hid (r = true ↔ rightP (l.drop i) bx by' op)) (fun _ u9 _ => l.length - (intOf u9).toNat)
  case atStart => exact ⟨0, false, 0, 0, rfl, rfl, Nat.zero_le _, HP0, HB0.out, HR0⟩
  case round =>
    obtain ⟨i, op, bx, by', rfl, rfl, hi, hpt, hbel, hE⟩ := hrel
    by_cases hlt : i < l.length
    · obtain ⟨b, off, rfl, hb, hc⟩ := (HA.out.next hbel).pos (by omega)
      obtain ⟨x0, x1, x2, x3, x4, x5, x6, x7, x8, x9, x10, x11⟩ := hc i hlt
      have hltI : (i : Int) < (l.length : Int) := by omega
      have e1 : IntKind.i64.wrap ((i : Int) + 1) = ((i + 1 : Nat) : Int) := by rw [IntWalk.i64_in _ (by omega)]; omega
      have hE' := hE.out
      rw [drop_seg hlt] at hE'
      have hI := HS.out _ (mem_seg hlt)
      have HB := Lib.hid hbel
      clear hc hbel hE
      generalize hg : l.getD i zeroS = g at *
      obtain ⟨k, tx, ty, ax, ay, cx, cy, rx, ry, tu, lg, sw⟩ := g
      dsimp only at x0 x1 x2 x3 x4 x5 x6 x7 x8 x9 x10 x11
      have HP1 : Hid (BoxS wr.heap.size ⟨k, tx, ty, ax, ay, cx, cy, rx, ry, tu, lg, sw⟩ (wr.alloc (.cells #[.int .i64 k, .int .i64 tx, .int .i64 ty, .int .i64 ax, .int .i64 ay, .int .i64 cx, .int .i64 cy, .int .i64 rx, .int .i64 ry, .int .i64 tu, .bool lg, .bool sw] 42))) := Lib.hid (World.alloc_heap_new wr _)
      have HB1 := Lib.hid (HB.out.alloc HB.out.size (.cells #[.int .i64 k, .int .i64 tx, .int .i64 ty, .int .i64 ax, .int .i64 ay, .int .i64 cx, .int .i64 cy, .int .i64 rx, .int .i64 ry, .int .i64 tu, .bool lg, .bool sw] 42))
      have HT1 := Lib.hid (hpt.out.next ((Below.refl wr.heap.size wr).alloc (Nat.le_refl _) (.cells #[.int .i64 k, .int .i64 tx, .int .i64 ty, .int .i64 ax, .int .i64 ay, .int .i64 cx, .int .i64 cy, .int .i64 rx, .int .i64 ry, .int .i64 tu, .bool lg, .bool sw] 42)))
      have hWs : wr.heap.size < (wr.alloc (.cells #[.int .i64 k, .int .i64 tx, .int .i64 ty, .int .i64 ax, .int .i64 ay, .int .i64 cx, .int .i64 cy, .int .i64 rx, .int .i64 ry, .int .i64 tu, .bool lg, .bool sw] 42)).heap.size := by simp
      have hps := hpt.out.lt
      obtain ⟨q, hq⟩ : ∃ q : Bool, (q = true ↔ aloneP ⟨k, tx, ty, ax, ay, cx, cy, rx, ry, tu, lg, sw⟩) := ⟨@decide (aloneP ⟨k, tx, ty, ax, ay, cx, cy, rx, ry, tu, lg, sw⟩) (Classical.propDecidable _), by simp⟩
      have AL := Lib.hid (show ∀ w, Calls Tryz.prog 18 #[.agg #[.int .i64 k, .int .i64 tx, .int .i64 ty, .int .i64 ax, .int .i64 ay, .int .i64 cx, .int .i64 cy, .int .i64 rx, .int .i64 ry, .int .i64 tu, .bool lg, .bool sw]] w fun e w' => e = .returned (.bool q) ∧ Below w.heap.size w w' from fun w => alone_any ⟨k, tx, ty, ax, ay, cx, cy, rx, ry, tu, lg, sw⟩ w hI q hq)
      unfold rightP at hE'
      dsimp only at hE'
      rw [← hq] at hE'
      have HE := Lib.hid hE'
      clear hE' hq hI
      go_wp2_with fail
      generalize wr.alloc (.cells #[.int .i64 k, .int .i64 tx, .int .i64 ty, .int .i64 ax, .int .i64 ay, .int .i64 cx, .int .i64 cy, .int .i64 rx, .int .i64 ry, .int .i64 tu, .bool lg, .bool sw] 42) = W2 at *
      refine (AL.out _).mono ?_
      rintro e w3 ⟨rfl, b3⟩
      have HB3 := Lib.hid (HB1.out.trans (b3.mono HB1.out.size))
      have HP3 := Lib.hid (HP1.out.next b3)
      have HT3 := Lib.hid (HT1.out.next b3)
      have s3 := HP3.out.lt
      have pq := SegAt.of_block HP3.out
      have y0 : w3.cell? ⟨wr.heap.size, 0, none⟩ = some (.int .i64 k) := pq.c0
      have y1 : w3.cell? ⟨wr.heap.size, 1, none⟩ = some (.int .i64 tx) := pq.c1
      have y2 : w3.cell? ⟨wr.heap.size, 2, none⟩ = some (.int .i64 ty) := pq.c2
      have t0 := HT3.out.c0
      have t1 := HT3.out.c1
      have z0 := HT3.out.z 0
      have z1 := HT3.out.z 1
      clear pq b3 AL HP1 HT1 HB1 hpt hWs HP0 HB0 HR0
      cases q with
      | false =>
        obtain rfl : r = false := by cases r; rfl; exact absurd (HE.out.1 rfl).1 (by decide)
        go_wp2_with fail
        go_ret
        exact ⟨rfl, HB3.out⟩
      | true =>
        have hE2 := HE.out
        rw [show (true = true) = True from eq_self _, true_and] at hE2
        clear HE
        by_cases h1 : k = 1
        · subst h1
          rw [if_pos rfl] at hE2
          have HE2 := Lib.hid hE2
          have HS4 := Lib.hid (HT3.out.set tx ty)
          have HB4 := Lib.hid (below_two HB3.out (Nat.le_refl _) (.int .i64 tx) (.int .i64 ty))
          clear hE2
          go_wp2_with fail
          go_roundw
          case rel => exact ⟨i + 1, true, tx, ty, rfl, by go_num, by omega, HS4, HB4.out, HE2⟩
          case measure => simp [intOf]; omega
        · rw [if_neg h1] at hE2
          have k1 : (k == 1) = false := by rw [beq_eq_false_iff_ne]; exact h1
          cases op with
          | false =>
            obtain rfl : r = false := by cases r; rfl; exact (hE2.1 rfl).elim
            clear hE2
            go_wp2_with fail
            go_ret
            exact ⟨rfl, HB3.out⟩
          | true =>
            rw [if_neg (by decide)] at hE2
            by_cases h6 : k = 6
            · subst h6
              rw [if_pos rfl] at hE2
              by_cases hx : tx = bx
              · by_cases hy : ty = by'
                · have HE2 := Lib.hid (show r = true ↔ rightP (l.drop (i + 1)) bx by' false from ⟨fun k => (hE2.1 k).2.2, fun k => hE2.2 ⟨hx, hy, k⟩⟩)
                  subst hx hy
                  clear hE2
                  go_wp2_with fail
                  go_roundw
                  case rel => exact ⟨i + 1, false, tx, ty, rfl, by go_num, by omega, HT3, HB3.out, HE2⟩
                  case measure => simp [intOf]; omega
                · obtain rfl : r = false := by cases r; rfl; exact absurd (hE2.1 rfl).2.1 hy
                  clear hE2
                  go_wp2_with fail
                  go_ret
                  exact ⟨rfl, HB3.out⟩
              · obtain rfl : r = false := by cases r; rfl; exact absurd (hE2.1 rfl).1 hx
                clear hE2
                go_wp2_with fail
                go_ret
                exact ⟨rfl, HB3.out⟩
            · rw [if_neg h6] at hE2
              have k6 : (k == 6) = false := by rw [beq_eq_false_iff_ne]; exact h6
              have HE2 := Lib.hid hE2
              clear hE2
              go_wp2_with fail
              go_roundw
              case rel => exact ⟨i + 1, true, bx, by', rfl, by go_num, by omega, HT3, HB3.out, HE2⟩
              case measure => simp [intOf]; omega
    · have hnl : ¬ (i : Int) < (l.length : Int) := by omega
      obtain rfl : i = l.length := by omega
      have hE' := hE.out
      rw [List.drop_length] at hE'
      obtain rfl : r = true := hE'.2 trivial
      go_wp2_with fail
      go_ret
      exact ⟨rfl, hbel⟩
end Go.Proofs.YtgiibcnakiggaaaGreatDoor
