/-
  The document's Same, of two slices that hold the same commands; its Great.
-/
import Derived.Test.YtgiibcnakiggaaaDoorPathRd
namespace Go.Proofs.YtgiibcnakiggaaaDoor
open Go.RowKit Go.Shelf

theorem IntsK.next {k : IntKind} {a : Option Addr} {zs : List Int} {w w' : World} (h : IntsK k a zs w) (t : Below w.heap.size w w') : IntsK k a zs w' := h.below t (Nat.le_refl _)
set_option maxRecDepth 100000 in
set_option maxHeartbeats 4000000 in
theorem same_any (a b : Option Addr) (l : List Cmd) (ca cb : Nat) (w : World) (hl : l.length ≤ 1000000000) (hA : RdC a l w) (hB : RdC b l w) :
    Calls Tryd.prog 8 #[.slice a l.length ca, .slice b l.length cb] w fun e w' => e = .returned (.bool true) ∧ Below w.heap.size w w' := by
  have HA := Lib.hid hA
  have HB := Lib.hid hB
  clear hA hB
  have hll : ((l.length : Int) != (l.length : Int)) = false := by simp
  go_enter Tryd.func8, Tryd.ntmps8
  go_wp2_with fail
  go_loopw [5] (fun u5 wr => ∃ i : Nat, u5 = .int .i64 (i : Int) ∧ i ≤ l.length ∧ Below w.heap.size w wr) (fun u5 _ => l.length - (intOf u5).toNat)
  case atStart => exact ⟨0, rfl, Nat.zero_le _, Below.refl _ _⟩
  case round =>
    obtain ⟨i, rfl, hi, hbel⟩ := hrel
    by_cases hlt : i < l.length
    · obtain ⟨b1, o1, rfl, hb1, hc1⟩ := (HA.out.next hbel).pos (by omega)
      obtain ⟨b2, o2, rfl, hb2, hc2⟩ := (HB.out.next hbel).pos (by omega)
      obtain ⟨aa1, ac1, A1⟩ := hc1 i hlt
      obtain ⟨aa2, ac2, A2⟩ := hc2 i hlt
      have x0 := A1.c0
      have x1 := A1.c1
      have y0 := A2.c0
      have y1 := A2.c1
      have hltI : (i : Int) < (l.length : Int) := by omega
      have hne : ((ltr l i : Int) != (ltr l i : Int)) = false := by simp
      have hne2 : (((ars l i).length : Int) != ((ars l i).length : Int)) = false := by simp
      have e1 : IntKind.i64.wrap ((i : Int) + 1) = ((i + 1 : Nat) : Int) := by rw [IntWalk.i64_in _ (by omega)]; omega
      have HL := Lib.hid hltI
      have R1 := Lib.hid A1.row
      have R2 := Lib.hid A2.row
      have hal := A1.len
      have hal' : (ars l i).length ≤ 9223372036854775807 := hal
      have BL := Lib.hid hbel
      clear hc1 hc2 hbel hal
      go_wp2_with fail
      go_quiet (fail)
      have d := drewq wr nq
      have x1' := (d.cell (p := ⟨b1, o1 + i * 2 + 1, none⟩) (by exact hb1)).trans x1
      have y1' := (d.cell (p := ⟨b2, o2 + i * 2 + 1, none⟩) (by exact hb2)).trans y1
      have R1' := Lib.hid (R1.out.next d)
      have R2' := Lib.hid (R2.out.next d)
      have BL' := Lib.hid (BL.out.trans (d.mono (by have := BL.out.size; omega)))
      have hb1' : b1 < (wr.drewN nq).heap.size := Nat.lt_of_lt_of_le hb1 d.size
      have hb2' : b2 < (wr.drewN nq).heap.size := Nat.lt_of_lt_of_le hb2 d.size
      clear d x0 x1 y0 y1 R1 R2 BL hb1 hb2 A1 A2
      generalize wr.drewN nq = w1 at *
      go_wp2_with fail
      go_loopw [6] (fun u6 wq => ∃ k : Nat, u6 = .int .i64 (k : Int) ∧ k ≤ (ars l i).length ∧ Below w1.heap.size w1 wq) (fun u6 _ => (ars l i).length - (intOf u6).toNat)
      case atStart => exact ⟨0, rfl, Nat.zero_le _, Below.refl _ _⟩
      case round =>
        obtain ⟨k, rfl, hk, hbq⟩ := hrel
        have v1 := (hbq.cell (p := ⟨b1, o1 + i * 2 + 1, none⟩) (by exact hb1')).trans x1'
        have v2 := (hbq.cell (p := ⟨b2, o2 + i * 2 + 1, none⟩) (by exact hb2')).trans y1'
        by_cases hkl : k < (ars l i).length
        · obtain ⟨d1, p1, hd1, hdl1, hcc1⟩ := (R1'.out.next hbq).pos hkl
          obtain ⟨d2, p2, hd2, hdl2, hcc2⟩ := (R2'.out.next hbq).pos hkl
          subst hd1 hd2
          have t1 := hcc1 k hkl
          have t2 := hcc2 k hkl
          have hkI : (k : Int) < ((ars l i).length : Int) := by omega
          have hne3 : ((ars l i).getD k 0 != (ars l i).getD k 0) = false := by simp
          have e2 : IntKind.i64.wrap ((k : Int) + 1) = ((k + 1 : Nat) : Int) := by rw [IntWalk.i64_in _ (by omega)]; omega
          have HBQ := Lib.hid hbq
          generalize (ars l i).getD k 0 = z at *
          clear hcc1 hcc2 hbq
          go_wp2_with fail
          go_quiet (fail)
          have d := drewq wr nq
          have HBQ2 := Lib.hid (HBQ.out.trans (d.mono HBQ.out.size))
          generalize wr.drewN nq = w2 at *
          go_wp2_with fail
          go_roundw
          case rel => exact ⟨k + 1, by go_num, by omega, HBQ2.out⟩
          case measure => simp [intOf]; omega
        · have hnk : ¬ (k : Int) < ((ars l i).length : Int) := by omega
          have BF := Lib.hid (BL'.out.trans (hbq.mono (by have := BL'.out.size; omega)))
          clear hbq
          go_wp2_with fail
          go_roundw
          case rel => exact ⟨i + 1, by go_num, by omega, BF.out⟩
          case measure => simp [intOf]; omega
    · have hnl : ¬ (i : Int) < (l.length : Int) := by omega
      go_wp2_with fail
      go_ret
      exact ⟨rfl, hbel⟩
end Go.Proofs.YtgiibcnakiggaaaDoor
