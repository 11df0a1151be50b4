/-
  The document's Same, of two slices that hold the same segments; the law's point.
-/
import Derived.Test.YtgiibcnakiggaaaDoorNormMem
import Derived.Test.YtgiibcnakiggaaaDoorJScan
namespace Go.Proofs.YtgiibcnakiggaaaDoor
open Go.RowKit Go.Shelf

set_option maxRecDepth 100000 in
set_option maxHeartbeats 8000000 in
theorem same7_any (a b : Option Addr) (l : List Seg) (ca cb : Nat) (w : World) (hl : l.length ≤ 1000000000) (hA : RdS a l w) (hB : RdS b l w) :
    Calls Tryd.prog 14 #[.slice a l.length ca, .slice b l.length cb] w fun e w' => e = .returned (.bool true) ∧ Below w.heap.size w w' := by
  have HA := Lib.hid hA
  have HB := Lib.hid hB
  clear hA hB
  have hll : ((l.length : Int) != (l.length : Int)) = false := by simp
  go_enter Tryd.func14, Tryd.ntmps14
  go_wp2_with fail
  go_loopw [5] (fun u5 wr => ∃ i : Nat, u5 = .int .i64 (i : Int) ∧ i ≤ l.length ∧ Below w.heap.size w wr) (fun u5 _ => l.length - (intOf u5).toNat)
  case atStart => exact ⟨0, rfl, Nat.zero_le _, Below.refl _ _⟩
  case round =>
    obtain ⟨i, rfl, hi, hbel⟩ := hrel
    by_cases hlt : i < l.length
    · obtain ⟨b1, o1, rfl, hb1, hc1⟩ := (HA.out.next hbel).pos (by omega)
      obtain ⟨b2, o2, rfl, hb2, hc2⟩ := (HB.out.next hbel).pos (by omega)
      obtain ⟨x0, x1, x2, x3, x4, x5, x6, x7, x8, x9, x10, x11⟩ := hc1 i hlt
      obtain ⟨y0, y1, y2, y3, y4, y5, y6, y7, y8, y9, y10, y11⟩ := hc2 i hlt
      have hltI : (i : Int) < (l.length : Int) := by omega
      have e1 : IntKind.i64.wrap ((i : Int) + 1) = ((i + 1 : Nat) : Int) := by rw [IntWalk.i64_in _ (by omega)]; omega
      have BL := Lib.hid hbel
      generalize l.getD i zeroS = g at *
      clear hc1 hc2 hbel
      go_wp2_with fail
      go_quiet (fail)
      have d := drewq wr nq
      have BL' := Lib.hid (BL.out.trans (d.mono (by have := BL.out.size; omega)))
      generalize wr.drewN nq = w1 at *
      go_wp2_with fail
      go_roundw
      case rel => exact ⟨i + 1, by go_num, by omega, BL'.out⟩
      case measure => simp [intOf]; omega
    · have hnl : ¬ (i : Int) < (l.length : Int) := by omega
      go_wp2_with fail
      go_ret
      exact ⟨rfl, hbel⟩
end Go.Proofs.YtgiibcnakiggaaaDoor
