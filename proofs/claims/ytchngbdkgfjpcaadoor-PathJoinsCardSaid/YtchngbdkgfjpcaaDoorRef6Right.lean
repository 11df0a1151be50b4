/-
  The document's Right.
-/
import Derived.Test.YtchngbdkgfjpcaaDoorPathRight
namespace Go.Proofs.YtchngbdkgfjpcaaDoor
open Go.RowKit Go.Shelf

set_option maxRecDepth 100000 in
set_option maxHeartbeats 4000000 in
theorem rright_any (c : Nat) (a : Option Addr) (zs : List Int) (cap : Nat) (w : World) (_hc : c < 256) (hz : zs.length ≤ 1000000000) (hI : IntsK .i64 a zs w) :
    Calls Tryd.prog 16 #[.agg #[.int .u8 (c : Int), .slice a zs.length cap]] w fun e w' => e = .returned (.bool (okB ⟨c, zs⟩)) ∧ Below w.heap.size w w' := by
  have L := Lib.hid (fun w => rcount_any c w)
  have RA := Lib.hid (fun w => rarc_any c w)
  have b0 := (Below.refl w.heap.size w).alloc (Nat.le_refl _) (.cells #[.int .u8 (c : Int), .slice a zs.length cap] 36)
  have HI1 := Lib.hid (hI.below b0 (Nat.le_refl _))
  have B0 := Lib.hid b0
  have n0 : (w.alloc (.cells #[.int .u8 (c : Int), .slice a zs.length cap] 36)).heap[w.heap.size]? = some (.cells #[.int .u8 (c : Int), .slice a zs.length cap] 36 (0, 0)) := World.alloc_heap_new w _
  have c0 : (w.alloc (.cells #[.int .u8 (c : Int), .slice a zs.length cap] 36)).cell? ⟨w.heap.size, 0, none⟩ = some (.int .u8 (c : Int)) := by unfold World.cell?; rw [n0]; rfl
  have c1 : (w.alloc (.cells #[.int .u8 (c : Int), .slice a zs.length cap] 36)).cell? ⟨w.heap.size, 1, none⟩ = some (.slice a zs.length cap) := by unfold World.cell?; rw [n0]; rfl
  clear b0 hI n0
  by_cases hk : cntL c ≠ 99 ∧ cntL c = zs.length
  · have hcn : cntI c = (zs.length : Int) := by unfold cntI; rw [if_neg hk.1, hk.2]
    have hne : ((zs.length : Int) != (zs.length : Int)) = false := by simp
    rw [hcn] at L
    have HZ := Lib.hid hz
    have H7 := Lib.hid (show isArc c = true → zs.length = 7 from fun h => by rw [← hk.2]; exact arc_cnt h)
    have HOK := Lib.hid (show okB ⟨c, zs⟩ = true ↔ ArgsOk c 0 (zs.drop 0) from by
      rw [okB_iff, List.drop_zero]
      exact ⟨fun h => h.2.2, fun h => ⟨hk.2, hk.1, h⟩⟩)
    clear hk hcn hz
    go_enter Tryd.func16, Tryd.ntmps16
    go_wp2_with fail
    go_quiet (first | (go_at_call 18; exact Calls.quiet_of_same ((L.out _).mono (fun e w2 h => ⟨h.1, h.2.symm⟩))))
    have d := drewq (w.alloc (.cells #[.int .u8 (c : Int), .slice a zs.length cap] 36)) nq
    have c0' := (d.cell (p := ⟨w.heap.size, 0, none⟩) (by simp)).trans c0
    have c1' := (d.cell (p := ⟨w.heap.size, 1, none⟩) (by simp)).trans c1
    have B1 := Lib.hid (B0.out.trans (d.mono (by simp)))
    have HI2 := Lib.hid (HI1.out.below d (Nat.le_refl _))
    clear c0 c1 d HI1 B0
    generalize (w.alloc (.cells #[.int .u8 (c : Int), .slice a zs.length cap] 36)).drewN nq = w1 at *
    go_wp2_with fail
    go_loop [3] (fun v => ∃ k : Nat, v = .int .i64 (k : Int) ∧ k ≤ zs.length ∧ Hid (okB ⟨c, zs⟩ = true ↔ ArgsOk c k (zs.drop k))) (fun v => zs.length - (intOf v).toNat)
    case atStart => exact ⟨0, rfl, Nat.zero_le _, HOK⟩
    case round =>
      obtain ⟨k, rfl, hk, hr⟩ := hrel
      have hz := HZ.out
      by_cases hlt : k < zs.length
      · obtain ⟨b, off, rfl, hb, hc2⟩ := HI2.out.pos hlt
        have ck := hc2 k hlt
        have hcs := drop_getD hlt
        have HR := Lib.hid hr.out
        rw [hcs] at HR
        have HR' : Hid (okB ⟨c, zs⟩ = true ↔ (ArgOk c k (zs.getD k 0) ∧ ArgsOk c (k + 1) (zs.drop (k + 1)))) := HR
        clear HR
        have HR := HR'
        clear HR'
        generalize zs.getD k 0 = v at *
        clear hr hcs hc2 HOK
        by_cases hv1 : v ≤ -4294967296
        · have NOARG := Lib.hid (show ¬ ArgOk c k v from fun h => by have := h.1; omega)
          have hno : okB ⟨c, zs⟩ = false := by
            cases hh : okB ⟨c, zs⟩ with
            | false => rfl
            | true => exact absurd (HR.out.1 hh).1 NOARG.out
          have HN := Lib.hid hno
          clear HR NOARG hno
          go_wp2_with fail
          go_ret
          exact ⟨by rw [HN.out]; rfl, B1.out⟩
        by_cases hv2 : 4294967296 ≤ v
        · have NOARG := Lib.hid (show ¬ ArgOk c k v from fun h => by have := h.2.1; omega)
          have hno : okB ⟨c, zs⟩ = false := by
            cases hh : okB ⟨c, zs⟩ with
            | false => rfl
            | true => exact absurd (HR.out.1 hh).1 NOARG.out
          have HN := Lib.hid hno
          clear HR NOARG hno
          go_wp2_with fail
          go_ret
          exact ⟨by rw [HN.out]; rfl, B1.out⟩
        cases harc : isArc c with
        | false =>
          have ARG := Lib.hid (show ArgOk c k v from ⟨by omega, by omega, fun h => by rw [harc] at h; cases h⟩)
          rw [harc] at RA
          clear harc
          have HA := Lib.hid (show okB ⟨c, zs⟩ = true ↔ ArgsOk c (k + 1) (zs.drop (k + 1)) from ⟨fun h => (HR.out.1 h).2, fun h => HR.out.2 ⟨ARG.out, h⟩⟩)
          clear HR ARG
          go_wp2_with fail
          refine (RA.out _).mono ?_
          rintro e wA ⟨rfl, rfl⟩
          go_wp2_with fail
          go_round
          case rel => exact ⟨k + 1, by go_num, by omega, HA⟩
          case measure => simp [intOf]; omega
        | true =>
          rw [harc] at RA
          by_cases k2 : k < 2
          · have i2 : (k : Int) < 2 := by omega
            have e3 : ((k : Int) == 3) = false := by rw [beq_eq_false_iff_ne]; omega
            have e4 : ((k : Int) == 4) = false := by rw [beq_eq_false_iff_ne]; omega
            by_cases v0 : v < 0
            · have NOARG := Lib.hid (show ¬ ArgOk c k v from fun h => by have := (h.2.2 harc).1 k2; omega)
              clear harc
              have hno : okB ⟨c, zs⟩ = false := by
                cases hh : okB ⟨c, zs⟩ with
                | false => rfl
                | true => exact absurd (HR.out.1 hh).1 NOARG.out
              have HN := Lib.hid hno
              clear HR NOARG hno
              go_wp2_with fail
              refine (RA.out _).mono ?_
              rintro e wA ⟨rfl, rfl⟩
              go_wp2_with fail
              go_ret
              exact ⟨by rw [HN.out]; rfl, B1.out⟩
            · have ARG := Lib.hid (show ArgOk c k v from ⟨by omega, by omega, fun _ => ⟨fun _ => by omega, fun h => by omega⟩⟩)
              clear harc
              have HA := Lib.hid (show okB ⟨c, zs⟩ = true ↔ ArgsOk c (k + 1) (zs.drop (k + 1)) from ⟨fun h => (HR.out.1 h).2, fun h => HR.out.2 ⟨ARG.out, h⟩⟩)
              clear HR ARG
              go_wp2_with fail
              refine (RA.out _).mono ?_
              rintro e wA ⟨rfl, rfl⟩
              go_wp2_with fail
              go_round
              case rel => exact ⟨k + 1, by go_num, by omega, HA⟩
              case measure => simp [intOf]; omega
          · have i2 : ¬ (k : Int) < 2 := by omega
            by_cases k3 : k = 3
            · subst k3
              by_cases v0 : v = 0
              · have ARG := Lib.hid (show ArgOk c 3 v from ⟨by omega, by omega, fun _ => ⟨fun h => by omega, fun _ => Or.inl v0⟩⟩)
                clear harc
                subst v0
                have HA := Lib.hid (show okB ⟨c, zs⟩ = true ↔ ArgsOk c (3 + 1) (zs.drop (3 + 1)) from ⟨fun h => (HR.out.1 h).2, fun h => HR.out.2 ⟨ARG.out, h⟩⟩)
                clear HR ARG
                go_wp2_with fail
                refine (RA.out _).mono ?_
                rintro e wA ⟨rfl, rfl⟩
                go_wp2_with fail
                go_round
                case rel => exact ⟨3 + 1, by go_num, by omega, HA⟩
                case measure => simp [intOf]; omega
              · have f0 : (v == 0) = false := by rw [beq_eq_false_iff_ne]; exact v0
                have g0 : (v != 0) = true := by rw [bne, f0]; rfl
                by_cases v1 : v = 1
                · have ARG := Lib.hid (show ArgOk c 3 v from ⟨by omega, by omega, fun _ => ⟨fun h => by omega, fun _ => Or.inr v1⟩⟩)
                  clear harc
                  subst v1
                  have HA := Lib.hid (show okB ⟨c, zs⟩ = true ↔ ArgsOk c (3 + 1) (zs.drop (3 + 1)) from ⟨fun h => (HR.out.1 h).2, fun h => HR.out.2 ⟨ARG.out, h⟩⟩)
                  clear HR ARG
                  go_wp2_with fail
                  refine (RA.out _).mono ?_
                  rintro e wA ⟨rfl, rfl⟩
                  go_wp2_with fail
                  go_round
                  case rel => exact ⟨3 + 1, by go_num, by omega, HA⟩
                  case measure => simp [intOf]; omega
                · have f1 : (v == 1) = false := by rw [beq_eq_false_iff_ne]; exact v1
                  have g1 : (v != 1) = true := by rw [bne, f1]; rfl
                  have NOARG := Lib.hid (show ¬ ArgOk c 3 v from fun h => by have := (h.2.2 harc).2 (Or.inl rfl); omega)
                  clear harc
                  have hno : okB ⟨c, zs⟩ = false := by
                    cases hh : okB ⟨c, zs⟩ with
                    | false => rfl
                    | true => exact absurd (HR.out.1 hh).1 NOARG.out
                  have HN := Lib.hid hno
                  clear HR NOARG hno
                  go_wp2_with fail
                  refine (RA.out _).mono ?_
                  rintro e wA ⟨rfl, rfl⟩
                  go_wp2_with fail
                  go_ret
                  exact ⟨by rw [HN.out]; rfl, B1.out⟩
            · have e3 : ((k : Int) == 3) = false := by rw [beq_eq_false_iff_ne]; omega
              by_cases k4 : k = 4
              · subst k4
                by_cases v0 : v = 0
                · have ARG := Lib.hid (show ArgOk c 4 v from ⟨by omega, by omega, fun _ => ⟨fun h => by omega, fun _ => Or.inl v0⟩⟩)
                  clear harc
                  subst v0
                  have HA := Lib.hid (show okB ⟨c, zs⟩ = true ↔ ArgsOk c (4 + 1) (zs.drop (4 + 1)) from ⟨fun h => (HR.out.1 h).2, fun h => HR.out.2 ⟨ARG.out, h⟩⟩)
                  clear HR ARG
                  go_wp2_with fail
                  refine (RA.out _).mono ?_
                  rintro e wA ⟨rfl, rfl⟩
                  go_wp2_with fail
                  go_round
                  case rel => exact ⟨4 + 1, by go_num, by omega, HA⟩
                  case measure => simp [intOf]; omega
                · have f0 : (v == 0) = false := by rw [beq_eq_false_iff_ne]; exact v0
                  have g0 : (v != 0) = true := by rw [bne, f0]; rfl
                  by_cases v1 : v = 1
                  · have ARG := Lib.hid (show ArgOk c 4 v from ⟨by omega, by omega, fun _ => ⟨fun h => by omega, fun _ => Or.inr v1⟩⟩)
                    clear harc
                    subst v1
                    have HA := Lib.hid (show okB ⟨c, zs⟩ = true ↔ ArgsOk c (4 + 1) (zs.drop (4 + 1)) from ⟨fun h => (HR.out.1 h).2, fun h => HR.out.2 ⟨ARG.out, h⟩⟩)
                    clear HR ARG
                    go_wp2_with fail
                    refine (RA.out _).mono ?_
                    rintro e wA ⟨rfl, rfl⟩
                    go_wp2_with fail
                    go_round
                    case rel => exact ⟨4 + 1, by go_num, by omega, HA⟩
                    case measure => simp [intOf]; omega
                  · have f1 : (v == 1) = false := by rw [beq_eq_false_iff_ne]; exact v1
                    have g1 : (v != 1) = true := by rw [bne, f1]; rfl
                    have NOARG := Lib.hid (show ¬ ArgOk c 4 v from fun h => by have := (h.2.2 harc).2 (Or.inr rfl); omega)
                    clear harc
                    have hno : okB ⟨c, zs⟩ = false := by
                      cases hh : okB ⟨c, zs⟩ with
                      | false => rfl
                      | true => exact absurd (HR.out.1 hh).1 NOARG.out
                    have HN := Lib.hid hno
                    clear HR NOARG hno
                    go_wp2_with fail
                    refine (RA.out _).mono ?_
                    rintro e wA ⟨rfl, rfl⟩
                    go_wp2_with fail
                    go_ret
                    exact ⟨by rw [HN.out]; rfl, B1.out⟩
              · have e4 : ((k : Int) == 4) = false := by rw [beq_eq_false_iff_ne]; omega
                have ARG := Lib.hid (show ArgOk c k v from ⟨by omega, by omega, fun _ => ⟨fun h => by omega, fun h => by omega⟩⟩)
                clear harc
                have HA := Lib.hid (show okB ⟨c, zs⟩ = true ↔ ArgsOk c (k + 1) (zs.drop (k + 1)) from ⟨fun h => (HR.out.1 h).2, fun h => HR.out.2 ⟨ARG.out, h⟩⟩)
                clear HR ARG
                go_wp2_with fail
                refine (RA.out _).mono ?_
                rintro e wA ⟨rfl, rfl⟩
                go_wp2_with fail
                go_round
                case rel => exact ⟨k + 1, by go_num, by omega, HA⟩
                case measure => simp [intOf]; omega
      · have hyes : okB ⟨c, zs⟩ = true := hr.out.2 (by rw [List.drop_of_length_le (by omega)]; trivial)
        have hnl : ¬ (k : Int) < (zs.length : Int) := by omega
        have HY := Lib.hid hyes
        clear hr hyes
        go_wp2_with fail
        go_ret
        exact ⟨by rw [HY.out]; rfl, B1.out⟩
  · have hno : okB ⟨c, zs⟩ = false := okB_false fun h => hk ⟨h.2.1, h.1⟩
    have HN := Lib.hid hno
    have hne : (cntI c != (zs.length : Int)) = true := by
      rw [bne, Bool.not_eq_true', beq_eq_false_iff_ne]
      unfold cntI
      split
      · omega
      · rename_i h9; intro e; exact hk ⟨h9, by omega⟩
    clear hk hno
    generalize cntI c = z at *
    go_enter Tryd.func16, Tryd.ntmps16
    go_wp2_with fail
    go_quiet (first | (go_at_call 18; exact Calls.quiet_of_same ((L.out _).mono (fun e w2 h => ⟨h.1, h.2.symm⟩))))
    have d := drewq (w.alloc (.cells #[.int .u8 (c : Int), .slice a zs.length cap] 36)) nq
    have c0' := (d.cell (p := ⟨w.heap.size, 0, none⟩) (by simp)).trans c0
    have c1' := (d.cell (p := ⟨w.heap.size, 1, none⟩) (by simp)).trans c1
    have B1 := Lib.hid (B0.out.trans (d.mono (by simp)))
    have HI2 := Lib.hid (HI1.out.below d (Nat.le_refl _))
    clear c0 c1 d HI1 B0
    generalize (w.alloc (.cells #[.int .u8 (c : Int), .slice a zs.length cap] 36)).drewN nq = w1 at *
    go_wp2_with fail
    go_ret
    exact ⟨by rw [HN.out]; rfl, B1.out⟩
end Go.Proofs.YtchngbdkgfjpcaaDoor
