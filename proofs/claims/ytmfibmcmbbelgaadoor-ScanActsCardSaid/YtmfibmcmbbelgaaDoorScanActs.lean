/-
  PROVED: the statement of ScanActs, for every input: whatever is read, one piece behind the other, of any text, what is told, and where the reader is then, is the document's. No conditions but what the row lists: package variables as the program's text lays them.
-/
import Derived.Test.YtmfibmcmbbelgaaDoorScanWakes
import Derived.Test.YtmfibmcmbbelgaaDoorScanLaid
import Derived.Test.YtmfibmcmbbelgaaDoorRowK
import Derived.Test.YtmfibmcmbbelgaaDoorRef5
namespace Go.Proofs.YtmfibmcmbbelgaaDoor.scanActs
open Go.ChangeShapes Go.WideShapes Go.ChangeAt Go.RowKit Go.Shelf

theorem got_turned {q b : Nat} {x : Int × Int × Nat} {w w' : World} (h : GotAt q x w) (t : Turned b w w') (hn : q ≠ b) : GotAt q x w' := by
  have := h.lt
  unfold GotAt at *
  rw [t.block q this hn]; exact h
def Inv (s : ByteArray) (n g : Nat) (w : World) (v6 v : Value) (wr : World) : Prop :=
  ∃ i k : Nat, i ≤ n ∧ k ≤ s.size ∧ v6 = .int .i64 (k : Int) ∧ v = .int .i64 (i : Int) ∧ Rdr g s k wr ∧ Below w.heap.size w wr

set_option maxHeartbeats 8000000 in
set_option maxRecDepth 100000 in
theorem walk (s : ByteArray) (hs : s.size ≤ maxLen) (a : Option Addr) (zs : List Int) (cap : Nat) (hl : zs.length ≤ maxLen) (hz : ∀ z ∈ zs, (Lit.int .u8 z).wf = true) (w : World) (hI : IntsK .u8 a zs w) (T : STabs w) :
    Calls Tryd.prog 3 #[.string s, .slice a zs.length cap] w fun e w' => e = .returned (.bool true) ∧ Below w.heap.size w w' := by
  have K := Lib.hid (wakes5 w T)
  have HT := Lib.hid T
  have HI := Lib.hid hI
  have HZ := Lib.hid hz
  have hm : s.size ≤ maxLen := hs
  have hs' : s.size ≤ 9223372036854775807 := hs
  have hl' : zs.length ≤ 9223372036854775807 := hl
  clear T hs hl hI hz
  by_cases h80 : s.size ≤ 80
  · by_cases h100 : zs.length ≤ 100
    · have q1 : ¬ (80 : Int) < (s.size : Int) := by omega
      have q2 : ¬ (100 : Int) < (zs.length : Int) := by omega
      have NW := Lib.hid (New_any s)
      go_enter Tryd.func3, Tryd.ntmps3
      go_wp2_with fail
      refine K.out.mono ?_
      rintro e w1 ⟨rfl, b1⟩
      have B1 := Lib.hid b1
      clear K b1
      go_wp2_with fail
      refine (NW.out _).mono ?_
      rintro e w2 ⟨rfl, R2, b2⟩
      have hg : w.heap.size ≤ w1.heap.size := B1.out.size
      have B2 := Lib.hid (B1.out.trans (b2.mono hg))
      have HR2 := Lib.hid R2
      have hgN : gN ≤ w.heap.size := HT.out.tabs.size
      clear B1 b2 R2 NW
      generalize w1.heap.size = g at *
      have hgg : gN ≤ g := by omega
      go_wp2_with fail
      go_loopw [6, 35] (fun v6 v wr => Inv s zs.length g w v6 v wr) (fun _ v _ => zs.length - (intOf v).toNat)
      case atStart => exact ⟨0, 0, Nat.zero_le _, Nat.zero_le _, rfl, rfl, HR2.out, B2.out⟩
      case round =>
        clear HR2 B2
        obtain ⟨i, k, hi, hk, rfl, rfl, hR, hB⟩ := hrel
        have R := Lib.hid hR
        have B := Lib.hid hB
        clear hR hB
        by_cases hlt : i < zs.length
        · have TT := Lib.hid (HT.out.next B.out)
          obtain ⟨bb, off, rfl, hbl, hc⟩ := (HI.out.below B.out (Nat.le_refl _)).pos hlt
          have hcell := hc i hlt
          obtain ⟨c, hc1, hc2⟩ := u8_of_wf (HZ.out _ (getD_mem hlt))
          rw [hc1] at hcell
          clear hc hc1
          have er : (c : Int).tmod 7 = ((c % 7 : Nat) : Int) := rfl
          have hr7 : c % 7 = 0 ∨ c % 7 = 1 ∨ c % 7 = 2 ∨ c % 7 = 3 ∨ c % 7 = 4 ∨ c % 7 = 5 ∨ c % 7 = 6 := by omega
          rcases hr7 with hr | hr | hr | hr | hr | hr | hr
          all_goals rw [hr] at er
          · skip
            have RB := Lib.hid (fun w => rblanks_any s k w hm hk)
            have CB := Lib.hid (Blanks_any g s k wr R.out hm hk TT.out.blks hgg)
            have hle := blk_drop_le s k hk
            generalize blk (s.data.toList.drop k) = bl at *
            obtain ⟨kp, hkp⟩ : ∃ kp : Nat, kp = k + bl := ⟨_, rfl⟩
            rw [← hkp] at RB CB hle
            have hkP : kp ≤ s.size := hle
            have e7 : IntKind.i64.wrap ((kp : Int) - (k : Int)) = (bl : Int) := by rw [IntWalk.i64_in _ (by omega)]; omega
            clear hkp hle
            go_wp2_with fail
            refine (RB.out _).mono ?_
            rintro e w3 ⟨rfl, rfl⟩
            go_wp2_with fail
            refine CB.out.mono ?_
            rintro e w3 ⟨rfl, b3, R3⟩
            have R' := Lib.hid R3
            have B' := Lib.hid (B.out.trans (b3.below hg B.out.size))
            clear b3 R3 B R
            obtain ⟨L, hL⟩ : ∃ L : Nat, L = s.size - kp := ⟨_, rfl⟩
            have AT := Lib.hid (fun w H => At_any g s kp w H)
            have LF := Lib.hid (fun w H => Left_any g s kp w H hm hkP)
            rw [← hL] at LF
            have e5 : IntKind.i64.wrap ((s.size : Int) - (kp : Int)) = (L : Int) := by rw [IntWalk.i64_in _ (by omega)]; omega
            clear hL
            go_wp2_with fail
            refine (AT.out _ R'.out).mono ?_
            rintro e w5 ⟨rfl, rfl⟩
            go_wp2_with fail
            refine (LF.out _ R'.out).mono ?_
            rintro e w6 ⟨rfl, b6, R6⟩
            have B6 := Lib.hid (B'.out.trans (b6.mono B'.out.size))
            have H6 := Lib.hid R6
            clear b6 R6 B' R'
            go_wp2_with fail
            go_roundw
            case rel => exact ⟨i + 1, kp, by omega, hkP, rfl, by go_num, H6.out, B6.out⟩
            case measure => simp [intOf]; omega
          · skip
            have RB := Lib.hid (fun w => rgap_any s k w hm hk)
            have CB := Lib.hid (Gap_any g s k wr R.out hm hk TT.out.blks hgg)
            have hle := gap_drop_le s 0 k hk
            generalize gap 0 (s.data.toList.drop k) = bl at *
            obtain ⟨kp, hkp⟩ : ∃ kp : Nat, kp = k + bl := ⟨_, rfl⟩
            rw [← hkp] at RB CB hle
            have hkP : kp ≤ s.size := hle
            by_cases h0 : 0 < bl
            · rw [decide_eq_true h0] at CB
              have hk2 : k < kp := by omega
              clear hkp hle h0
              go_wp2_with fail
              refine (RB.out _).mono ?_
              rintro e w3 ⟨rfl, rfl⟩
              go_wp2_with fail
              refine CB.out.mono ?_
              rintro e w3 ⟨rfl, b3, R3⟩
              have R' := Lib.hid R3
              have B' := Lib.hid (B.out.trans (b3.below hg B.out.size))
              clear b3 R3 B R
              obtain ⟨L, hL⟩ : ∃ L : Nat, L = s.size - kp := ⟨_, rfl⟩
              have AT := Lib.hid (fun w H => At_any g s kp w H)
              have LF := Lib.hid (fun w H => Left_any g s kp w H hm hkP)
              rw [← hL] at LF
              have e5 : IntKind.i64.wrap ((s.size : Int) - (kp : Int)) = (L : Int) := by rw [IntWalk.i64_in _ (by omega)]; omega
              clear hL
              go_wp2_with fail
              refine (AT.out _ R'.out).mono ?_
              rintro e w5 ⟨rfl, rfl⟩
              go_wp2_with fail
              refine (LF.out _ R'.out).mono ?_
              rintro e w6 ⟨rfl, b6, R6⟩
              have B6 := Lib.hid (B'.out.trans (b6.mono B'.out.size))
              have H6 := Lib.hid R6
              clear b6 R6 B' R'
              go_wp2_with fail
              go_roundw
              case rel => exact ⟨i + 1, kp, by omega, hkP, rfl, by go_num, H6.out, B6.out⟩
              case measure => simp [intOf]; omega
            · rw [decide_eq_false h0] at CB
              obtain rfl : kp = k := by omega
              clear hkp hle h0
              go_wp2_with fail
              refine (RB.out _).mono ?_
              rintro e w3 ⟨rfl, rfl⟩
              go_wp2_with fail
              refine CB.out.mono ?_
              rintro e w3 ⟨rfl, b3, R3⟩
              have R' := Lib.hid R3
              have B' := Lib.hid (B.out.trans (b3.below hg B.out.size))
              clear b3 R3 B R
              obtain ⟨L, hL⟩ : ∃ L : Nat, L = s.size - kp := ⟨_, rfl⟩
              have AT := Lib.hid (fun w H => At_any g s kp w H)
              have LF := Lib.hid (fun w H => Left_any g s kp w H hm hkP)
              rw [← hL] at LF
              have e5 : IntKind.i64.wrap ((s.size : Int) - (kp : Int)) = (L : Int) := by rw [IntWalk.i64_in _ (by omega)]; omega
              clear hL
              go_wp2_with fail
              refine (AT.out _ R'.out).mono ?_
              rintro e w5 ⟨rfl, rfl⟩
              go_wp2_with fail
              refine (LF.out _ R'.out).mono ?_
              rintro e w6 ⟨rfl, b6, R6⟩
              have B6 := Lib.hid (B'.out.trans (b6.mono B'.out.size))
              have H6 := Lib.hid R6
              clear b6 R6 B' R'
              go_wp2_with fail
              go_roundw
              case rel => exact ⟨i + 1, kp, by omega, hkP, rfl, by go_num, H6.out, B6.out⟩
              case measure => simp [intOf]; omega
          · skip
            obtain ⟨x, hok, hcode, href⟩ := number_both s k false h80 hk
            have RN := Lib.hid href
            have CN := Lib.hid (fun w H T => hcode g w H T)
            clear hcode href
            unfold NumPost at CN
            obtain ⟨v, er1, kp⟩ := x
            have hkP : kp ≤ s.size := hok.hi
            clear hok
            go_wp2_with fail
            refine (RN.out _).mono ?_
            rintro e w2 ⟨rfl, b2⟩
            have B2 := Lib.hid (B.out.trans (b2.mono B.out.size))
            have R2 := Lib.hid (R.out.next b2)
            have b9 := (Below.refl w2.heap.size w2).alloc (Nat.le_refl _) (.cells #[.int .i64 v, .int .i64 er1, .int .i64 (kp : Int)] 29)
            have G0 := Lib.hid (GotAt.new w2 (v, er1, kp))
            have R9 := Lib.hid (R2.out.next b9)
            have B9 := Lib.hid (B2.out.trans (b9.mono B2.out.size))
            have T9 := Lib.hid (HT.out.next B9.out)
            have hgl := R2.out.lt
            clear b2 B R B2 R2 b9
            unfold Got
            go_wp2_with fail
            refine (CN.out _ R9.out T9.out).mono ?_
            rintro e w3 ⟨rfl, b3, R3⟩
            have G1 := Lib.hid (got_turned G0.out b3 (by omega))
            have x0 := G1.out.c0
            have x1 := G1.out.c1
            have x2 := G1.out.c2
            have R' := Lib.hid R3
            have B' := Lib.hid (B9.out.trans (b3.below hg B9.out.size))
            clear b3 R3 R9 B9 T9 G0 G1
            obtain ⟨L, hL⟩ : ∃ L : Nat, L = s.size - kp := ⟨_, rfl⟩
            have AT := Lib.hid (fun w H => At_any g s kp w H)
            have LF := Lib.hid (fun w H => Left_any g s kp w H hm hkP)
            rw [← hL] at LF
            have e5 : IntKind.i64.wrap ((s.size : Int) - (kp : Int)) = (L : Int) := by rw [IntWalk.i64_in _ (by omega)]; omega
            clear hL
            go_wp2_with fail
            refine (AT.out _ R'.out).mono ?_
            rintro e w5 ⟨rfl, rfl⟩
            go_wp2_with fail
            refine (LF.out _ R'.out).mono ?_
            rintro e w6 ⟨rfl, b6, R6⟩
            have B6 := Lib.hid (B'.out.trans (b6.mono B'.out.size))
            have H6 := Lib.hid R6
            clear b6 R6 B' R'
            go_wp2_with fail
            go_roundw
            case rel => exact ⟨i + 1, kp, by omega, hkP, rfl, by go_num, H6.out, B6.out⟩
            case measure => simp [intOf]; omega
          · skip
            obtain ⟨x, hok, hcode, href⟩ := number_both s k true h80 hk
            have RN := Lib.hid href
            have CN := Lib.hid (fun w H T => hcode g w H T)
            clear hcode href
            unfold NumPost at CN
            obtain ⟨v, er1, kp⟩ := x
            have hkP : kp ≤ s.size := hok.hi
            clear hok
            go_wp2_with fail
            refine (RN.out _).mono ?_
            rintro e w2 ⟨rfl, b2⟩
            have B2 := Lib.hid (B.out.trans (b2.mono B.out.size))
            have R2 := Lib.hid (R.out.next b2)
            have b9 := (Below.refl w2.heap.size w2).alloc (Nat.le_refl _) (.cells #[.int .i64 v, .int .i64 er1, .int .i64 (kp : Int)] 29)
            have G0 := Lib.hid (GotAt.new w2 (v, er1, kp))
            have R9 := Lib.hid (R2.out.next b9)
            have B9 := Lib.hid (B2.out.trans (b9.mono B2.out.size))
            have T9 := Lib.hid (HT.out.next B9.out)
            have hgl := R2.out.lt
            clear b2 B R B2 R2 b9
            unfold Got
            go_wp2_with fail
            refine (CN.out _ R9.out T9.out).mono ?_
            rintro e w3 ⟨rfl, b3, R3⟩
            have G1 := Lib.hid (got_turned G0.out b3 (by omega))
            have x0 := G1.out.c0
            have x1 := G1.out.c1
            have x2 := G1.out.c2
            have R' := Lib.hid R3
            have B' := Lib.hid (B9.out.trans (b3.below hg B9.out.size))
            clear b3 R3 R9 B9 T9 G0 G1
            obtain ⟨L, hL⟩ : ∃ L : Nat, L = s.size - kp := ⟨_, rfl⟩
            have AT := Lib.hid (fun w H => At_any g s kp w H)
            have LF := Lib.hid (fun w H => Left_any g s kp w H hm hkP)
            rw [← hL] at LF
            have e5 : IntKind.i64.wrap ((s.size : Int) - (kp : Int)) = (L : Int) := by rw [IntWalk.i64_in _ (by omega)]; omega
            clear hL
            go_wp2_with fail
            refine (AT.out _ R'.out).mono ?_
            rintro e w5 ⟨rfl, rfl⟩
            go_wp2_with fail
            refine (LF.out _ R'.out).mono ?_
            rintro e w6 ⟨rfl, b6, R6⟩
            have B6 := Lib.hid (B'.out.trans (b6.mono B'.out.size))
            have H6 := Lib.hid R6
            clear b6 R6 B' R'
            go_wp2_with fail
            go_roundw
            case rel => exact ⟨i + 1, kp, by omega, hkP, rfl, by go_num, H6.out, B6.out⟩
            case measure => simp [intOf]; omega
          · skip
            have RN := Lib.hid (fun w => rflag_any s k w hm hk)
            have CN := Lib.hid (fun w (H : Rdr g s k w) (_ : STabs w) => Flag_any g s k w H hm hk)
            have hkP : (flg s k).2.2 ≤ s.size := by
              have h : ¬ k < s.size → pk s k = 0 := pk_out
              unfold flg
              split
              · show k + 1 ≤ s.size; omega
              · split
                · show k + 1 ≤ s.size; omega
                · exact hk
            obtain ⟨x, hx⟩ : ∃ x, flg s k = x := ⟨_, rfl⟩
            rw [hx] at RN CN hkP
            clear hx
            obtain ⟨v, er1, kp⟩ := x
            replace hkP : kp ≤ s.size := hkP
            go_wp2_with fail
            refine (RN.out _).mono ?_
            rintro e w2 ⟨rfl, b2⟩
            have B2 := Lib.hid (B.out.trans (b2.mono B.out.size))
            have R2 := Lib.hid (R.out.next b2)
            have b9 := (Below.refl w2.heap.size w2).alloc (Nat.le_refl _) (.cells #[.int .i64 v, .int .i64 er1, .int .i64 (kp : Int)] 29)
            have G0 := Lib.hid (GotAt.new w2 (v, er1, kp))
            have R9 := Lib.hid (R2.out.next b9)
            have B9 := Lib.hid (B2.out.trans (b9.mono B2.out.size))
            have T9 := Lib.hid (HT.out.next B9.out)
            have hgl := R2.out.lt
            clear b2 B R B2 R2 b9
            unfold Got
            go_wp2_with fail
            refine (CN.out _ R9.out T9.out).mono ?_
            rintro e w3 ⟨rfl, b3, R3⟩
            have G1 := Lib.hid (got_turned G0.out b3 (by omega))
            have x0 := G1.out.c0
            have x1 := G1.out.c1
            have x2 := G1.out.c2
            have R' := Lib.hid R3
            have B' := Lib.hid (B9.out.trans (b3.below hg B9.out.size))
            clear b3 R3 R9 B9 T9 G0 G1
            obtain ⟨L, hL⟩ : ∃ L : Nat, L = s.size - kp := ⟨_, rfl⟩
            have AT := Lib.hid (fun w H => At_any g s kp w H)
            have LF := Lib.hid (fun w H => Left_any g s kp w H hm hkP)
            rw [← hL] at LF
            have e5 : IntKind.i64.wrap ((s.size : Int) - (kp : Int)) = (L : Int) := by rw [IntWalk.i64_in _ (by omega)]; omega
            clear hL
            go_wp2_with fail
            refine (AT.out _ R'.out).mono ?_
            rintro e w5 ⟨rfl, rfl⟩
            go_wp2_with fail
            refine (LF.out _ R'.out).mono ?_
            rintro e w6 ⟨rfl, b6, R6⟩
            have B6 := Lib.hid (B'.out.trans (b6.mono B'.out.size))
            have H6 := Lib.hid R6
            clear b6 R6 B' R'
            go_wp2_with fail
            go_roundw
            case rel => exact ⟨i + 1, kp, by omega, hkP, rfl, by go_num, H6.out, B6.out⟩
            case measure => simp [intOf]; omega
          · skip
            have SK := Lib.hid (Skip_any g s k wr R.out hm hk)
            have e8 : IntKind.i64.wrap ((k : Int) + 1) = (k : Int) + 1 := IntWalk.i64_in _ (by omega)
            obtain ⟨kp, hkp⟩ : ∃ kp : Nat, kp = stp s k := ⟨_, rfl⟩
            have hkP : kp ≤ s.size := by rw [hkp]; exact (stp_le hk).1
            have hmin : min ((k : Int) + 1) (s.size : Int) = (kp : Int) := by rw [hkp]; unfold stp; split <;> omega
            rw [← hkp] at SK
            clear hkp
            by_cases h0 : k < s.size
            · rw [decide_eq_true h0] at SK
              go_wp2_with fail
              refine SK.out.mono ?_
              rintro e w3 ⟨rfl, b3, R3⟩
              have R' := Lib.hid R3
              have B' := Lib.hid (B.out.trans (b3.below hg B.out.size))
              clear b3 R3 B R
              obtain ⟨L, hL⟩ : ∃ L : Nat, L = s.size - kp := ⟨_, rfl⟩
              have AT := Lib.hid (fun w H => At_any g s kp w H)
              have LF := Lib.hid (fun w H => Left_any g s kp w H hm hkP)
              rw [← hL] at LF
              have e5 : IntKind.i64.wrap ((s.size : Int) - (kp : Int)) = (L : Int) := by rw [IntWalk.i64_in _ (by omega)]; omega
              clear hL
              go_wp2_with fail
              refine (AT.out _ R'.out).mono ?_
              rintro e w5 ⟨rfl, rfl⟩
              go_wp2_with fail
              refine (LF.out _ R'.out).mono ?_
              rintro e w6 ⟨rfl, b6, R6⟩
              have B6 := Lib.hid (B'.out.trans (b6.mono B'.out.size))
              have H6 := Lib.hid R6
              clear b6 R6 B' R'
              go_wp2_with fail
              go_roundw
              case rel => exact ⟨i + 1, kp, by omega, hkP, rfl, by go_num, H6.out, B6.out⟩
              case measure => simp [intOf]; omega
            · rw [decide_eq_false h0] at SK
              have h0' : ¬ (k : Int) < (s.size : Int) := by omega
              go_wp2_with fail
              refine SK.out.mono ?_
              rintro e w3 ⟨rfl, b3, R3⟩
              have R' := Lib.hid R3
              have B' := Lib.hid (B.out.trans (b3.below hg B.out.size))
              clear b3 R3 B R
              obtain ⟨L, hL⟩ : ∃ L : Nat, L = s.size - kp := ⟨_, rfl⟩
              have AT := Lib.hid (fun w H => At_any g s kp w H)
              have LF := Lib.hid (fun w H => Left_any g s kp w H hm hkP)
              rw [← hL] at LF
              have e5 : IntKind.i64.wrap ((s.size : Int) - (kp : Int)) = (L : Int) := by rw [IntWalk.i64_in _ (by omega)]; omega
              clear hL
              go_wp2_with fail
              refine (AT.out _ R'.out).mono ?_
              rintro e w5 ⟨rfl, rfl⟩
              go_wp2_with fail
              refine (LF.out _ R'.out).mono ?_
              rintro e w6 ⟨rfl, b6, R6⟩
              have B6 := Lib.hid (B'.out.trans (b6.mono B'.out.size))
              have H6 := Lib.hid R6
              clear b6 R6 B' R'
              go_wp2_with fail
              go_roundw
              case rel => exact ⟨i + 1, kp, by omega, hkP, rfl, by go_num, H6.out, B6.out⟩
              case measure => simp [intOf]; omega
          · skip
            have PK := Lib.hid (Peek_any g s k wr R.out hm hk)
            unfold PeekPost at PK
            by_cases h0 : k < s.size
            · rw [decide_eq_true h0, pk_in h0] at PK
              go_wp2_with fail
              refine PK.out.mono ?_
              rintro e w3 ⟨rfl, b3, R3⟩
              have R' := Lib.hid R3
              have B' := Lib.hid (B.out.trans (b3.mono B.out.size))
              clear b3 R3 B R
              obtain ⟨L, hL⟩ : ∃ L : Nat, L = s.size - k := ⟨_, rfl⟩
              have AT := Lib.hid (fun w H => At_any g s k w H)
              have LF := Lib.hid (fun w H => Left_any g s k w H hm hk)
              rw [← hL] at LF
              have e5 : IntKind.i64.wrap ((s.size : Int) - (k : Int)) = (L : Int) := by rw [IntWalk.i64_in _ (by omega)]; omega
              clear hL
              go_wp2_with fail
              refine (AT.out _ R'.out).mono ?_
              rintro e w5 ⟨rfl, rfl⟩
              go_wp2_with fail
              refine (LF.out _ R'.out).mono ?_
              rintro e w6 ⟨rfl, b6, R6⟩
              have B6 := Lib.hid (B'.out.trans (b6.mono B'.out.size))
              have H6 := Lib.hid R6
              clear b6 R6 B' R'
              go_wp2_with fail
              go_roundw
              case rel => exact ⟨i + 1, k, by omega, hk, rfl, by go_num, H6.out, B6.out⟩
              case measure => simp [intOf]; omega
            · rw [decide_eq_false h0, pk_out h0] at PK
              have h0' : ¬ (k : Int) < (s.size : Int) := by omega
              go_wp2_with fail
              refine PK.out.mono ?_
              rintro e w3 ⟨rfl, b3, R3⟩
              have R' := Lib.hid R3
              have B' := Lib.hid (B.out.trans (b3.mono B.out.size))
              clear b3 R3 B R
              obtain ⟨L, hL⟩ : ∃ L : Nat, L = s.size - k := ⟨_, rfl⟩
              have AT := Lib.hid (fun w H => At_any g s k w H)
              have LF := Lib.hid (fun w H => Left_any g s k w H hm hk)
              rw [← hL] at LF
              have e5 : IntKind.i64.wrap ((s.size : Int) - (k : Int)) = (L : Int) := by rw [IntWalk.i64_in _ (by omega)]; omega
              clear hL
              go_wp2_with fail
              refine (AT.out _ R'.out).mono ?_
              rintro e w5 ⟨rfl, rfl⟩
              go_wp2_with fail
              refine (LF.out _ R'.out).mono ?_
              rintro e w6 ⟨rfl, b6, R6⟩
              have B6 := Lib.hid (B'.out.trans (b6.mono B'.out.size))
              have H6 := Lib.hid R6
              clear b6 R6 B' R'
              go_wp2_with fail
              go_roundw
              case rel => exact ⟨i + 1, k, by omega, hk, rfl, by go_num, H6.out, B6.out⟩
              case measure => simp [intOf]; omega
        · go_wp2_with fail
          go_ret
          exact ⟨rfl, B.out⟩
    · go_enter Tryd.func3, Tryd.ntmps3
      have q1 : ¬ (80 : Int) < (s.size : Int) := by omega
      have q2 : (100 : Int) < (zs.length : Int) := by omega
      go_wp2_with fail
      refine K.out.mono ?_
      rintro e w1 ⟨rfl, b1⟩
      have B1 := Lib.hid b1
      clear K b1
      go_wp2_with fail
      go_ret
      exact ⟨rfl, B1.out⟩
  · go_enter Tryd.func3, Tryd.ntmps3
    have q1 : (80 : Int) < (s.size : Int) := by omega
    go_wp2_with fail
    refine K.out.mono ?_
    rintro e w1 ⟨rfl, b1⟩
    have B1 := Lib.hid b1
    clear K b1
    go_wp2_with fail
    go_ret
    exact ⟨rfl, B1.out⟩

set_option maxRecDepth 100000 in
theorem lifted (os : Os) (started : os.Started) (H : Type) (enc : TypeId × Value → H) :
    ReturnsInHanded {} Tryd.checked os 3 .any (fun w args => (Rows.scanActsSpec.pre enc Tryd.prog Tryd.f3 Rows.scanActsRow.domain false w args ∧ laidMetH Tryd.prog laid4 w) ∧ sizedMet enc Tryd.prog Tryd.f3 (OpenSpec.ofChange Rows.scanActsSpec) false w args)
      (Rows.scanActsSpec.post enc Tryd.prog Tryd.f3 false true false false) := by
  refine wrap_laid (C := Tryd.checked) (X := fun w _ => laidMetH Tryd.prog laid4 w) (fun _ _ _ hh h => h.of_heap hh) own started (by kernel_rfl) Tryd.func3
    (ChangeSpec.witness_shaped (enc := enc) (C := Tryd.checked) (os := os) (X := fun w _ => laidMetH Tryd.prog laid4 w) false (World.laidAll Tryd.prog os laid4) #[.string ⟨#[]⟩, .slice none 0 0] 8 (World.laidAll_os _ _ _)
      (World.shaped_of_ZipB (by kernel_rfl) (by kernel_rfl)) (by kernel_rfl) (by kernel_rfl) (by kernel_rfl)
      (by rw [MakeChecks.laidMetH_plain _ _ _ (by kernel_rfl)]; exact laidMet_laidAll _ (by kernel_rfl) (by kernel_rfl))) ?_
  intro W base args ds gs before hval0 hW hcnd _ hL hS _
  have hval : ∀ (j : Nat) t v, Tryd.f3.params[j]? = some t → args[j]? = some v → Value.okWide Tryd.prog W .any base t v := hval0
  have hW' := hW
  obtain ⟨p, q, hA0, hV, rfl, hfz, hnd⟩ := hW
  have hA : DataW.TrodAll enc Tryd.prog W 0 (fun _ => true) true Tryd.f3.params.toList args.toList ds p := hA0
  rw [Tryd.params3] at hA hval
  obtain ⟨v0, v1, d0, d1, p0, p1, rfl, rfl, rfl, h0, h1⟩ := trodAll_two hA
  obtain ⟨rfl, rfl⟩ := trodVars_none hV
  obtain ⟨a0, rfl, rfl, rfl, w0⟩ := Go.ChangeMaps.open_string Tryd.underlying9 (hval 0 9 v0 rfl rfl) h0
  obtain ⟨a1, z1, c1, rfl, l1, i1, f1⟩ := intsK_of_trod (P := Tryd.prog) Tryd.underlying22 Tryd.underlying5 (by kernel_rfl) (hval 1 22 v1 rfl rfl) h1
  clear hA0 hval0
  simp only [List.append_nil] at hW'
  have lt1 : ∀ x ∈ p1, x.block < W.heap.size := fun x hx => hW'.lt x (by simp [hx])
  refine (walk a0 w0 a1 z1 c1 l1 f1 W i1 (stabs_of hL hS)).mono fun e W' ⟨he, hg⟩ => ?_
  subst he
  have h1' := Below.trod laidOut (by kernel_rfl) (of_decide_eq_true (by kernel_rfl)) h1 hg lt1
  exact ⟨_, rfl, ⟨_, _, _, [], _, [], hW', trodAll_mk1 (shut_bool Tryd.underlying4 _), trodAll_mk2 (Go.ChangeMaps.shut_string Tryd.underlying9 w0) h1', rfl, hg.frame _, fun h => by cases h⟩⟩

/-- The row's statement. -/
theorem row_holds : Rows.ScanActsSaid :=
  OpenClaim.holds_of_wide 3 Tryd.f3 rfl rfl rfl rfl rfl rfl rfl ⟨rfl, rfl, rfl, rfl, rfl⟩ rfl rfl rfl rfl rfl (by kernel_rfl) Tryd.func3 (by kernel_rfl)
    (of_decide_eq_true (by kernel_rfl)) (by unfold Func.isWrapper; first | (rw [if_pos (by decide +kernel)]; kernel_rfl) | (rw [if_neg (by decide +kernel)]; exact ⟨rfl, rfl⟩))
    (fun os started H enc _ => lifted os started H enc)
/-- The given statement: the card. -/
theorem proved : Rows.ScanActsCardSaid :=
  Claim7.holds_tied_plain_at .later [] [.data, .data, .data, .pinned] true (true, "7f27f9792fcff04e179892fc5e3d1bdfc4b5cf923d53db90216b6ccb1ebd3b4e") false row_holds (fun _ h => by cases h) (by kernel_rfl) (fun _ h => by cases h) scanActs_row_tie rfl ⟨rfl, rfl⟩ (by kernel_rfl) rfl
    (fun f fn hf hfn => by
      obtain rfl : f = 3 := Option.some.inj ((show Tryd.prog.funcNamed "pointillist/pointillistlaw05.ScanActs" = some 3 by kernel_rfl).symm.trans hf) |>.symm
      obtain rfl : fn = Tryd.f3 := (Option.some.inj (Tryd.func3.symm.trans hfn)).symm
      exact ⟨by kernel_rfl, fun j t ht => by
        rw [Tryd.params3] at ht
        have hm : t ∈ [9, 22] := by simpa using Array.mem_of_getElem? ht
        have hall : ([9, 22].all fun u => !Tryd.prog.wantsStandIn u) = true := by kernel_rfl
        exact (show Tryd.prog.wantsStandIn t = false by simpa using List.all_eq_true.1 hall t hm)⟩)
    (by kernel_rfl)
end Go.Proofs.YtmfibmcmbbelgaaDoor.scanActs
