/-
  PROVED: the statement of ScanNever, for every input: a reader never goes back, nor beyond the end; what isn't there is not gone over. No conditions but what the row lists: package variables as the program's text lays them.
-/
import Derived.Test.YtmfibmcmbbelgaaDoorScanWakes
import Derived.Test.YtmfibmcmbbelgaaDoorScanLaid
import Derived.Test.YtmfibmcmbbelgaaDoorRowK
namespace Go.Proofs.YtmfibmcmbbelgaaDoor.scanNever
open Go.ChangeShapes Go.WideShapes Go.ChangeAt Go.RowKit Go.Shelf

def Inv (s : ByteArray) (n g : Nat) (w : World) (v : Value) (wr : World) : Prop :=
  ∃ i k : Nat, i ≤ n ∧ k ≤ s.size ∧ v = .int .i64 (i : Int) ∧ Rdr g s k wr ∧ Below w.heap.size w wr
theorem flg_ok (s : ByteArray) (k : Nat) (hk : k ≤ s.size) : ((flg s k).2.1 = 0 ∧ (flg s k).2.2 = k + 1 ∧ k < s.size) ∨ ((flg s k).2.1 = 3 ∧ (flg s k).2.2 = k) := by
  have h : ¬ k < s.size → pk s k = 0 := pk_out
  unfold flg
  split
  · exact Or.inl ⟨rfl, rfl, by omega⟩
  · split
    · exact Or.inl ⟨rfl, rfl, by omega⟩
    · exact Or.inr ⟨rfl, rfl⟩

set_option maxHeartbeats 4000000 in
set_option maxRecDepth 100000 in
theorem walk (s : ByteArray) (hs : s.size ≤ maxLen) (a : Option Addr) (zs : List Int) (cap : Nat) (hl : zs.length ≤ maxLen) (hz : ∀ z ∈ zs, (Lit.int .u8 z).wf = true) (w : World) (hI : IntsK .u8 a zs w) (T : STabs w) :
    Calls Tryd.prog 5 #[.string s, .slice a zs.length cap] w fun e w' => e = .returned (.bool true) ∧ Below w.heap.size w w' := by
  have K := Lib.hid (wakes5 w T)
  have HT := Lib.hid T
  have HI := Lib.hid hI
  have HZ := Lib.hid hz
  have hm : s.size ≤ maxLen := hs
  have hs' : s.size ≤ 9223372036854775807 := hs
  have hl' : zs.length ≤ 9223372036854775807 := hl
  clear T hs hl hI hz
  by_cases h80 : s.size ≤ 80
  · by_cases h100 : zs.length ≤ 100
    · have q1 : ¬ (80 : Int) < (s.size : Int) := by omega
      have q2 : ¬ (100 : Int) < (zs.length : Int) := by omega
      have NW := Lib.hid (New_any s)
      go_enter Tryd.func5, Tryd.ntmps5
      go_wp2_with fail
      refine K.out.mono ?_
      rintro e w1 ⟨rfl, b1⟩
      have B1 := Lib.hid b1
      clear K b1
      go_wp2_with fail
      refine (NW.out _).mono ?_
      rintro e w2 ⟨rfl, R2, b2⟩
      have hg : w.heap.size ≤ w1.heap.size := B1.out.size
      have B2 := Lib.hid (B1.out.trans (b2.mono hg))
      have HR2 := Lib.hid R2
      have hgN : gN ≤ w.heap.size := HT.out.tabs.size
      clear B1 b2 R2 NW
      generalize w1.heap.size = g at *
      have hgg : gN ≤ g := by omega
      go_wp2_with fail
      go_loopw [29] (fun v wr => Inv s zs.length g w v wr) (fun v _ => zs.length - (intOf v).toNat)
      case atStart => exact ⟨0, 0, Nat.zero_le _, Nat.zero_le _, rfl, HR2.out, B2.out⟩
      case round =>
        clear HR2 B2
        obtain ⟨i, k, hi, hk, rfl, hR, hB⟩ := hrel
        have R := Lib.hid hR
        have B := Lib.hid hB
        clear hR hB
        by_cases hlt : i < zs.length
        · have TT := Lib.hid (HT.out.next B.out)
          obtain ⟨bb, off, rfl, hbl, hc⟩ := (HI.out.below B.out (Nat.le_refl _)).pos hlt
          have hcell := hc i hlt
          obtain ⟨c, hc1, hc2⟩ := u8_of_wf (HZ.out _ (getD_mem hlt))
          rw [hc1] at hcell
          clear hc hc1
          have er : (c : Int).tmod 4 = ((c % 4 : Nat) : Int) := rfl
          have hr4 : c % 4 = 0 ∨ c % 4 = 1 ∨ c % 4 = 2 ∨ c % 4 = 3 := by omega
          have AT0 := Lib.hid (fun w H => At_any g s k w H)
          rcases hr4 with hr | hr | hr | hr
          · rw [hr] at er
            have FL := Lib.hid (Flag_any g s k wr R.out hm hk)
            have FO := flg_ok s k hk
            obtain ⟨x, hx⟩ : ∃ x, flg s k = x := ⟨_, rfl⟩
            rw [hx] at FL FO
            obtain ⟨v, er1, kp⟩ := x
            have hk1 : IntKind.i64.wrap ((k : Int) + 1) = ((k + 1 : Nat) : Int) := by rw [IntWalk.i64_in _ (by omega)]; omega
            clear hx
            rcases FO with ⟨e1, e2, hlt2⟩ | ⟨e1, e2⟩ <;> obtain rfl := e1
            · replace e2 : kp = k + 1 := e2
              have hkP : kp ≤ s.size := by omega
              have ek : ((kp : Int) == (k : Int) + 1) = true := by rw [beq_iff_eq]; omega
              have hlow : ¬ kp < k := by omega
              clear e2
              go_wp2_with fail
              refine (AT0.out _ R.out).mono ?_
              rintro e w2 ⟨rfl, rfl⟩
              go_wp2_with fail
              refine FL.out.mono ?_
              rintro e w3 ⟨rfl, b3, R3⟩
              have R' := Lib.hid R3
              have B' := Lib.hid (B.out.trans (b3.below hg B.out.size))
              clear b3 R3 B R
              have AT3 := Lib.hid (fun w H => At_any g s kp w H)
              go_wp2_with fail
              refine (AT3.out _ R'.out).mono ?_
              rintro e w4 ⟨rfl, rfl⟩
              obtain ⟨L, hL⟩ : ∃ L : Nat, L = s.size - kp := ⟨_, rfl⟩
              have AT := Lib.hid (fun w H => At_any g s kp w H)
              have LF := Lib.hid (fun w H => Left_any g s kp w H hm hkP)
              rw [← hL] at LF
              have e5 : IntKind.i64.wrap ((kp : Int) + (L : Int)) = (s.size : Int) := by rw [IntWalk.i64_in _ (by omega)]; omega
              have hneg : ¬ (L : Int) < 0 := by omega
              clear hL
              go_wp2_with fail
              clear ek
              refine (AT.out _ R'.out).mono ?_
              rintro e w5 ⟨rfl, rfl⟩
              go_wp2_with fail
              refine (LF.out _ R'.out).mono ?_
              rintro e w6 ⟨rfl, b6, R6⟩
              have B6 := Lib.hid (B'.out.trans (b6.mono B'.out.size))
              have H6 := Lib.hid R6
              clear b6 R6 B' R'
              go_wp2_with fail
              refine (AT.out _ H6.out).mono ?_
              rintro e w7 ⟨rfl, rfl⟩
              go_wp2_with fail
              refine (LF.out _ H6.out).mono ?_
              rintro e w8 ⟨rfl, b8, R8⟩
              have B8 := Lib.hid (B6.out.trans (b8.mono B6.out.size))
              have H8 := Lib.hid R8
              clear b8 R8 B6 H6
              go_wp2_with fail
              go_roundw
              case rel => exact ⟨i + 1, kp, by omega, hkP, by go_num, H8.out, B8.out⟩
              case measure => simp [intOf]; omega
            · obtain rfl := e2
              have hkP := hk
              have hlow : ¬ kp < kp := by omega
              go_wp2_with fail
              refine (AT0.out _ R.out).mono ?_
              rintro e w2 ⟨rfl, rfl⟩
              go_wp2_with fail
              refine FL.out.mono ?_
              rintro e w3 ⟨rfl, b3, R3⟩
              have R' := Lib.hid R3
              have B' := Lib.hid (B.out.trans (b3.below hg B.out.size))
              clear b3 R3 B R
              have AT3 := Lib.hid (fun w H => At_any g s kp w H)
              go_wp2_with fail
              refine (AT3.out _ R'.out).mono ?_
              rintro e w4 ⟨rfl, rfl⟩
              obtain ⟨L, hL⟩ : ∃ L : Nat, L = s.size - kp := ⟨_, rfl⟩
              have AT := Lib.hid (fun w H => At_any g s kp w H)
              have LF := Lib.hid (fun w H => Left_any g s kp w H hm hkP)
              rw [← hL] at LF
              have e5 : IntKind.i64.wrap ((kp : Int) + (L : Int)) = (s.size : Int) := by rw [IntWalk.i64_in _ (by omega)]; omega
              have hneg : ¬ (L : Int) < 0 := by omega
              clear hL
              go_wp2_with fail
              refine (AT.out _ R'.out).mono ?_
              rintro e w5 ⟨rfl, rfl⟩
              go_wp2_with fail
              refine (LF.out _ R'.out).mono ?_
              rintro e w6 ⟨rfl, b6, R6⟩
              have B6 := Lib.hid (B'.out.trans (b6.mono B'.out.size))
              have H6 := Lib.hid R6
              clear b6 R6 B' R'
              go_wp2_with fail
              refine (AT.out _ H6.out).mono ?_
              rintro e w7 ⟨rfl, rfl⟩
              go_wp2_with fail
              refine (LF.out _ H6.out).mono ?_
              rintro e w8 ⟨rfl, b8, R8⟩
              have B8 := Lib.hid (B6.out.trans (b8.mono B6.out.size))
              have H8 := Lib.hid R8
              clear b8 R8 B6 H6
              go_wp2_with fail
              go_roundw
              case rel => exact ⟨i + 1, kp, by omega, hkP, by go_num, H8.out, B8.out⟩
              case measure => simp [intOf]; omega
          · rw [hr] at er
            obtain ⟨x, hok, hnum⟩ := number_any s k true (by omega) hk
            have NU := Lib.hid (hnum g wr R.out TT.out)
            unfold NumPost at NU
            clear hnum
            obtain ⟨v, er1, kp⟩ := x
            have hkP : kp ≤ s.size := hok.hi
            have hlow : ¬ kp < k := Nat.not_lt.2 hok.lo
            have h1 := hok.ok
            have h2 := hok.great
            have h3 : er1 = 0 ∨ er1 = 2 ∨ er1 = 3 := hok.er
            clear hok
            rcases h3 with rfl | rfl | rfl
            · replace h1 : k < kp := h1 rfl
              have ek : ((kp : Int) == (k : Int)) = false := by rw [beq_eq_false_iff_ne]; omega
              clear h1 h2
              go_wp2_with fail
              refine (AT0.out _ R.out).mono ?_
              rintro e w2 ⟨rfl, rfl⟩
              go_wp2_with fail
              refine NU.out.mono ?_
              rintro e w3 ⟨rfl, b3, R3⟩
              have R' := Lib.hid R3
              have B' := Lib.hid (B.out.trans (b3.below hg B.out.size))
              clear b3 R3 B R
              have AT3 := Lib.hid (fun w H => At_any g s kp w H)
              go_wp2_with fail
              refine (AT3.out _ R'.out).mono ?_
              rintro e w4 ⟨rfl, rfl⟩
              obtain ⟨L, hL⟩ : ∃ L : Nat, L = s.size - kp := ⟨_, rfl⟩
              have AT := Lib.hid (fun w H => At_any g s kp w H)
              have LF := Lib.hid (fun w H => Left_any g s kp w H hm hkP)
              rw [← hL] at LF
              have e5 : IntKind.i64.wrap ((kp : Int) + (L : Int)) = (s.size : Int) := by rw [IntWalk.i64_in _ (by omega)]; omega
              have hneg : ¬ (L : Int) < 0 := by omega
              clear hL
              go_wp2_with fail
              refine (AT.out _ R'.out).mono ?_
              rintro e w5 ⟨rfl, rfl⟩
              go_wp2_with fail
              refine (LF.out _ R'.out).mono ?_
              rintro e w6 ⟨rfl, b6, R6⟩
              have B6 := Lib.hid (B'.out.trans (b6.mono B'.out.size))
              have H6 := Lib.hid R6
              clear b6 R6 B' R'
              go_wp2_with fail
              refine (AT.out _ H6.out).mono ?_
              rintro e w7 ⟨rfl, rfl⟩
              go_wp2_with fail
              refine (LF.out _ H6.out).mono ?_
              rintro e w8 ⟨rfl, b8, R8⟩
              have B8 := Lib.hid (B6.out.trans (b8.mono B6.out.size))
              have H8 := Lib.hid R8
              clear b8 R8 B6 H6
              go_wp2_with fail
              go_roundw
              case rel => exact ⟨i + 1, kp, by omega, hkP, by go_num, H8.out, B8.out⟩
              case measure => simp [intOf]; omega
            · replace h2 : kp = k := h2 rfl
              obtain rfl := h2
              clear h1
              go_wp2_with fail
              refine (AT0.out _ R.out).mono ?_
              rintro e w2 ⟨rfl, rfl⟩
              go_wp2_with fail
              refine NU.out.mono ?_
              rintro e w3 ⟨rfl, b3, R3⟩
              have R' := Lib.hid R3
              have B' := Lib.hid (B.out.trans (b3.below hg B.out.size))
              clear b3 R3 B R
              have AT3 := Lib.hid (fun w H => At_any g s kp w H)
              go_wp2_with fail
              refine (AT3.out _ R'.out).mono ?_
              rintro e w4 ⟨rfl, rfl⟩
              obtain ⟨L, hL⟩ : ∃ L : Nat, L = s.size - kp := ⟨_, rfl⟩
              have AT := Lib.hid (fun w H => At_any g s kp w H)
              have LF := Lib.hid (fun w H => Left_any g s kp w H hm hkP)
              rw [← hL] at LF
              have e5 : IntKind.i64.wrap ((kp : Int) + (L : Int)) = (s.size : Int) := by rw [IntWalk.i64_in _ (by omega)]; omega
              have hneg : ¬ (L : Int) < 0 := by omega
              clear hL
              go_wp2_with fail
              refine (AT.out _ R'.out).mono ?_
              rintro e w5 ⟨rfl, rfl⟩
              go_wp2_with fail
              refine (LF.out _ R'.out).mono ?_
              rintro e w6 ⟨rfl, b6, R6⟩
              have B6 := Lib.hid (B'.out.trans (b6.mono B'.out.size))
              have H6 := Lib.hid R6
              clear b6 R6 B' R'
              go_wp2_with fail
              refine (AT.out _ H6.out).mono ?_
              rintro e w7 ⟨rfl, rfl⟩
              go_wp2_with fail
              refine (LF.out _ H6.out).mono ?_
              rintro e w8 ⟨rfl, b8, R8⟩
              have B8 := Lib.hid (B6.out.trans (b8.mono B6.out.size))
              have H8 := Lib.hid R8
              clear b8 R8 B6 H6
              go_wp2_with fail
              go_roundw
              case rel => exact ⟨i + 1, kp, by omega, hkP, by go_num, H8.out, B8.out⟩
              case measure => simp [intOf]; omega
            · clear h1 h2
              go_wp2_with fail
              refine (AT0.out _ R.out).mono ?_
              rintro e w2 ⟨rfl, rfl⟩
              go_wp2_with fail
              refine NU.out.mono ?_
              rintro e w3 ⟨rfl, b3, R3⟩
              have R' := Lib.hid R3
              have B' := Lib.hid (B.out.trans (b3.below hg B.out.size))
              clear b3 R3 B R
              obtain ⟨L, hL⟩ : ∃ L : Nat, L = s.size - kp := ⟨_, rfl⟩
              have AT := Lib.hid (fun w H => At_any g s kp w H)
              have LF := Lib.hid (fun w H => Left_any g s kp w H hm hkP)
              rw [← hL] at LF
              have e5 : IntKind.i64.wrap ((kp : Int) + (L : Int)) = (s.size : Int) := by rw [IntWalk.i64_in _ (by omega)]; omega
              have hneg : ¬ (L : Int) < 0 := by omega
              clear hL
              go_wp2_with fail
              refine (AT.out _ R'.out).mono ?_
              rintro e w5 ⟨rfl, rfl⟩
              go_wp2_with fail
              refine (LF.out _ R'.out).mono ?_
              rintro e w6 ⟨rfl, b6, R6⟩
              have B6 := Lib.hid (B'.out.trans (b6.mono B'.out.size))
              have H6 := Lib.hid R6
              clear b6 R6 B' R'
              go_wp2_with fail
              refine (AT.out _ H6.out).mono ?_
              rintro e w7 ⟨rfl, rfl⟩
              go_wp2_with fail
              refine (LF.out _ H6.out).mono ?_
              rintro e w8 ⟨rfl, b8, R8⟩
              have B8 := Lib.hid (B6.out.trans (b8.mono B6.out.size))
              have H8 := Lib.hid R8
              clear b8 R8 B6 H6
              go_wp2_with fail
              go_roundw
              case rel => exact ⟨i + 1, kp, by omega, hkP, by go_num, H8.out, B8.out⟩
              case measure => simp [intOf]; omega
          · rw [hr] at er
            have GA := Lib.hid (Gap_any g s k wr R.out hm hk TT.out.blks hgg)
            have hle := gap_le (s.data.toList.drop k) 0
            rw [List.length_drop, Array.length_toList] at hle
            replace hle : gap 0 (s.data.toList.drop k) ≤ s.size - k := hle
            generalize gap 0 (s.data.toList.drop k) = gp at *
            obtain ⟨kp, hkp⟩ : ∃ kp : Nat, kp = k + gp := ⟨_, rfl⟩
            rw [← hkp] at GA
            have hkP : kp ≤ s.size := by omega
            have hlow : ¬ kp < k := by omega
            by_cases h0 : 0 < gp
            · rw [decide_eq_true h0] at GA
              have hk2 : k < kp := by omega
              clear hkp hle h0
              go_wp2_with fail
              refine (AT0.out _ R.out).mono ?_
              rintro e w2 ⟨rfl, rfl⟩
              go_wp2_with fail
              refine GA.out.mono ?_
              rintro e w3 ⟨rfl, b3, R3⟩
              have R' := Lib.hid R3
              have B' := Lib.hid (B.out.trans (b3.below hg B.out.size))
              clear b3 R3 B R
              have AT3 := Lib.hid (fun w H => At_any g s kp w H)
              go_wp2_with fail
              refine (AT3.out _ R'.out).mono ?_
              rintro e w4 ⟨rfl, rfl⟩
              obtain ⟨L, hL⟩ : ∃ L : Nat, L = s.size - kp := ⟨_, rfl⟩
              have AT := Lib.hid (fun w H => At_any g s kp w H)
              have LF := Lib.hid (fun w H => Left_any g s kp w H hm hkP)
              rw [← hL] at LF
              have e5 : IntKind.i64.wrap ((kp : Int) + (L : Int)) = (s.size : Int) := by rw [IntWalk.i64_in _ (by omega)]; omega
              have hneg : ¬ (L : Int) < 0 := by omega
              clear hL
              go_wp2_with fail
              refine (AT.out _ R'.out).mono ?_
              rintro e w5 ⟨rfl, rfl⟩
              go_wp2_with fail
              refine (LF.out _ R'.out).mono ?_
              rintro e w6 ⟨rfl, b6, R6⟩
              have B6 := Lib.hid (B'.out.trans (b6.mono B'.out.size))
              have H6 := Lib.hid R6
              clear b6 R6 B' R'
              go_wp2_with fail
              refine (AT.out _ H6.out).mono ?_
              rintro e w7 ⟨rfl, rfl⟩
              go_wp2_with fail
              refine (LF.out _ H6.out).mono ?_
              rintro e w8 ⟨rfl, b8, R8⟩
              have B8 := Lib.hid (B6.out.trans (b8.mono B6.out.size))
              have H8 := Lib.hid R8
              clear b8 R8 B6 H6
              go_wp2_with fail
              go_roundw
              case rel => exact ⟨i + 1, kp, by omega, hkP, by go_num, H8.out, B8.out⟩
              case measure => simp [intOf]; omega
            · rw [decide_eq_false h0] at GA
              obtain rfl : kp = k := by omega
              clear hkp hle h0
              go_wp2_with fail
              refine (AT0.out _ R.out).mono ?_
              rintro e w2 ⟨rfl, rfl⟩
              go_wp2_with fail
              refine GA.out.mono ?_
              rintro e w3 ⟨rfl, b3, R3⟩
              have R' := Lib.hid R3
              have B' := Lib.hid (B.out.trans (b3.below hg B.out.size))
              clear b3 R3 B R
              have AT3 := Lib.hid (fun w H => At_any g s kp w H)
              go_wp2_with fail
              refine (AT3.out _ R'.out).mono ?_
              rintro e w4 ⟨rfl, rfl⟩
              obtain ⟨L, hL⟩ : ∃ L : Nat, L = s.size - kp := ⟨_, rfl⟩
              have AT := Lib.hid (fun w H => At_any g s kp w H)
              have LF := Lib.hid (fun w H => Left_any g s kp w H hm hkP)
              rw [← hL] at LF
              have e5 : IntKind.i64.wrap ((kp : Int) + (L : Int)) = (s.size : Int) := by rw [IntWalk.i64_in _ (by omega)]; omega
              have hneg : ¬ (L : Int) < 0 := by omega
              clear hL
              go_wp2_with fail
              refine (AT.out _ R'.out).mono ?_
              rintro e w5 ⟨rfl, rfl⟩
              go_wp2_with fail
              refine (LF.out _ R'.out).mono ?_
              rintro e w6 ⟨rfl, b6, R6⟩
              have B6 := Lib.hid (B'.out.trans (b6.mono B'.out.size))
              have H6 := Lib.hid R6
              clear b6 R6 B' R'
              go_wp2_with fail
              refine (AT.out _ H6.out).mono ?_
              rintro e w7 ⟨rfl, rfl⟩
              go_wp2_with fail
              refine (LF.out _ H6.out).mono ?_
              rintro e w8 ⟨rfl, b8, R8⟩
              have B8 := Lib.hid (B6.out.trans (b8.mono B6.out.size))
              have H8 := Lib.hid R8
              clear b8 R8 B6 H6
              go_wp2_with fail
              go_roundw
              case rel => exact ⟨i + 1, kp, by omega, hkP, by go_num, H8.out, B8.out⟩
              case measure => simp [intOf]; omega
          · rw [hr] at er
            have SK := Lib.hid (Skip_any g s k wr R.out hm hk)
            have hst := stp_le hk
            generalize stp s k = kp at *
            have hkP : kp ≤ s.size := hst.1
            have hlow : ¬ kp < k := by omega
            clear hst
            go_wp2_with fail
            refine (AT0.out _ R.out).mono ?_
            rintro e w2 ⟨rfl, rfl⟩
            go_wp2_with fail
            refine SK.out.mono ?_
            rintro e w3 ⟨rfl, b3, R3⟩
            have R' := Lib.hid R3
            have B' := Lib.hid (B.out.trans (b3.below hg B.out.size))
            clear b3 R3 B R
            obtain ⟨L, hL⟩ : ∃ L : Nat, L = s.size - kp := ⟨_, rfl⟩
            have AT := Lib.hid (fun w H => At_any g s kp w H)
            have LF := Lib.hid (fun w H => Left_any g s kp w H hm hkP)
            rw [← hL] at LF
            have e5 : IntKind.i64.wrap ((kp : Int) + (L : Int)) = (s.size : Int) := by rw [IntWalk.i64_in _ (by omega)]; omega
            have hneg : ¬ (L : Int) < 0 := by omega
            clear hL
            go_wp2_with fail
            refine (AT.out _ R'.out).mono ?_
            rintro e w5 ⟨rfl, rfl⟩
            go_wp2_with fail
            refine (LF.out _ R'.out).mono ?_
            rintro e w6 ⟨rfl, b6, R6⟩
            have B6 := Lib.hid (B'.out.trans (b6.mono B'.out.size))
            have H6 := Lib.hid R6
            clear b6 R6 B' R'
            go_wp2_with fail
            refine (AT.out _ H6.out).mono ?_
            rintro e w7 ⟨rfl, rfl⟩
            go_wp2_with fail
            refine (LF.out _ H6.out).mono ?_
            rintro e w8 ⟨rfl, b8, R8⟩
            have B8 := Lib.hid (B6.out.trans (b8.mono B6.out.size))
            have H8 := Lib.hid R8
            clear b8 R8 B6 H6
            go_wp2_with fail
            go_roundw
            case rel => exact ⟨i + 1, kp, by omega, hkP, by go_num, H8.out, B8.out⟩
            case measure => simp [intOf]; omega
        · go_wp2_with fail
          go_ret
          exact ⟨rfl, B.out⟩
    · go_enter Tryd.func5, Tryd.ntmps5
      have q1 : ¬ (80 : Int) < (s.size : Int) := by omega
      have q2 : (100 : Int) < (zs.length : Int) := by omega
      go_wp2_with fail
      refine K.out.mono ?_
      rintro e w1 ⟨rfl, b1⟩
      have B1 := Lib.hid b1
      clear K b1
      go_wp2_with fail
      go_ret
      exact ⟨rfl, B1.out⟩
  · go_enter Tryd.func5, Tryd.ntmps5
    have q1 : (80 : Int) < (s.size : Int) := by omega
    go_wp2_with fail
    refine K.out.mono ?_
    rintro e w1 ⟨rfl, b1⟩
    have B1 := Lib.hid b1
    clear K b1
    go_wp2_with fail
    go_ret
    exact ⟨rfl, B1.out⟩

set_option maxRecDepth 100000 in
theorem lifted (os : Os) (started : os.Started) (H : Type) (enc : TypeId × Value → H) :
    ReturnsInHanded {} Tryd.checked os 5 .any (fun w args => (Rows.scanNeverSpec.pre enc Tryd.prog Tryd.f5 Rows.scanNeverRow.domain false w args ∧ laidMetH Tryd.prog laid4 w) ∧ sizedMet enc Tryd.prog Tryd.f5 (OpenSpec.ofChange Rows.scanNeverSpec) false w args)
      (Rows.scanNeverSpec.post enc Tryd.prog Tryd.f5 false true false false) := by
  refine wrap_laid (C := Tryd.checked) (X := fun w _ => laidMetH Tryd.prog laid4 w) (fun _ _ _ hh h => h.of_heap hh) own started (by kernel_rfl) Tryd.func5
    (ChangeSpec.witness_shaped (enc := enc) (C := Tryd.checked) (os := os) (X := fun w _ => laidMetH Tryd.prog laid4 w) false (World.laidAll Tryd.prog os laid4) #[.string ⟨#[]⟩, .slice none 0 0] 8 (World.laidAll_os _ _ _)
      (World.shaped_of_ZipB (by kernel_rfl) (by kernel_rfl)) (by kernel_rfl) (by kernel_rfl) (by kernel_rfl)
      (by rw [MakeChecks.laidMetH_plain _ _ _ (by kernel_rfl)]; exact laidMet_laidAll _ (by kernel_rfl) (by kernel_rfl))) ?_
  intro W base args ds gs before hval0 hW hcnd _ hL hS _
  have hval : ∀ (j : Nat) t v, Tryd.f5.params[j]? = some t → args[j]? = some v → Value.okWide Tryd.prog W .any base t v := hval0
  have hW' := hW
  obtain ⟨p, q, hA0, hV, rfl, hfz, hnd⟩ := hW
  have hA : DataW.TrodAll enc Tryd.prog W 0 (fun _ => true) true Tryd.f5.params.toList args.toList ds p := hA0
  rw [Tryd.params5] at hA hval
  obtain ⟨v0, v1, d0, d1, p0, p1, rfl, rfl, rfl, h0, h1⟩ := trodAll_two hA
  obtain ⟨rfl, rfl⟩ := trodVars_none hV
  obtain ⟨a0, rfl, rfl, rfl, w0⟩ := Go.ChangeMaps.open_string Tryd.underlying9 (hval 0 9 v0 rfl rfl) h0
  obtain ⟨a1, z1, c1, rfl, l1, i1, f1⟩ := intsK_of_trod (P := Tryd.prog) Tryd.underlying22 Tryd.underlying5 (by kernel_rfl) (hval 1 22 v1 rfl rfl) h1
  clear hA0 hval0
  simp only [List.append_nil] at hW'
  have lt1 : ∀ x ∈ p1, x.block < W.heap.size := fun x hx => hW'.lt x (by simp [hx])
  refine (walk a0 w0 a1 z1 c1 l1 f1 W i1 (stabs_of hL hS)).mono fun e W' ⟨he, hg⟩ => ?_
  subst he
  have h1' := Below.trod laidOut (by kernel_rfl) (of_decide_eq_true (by kernel_rfl)) h1 hg lt1
  exact ⟨_, rfl, ⟨_, _, _, [], _, [], hW', trodAll_mk1 (shut_bool Tryd.underlying4 _), trodAll_mk2 (Go.ChangeMaps.shut_string Tryd.underlying9 w0) h1', rfl, hg.frame _, fun h => by cases h⟩⟩

/-- The row's statement. -/
theorem row_holds : Rows.ScanNeverSaid :=
  OpenClaim.holds_of_wide 5 Tryd.f5 rfl rfl rfl rfl rfl rfl rfl ⟨rfl, rfl, rfl, rfl, rfl⟩ rfl rfl rfl rfl rfl (by kernel_rfl) Tryd.func5 (by kernel_rfl)
    (of_decide_eq_true (by kernel_rfl)) (by unfold Func.isWrapper; first | (rw [if_pos (by decide +kernel)]; kernel_rfl) | (rw [if_neg (by decide +kernel)]; exact ⟨rfl, rfl⟩))
    (fun os started H enc _ => lifted os started H enc)
/-- The given statement: the card. -/
theorem proved : Rows.ScanNeverCardSaid :=
  Claim7.holds_tied_plain_at .later [] [.data, .data, .data, .pinned] true (true, "7f27f9792fcff04e179892fc5e3d1bdfc4b5cf923d53db90216b6ccb1ebd3b4e") false row_holds (fun _ h => by cases h) (by kernel_rfl) (fun _ h => by cases h) scanNever_row_tie rfl ⟨rfl, rfl⟩ (by kernel_rfl) rfl
    (fun f fn hf hfn => by
      obtain rfl : f = 5 := Option.some.inj ((show Tryd.prog.funcNamed "pointillist/pointillistlaw05.ScanNever" = some 5 by kernel_rfl).symm.trans hf) |>.symm
      obtain rfl : fn = Tryd.f5 := (Option.some.inj (Tryd.func5.symm.trans hfn)).symm
      exact ⟨by kernel_rfl, fun j t ht => by
        rw [Tryd.params5] at ht
        have hm : t ∈ [9, 22] := by simpa using Array.mem_of_getElem? ht
        have hall : ([9, 22].all fun u => !Tryd.prog.wantsStandIn u) = true := by kernel_rfl
        exact (show Tryd.prog.wantsStandIn t = false by simpa using List.all_eq_true.1 hall t hm)⟩)
    (by kernel_rfl)
end Go.Proofs.YtmfibmcmbbelgaaDoor.scanNever
