/-
  The contract of the document's Print: any number's text.
-/
import Derived.Test.YtchngbdkgfjpcaaDoorBytesOwn
import Derived.Test.YtchngbdkgfjpcaaDoorRef4Read
namespace Go.Proofs.YtchngbdkgfjpcaaDoor
open Go.RowKit Go.Shelf

theorem dg_low (S : Nat) (h : 0 < (dg S).length) : (dg S).getD 0 0 = S % 65536 ∧ val ((dg S).drop 1) = S / 65536 := by
  have h0 : S ≠ 0 := by rintro rfl; rw [dg_zero] at h; simp at h
  rw [dg_pos S h0]
  exact ⟨rfl, by show val (dg (S / 65536)) = _; rw [val_dg]⟩
theorem row_cell {a : Option Addr} {zs : List Nat} {w : World} (h : Row a zs w) (i : Nat) (hi : i < zs.length) : ∃ b off : Nat, a = some ⟨b, off, none⟩ ∧ w.cell? ⟨b, off + i, none⟩ = some (.int .i64 (zs.getD i 0 : Nat)) := by
  rcases h with h | ⟨b, off, ha, _, hc⟩
  · subst h; simp at hi
  · exact ⟨b, off, ha, hc i hi⟩
def UpPInv (S : Nat) (s5 s6 : Value) : Prop :=
  ∃ (k T : Nat), k ≤ (dg S).length ∧ s6 = .int .i64 ((k : Int) - 1) ∧ s5 = .int .u64 (T : Int) ∧ T ≤ 9223372036854775808 ∧ Hid (T = val ((dg S).drop k)) ∧ (0 < (dg S).length → 1 ≤ k)
def WholeInv (w : World) (q : Nat) (s5 s8 : Value) (wr : World) : Prop :=
  ∃ (m : Nat) (t : List UInt8), s5 = .int .u64 (m : Int) ∧ s8 = .string ⟨t.toArray⟩ ∧ t.length + m ≤ 140737488355328 ∧ Hid (digL q = digL m ++ t) ∧ Below w.heap.size w wr
def RestInv (w : World) (TT : List UInt8) (s3 s7 : Value) (wr : World) : Prop :=
  ∃ (r : Nat) (l : List UInt8), r < 65536 ∧ s7 = .int .i64 (r : Int) ∧ s3 = .string ⟨l.toArray⟩ ∧ Hid (l ++ frac 16 r = TT) ∧ l.length ≤ 1000000000000000000 ∧ l.length + (frac 16 r).length ≤ 1000000000000000000 ∧ Below w.heap.size w wr

set_option maxHeartbeats 4000000 in
set_option maxRecDepth 100000 in
theorem rprint_any (v : Int) (hv : I64 v) (w : World) : Calls Tryd.prog 35 #[.int .i64 v] w fun e w' => e = .returned (.string ⟨(printL (decide (v < 0)) v.natAbs).toArray⟩) ∧ Below w.heap.size w w' := by
  have OF := Lib.hid (of_any v w hv)
  have hSb : v.natAbs ≤ 9223372036854775808 := by have := hv.1; have := hv.2; omega
  clear hv
  obtain ⟨S, hS⟩ : ∃ S : Nat, S = v.natAbs := ⟨_, rfl⟩
  obtain ⟨neg, hneg⟩ : ∃ neg : Bool, neg = decide (v < 0) := ⟨_, rfl⟩
  rw [← hS, ← hneg] at OF
  rw [← hS] at hSb
  rw [← hS, ← hneg]
  clear hS hneg
  go_enter Tryd.func35, Tryd.ntmps35
  go_wp2_with fail
  refine OF.out.mono ?_
  rintro e w1 ⟨a, cap, rfl, hr, hc1, hc2, hb⟩
  have lds : (dg S).length ≤ 4 := dg_length 4 S (by omega)
  go_upto_if 12 with fail
  have tx := (Below.refl w1.heap.size w1).alloc (Nat.le_refl _) (.cells #[.bool neg, .slice a (dg S).length cap] 79)
  have NX := Lib.hid (NumAt.new w1 neg (.slice a (dg S).length cap))
  have RX := Lib.hid (hr.below tx (Nat.le_refl _))
  have BX := Lib.hid (hb.trans (tx.mono hb.size))
  clear tx hr hb OF hc1 hc2
  generalize w1.alloc (.cells #[.bool neg, .slice a (dg S).length cap] 79) = wx at *
  generalize w1.heap.size = xb at *
  go_cut [3] (fun s3 wc => s3 = .string ⟨(signL neg).toArray⟩ ∧ wx = wc)
  case first =>
    cases neg
    · go_wp2_with fail
      go_meet
      exact ⟨rfl, rfl⟩
    · go_wp2_with fail
      go_meet
      exact ⟨rfl, rfl⟩
  case rest =>
    obtain ⟨rfl, rfl⟩ := hcut
    have nx1 := NX.out.c1
    clear NX
    have sl : (signL neg).length ≤ 1 := by cases neg <;> simp [signL]
    have PT := Lib.hid (show signL neg ++ (digL (S / 65536) ++ ptL (decide (S % 65536 ≠ 0)) (frac 16 (S % 65536))) = printL neg S from rfl)
    go_upto_block 0 with fail
    go_cut [5] (fun s5 wc => s5 = .int .u64 ((S / 65536 : Nat) : Int) ∧ wx = wc)
    case first =>
      go_wp2_with fail
      go_loop [5, 6] (fun s5 s6 => UpPInv S s5 s6) (fun _ s6 => (intOf s6).toNat)
      case atStart => exact ⟨(dg S).length, 0, Nat.le_refl _, rfl, rfl, by omega, Lib.hid (by rw [List.drop_of_length_le (Nat.le_refl _)]; rfl), fun h => h⟩
      case round =>
        obtain ⟨k, T, hk, rfl, rfl, hT, hv, hp⟩ := hrel
        by_cases h1 : 2 ≤ k
        · obtain ⟨j, rfl⟩ : ∃ j, k = j + 1 := ⟨k - 1, by omega⟩
          rw [show ((j + 1 : Nat) : Int) - 1 = (j : Int) from by omega]
          obtain ⟨b, off, rfl, hcell⟩ := row_cell RX.out j (by omega)
          have hd : (dg S).getD j 0 < 65536 := small_get (small_dg S) j
          have ev : val ((dg S).drop j) = (dg S).getD j 0 + 65536 * T := by
            rw [val_drop (dg S) j (by omega), hv.out]
          have el := val_drop_le (dg S) j
          rw [val_dg, ev] at el
          have EV := Lib.hid ev
          clear ev hv
          generalize (dg S).getD j 0 = d at *
          have g0 : (0 : Int) < (j : Int) := by omega
          have m1 : IntKind.u64.wrap ((T : Int) * 65536) = (T : Int) * 65536 := IntWalk.u64_in _ (by omega)
          have m2 : IntKind.u64.wrap (d : Int) = (d : Int) := IntWalk.u64_in _ (by omega)
          have m3 : IntKind.u64.wrap ((T : Int) * 65536 + (d : Int)) = ((d + 65536 * T : Nat) : Int) := by rw [IntWalk.u64_in _ (by omega)]; omega
          have m4 : IntKind.i64.wrap ((j : Int) - 1) = (j : Int) - 1 := IntWalk.i64_in _ (by omega)
          have hj : j < (dg S).length := by omega
          go_wp2_with fail
          go_round
          case rel => exact ⟨j, d + 65536 * T, by omega, by first | rfl | (congr 1; omega), by first | rfl | (congr 1; omega), by omega, Lib.hid EV.out.symm, fun _ => by omega⟩
          case measure => simp [intOf]; omega
        · have e : T = S / 65536 := by
            by_cases h0 : 0 < (dg S).length
            · have hk1 : k = 1 := by have := hp h0; omega
              rw [hv.out, hk1]; exact (dg_low S h0).2
            · have hz : dg S = [] := List.length_eq_zero_iff.1 (by omega)
              rw [hv.out, hz]
              have : S = 0 := (dg_nil S).1 hz
              subst this
              simp [val]
          subst e
          have g0 : ¬ (0 : Int) < (k : Int) - 1 := by omega
          clear hv hp
          go_wp2_with fail
          go_meet
          exact ⟨rfl, rfl⟩
    case rest =>
      obtain ⟨rfl, rfl⟩ := hcut
      go_upto_if 33 with fail
      go_cut [7] (fun s7 wc => s7 = .int .i64 ((S % 65536 : Nat) : Int) ∧ wx = wc)
      case first =>
        by_cases h0 : 0 < (dg S).length
        · obtain ⟨b, off, rfl, hcell⟩ := row_cell RX.out 0 h0
          rw [(dg_low S h0).1, Nat.add_zero] at hcell
          go_wp2_with fail
          go_meet
          exact ⟨rfl, rfl⟩
        · have hz : dg S = [] := List.length_eq_zero_iff.1 (by omega)
          obtain rfl : S = 0 := (dg_nil S).1 hz
          rw [hz] at *
          go_wp2_with fail
          go_meet
          exact ⟨rfl, rfl⟩
      case rest =>
        obtain ⟨rfl, rfl⟩ := hcut
        clear RX nx1 lds
        have q1 : S / 65536 ≤ 140737488355328 := by omega
        have r1 : S % 65536 < 65536 := Nat.mod_lt _ (by decide)
        have dl : (digL (S / 65536)).length ≤ 20 := digL_len (S / 65536) 19 (by omega)
        generalize S / 65536 = q at *
        generalize S % 65536 = r at *
        go_upto_block 2 with fail
        go_cut [8] (fun s8 wc => s8 = .string ⟨(digL q).toArray⟩ ∧ Below w.heap.size w wc)
        case first =>
          go_wp2_with fail
          go_loopw [5, 8] (fun s5 s8 wr => WholeInv w q s5 s8 wr) (fun s5 _ _ => (intOf s5).toNat)
          case atStart => exact ⟨q, [], rfl, rfl, by simpa using q1, Lib.hid (by simp), BX.out⟩
          case round =>
            obtain ⟨m, t, rfl, rfl, ht, hd, hb⟩ := hrel
            have HD := hd
            have HB := Lib.hid hb
            clear hd hb
            have e1 : (m : Int).tmod 10 = ((m % 10 : Nat) : Int) := rfl
            have e2 : (m : Int).tdiv 10 = ((m / 10 : Nat) : Int) := rfl
            have l1 : m % 10 < 10 := Nat.mod_lt _ (by decide)
            have l2 : m / 10 ≤ m := Nat.div_le_self _ _
            have l3 : m / 10 ≠ 0 → m / 10 < m := by omega
            have hn := db_nat m
            have S1 := Lib.hid (digL_step m)
            have S2 := Lib.hid (digL_last m)
            generalize m % 10 = c at *
            generalize m / 10 = mq at *
            have e3 : IntKind.u64.wrap (48 + (c : Int)) = 48 + (c : Int) := IntWalk.u64_in _ (by omega)
            have e4 : IntKind.u8.wrap (48 + (c : Int)) = 48 + (c : Int) := IntWalk.u8_in _ (by omega)
            have e5 := one_byte (db m) (48 + (c : Int)) (by rw [hn]; omega) wr
            have e6 := fun W => cat_run [db m] t W (by simp; omega)
            generalize db m = d at *
            have e7 : IntKind.u64.wrap (mq : Int) = (mq : Int) := IntWalk.u64_in _ (by omega)
            have e8 : IntKind.u64.wrap (c : Int) = (c : Int) := IntWalk.u64_in _ (by omega)
            clear hn l1
            have B' := Lib.hid (HB.out.alloc HB.out.size (.cells #[.int .u8 (48 + (c : Int))] 5))
            by_cases h0 : mq = 0
            · subst h0
              go_wp2_with fail
              go_meet
              exact ⟨by rw [HD.out, S2.out trivial]; rfl, B'.out⟩
            · have h0' : ((mq : Int) == 0) = false := by rw [beq_eq_false_iff_ne]; omega
              have l4 := l3 h0
              go_wp2_with fail
              go_roundw
              case rel => exact ⟨mq, d :: t, rfl, rfl, by simp; omega, Lib.hid (by rw [HD.out, S1.out h0]; simp), B'.out⟩
              case measure => simp [intOf]; omega
        case rest =>
          obtain ⟨rfl, hb⟩ := hcut
          have HB := Lib.hid hb
          clear hb BX
          have s1 := fun W => cat_run (signL neg) (digL q) W (by omega)
          have lp : (signL neg ++ digL q).length ≤ 30 := by simp only [List.length_append]; omega
          have PT2 := Lib.hid (show (signL neg ++ digL q) ++ (if r = 0 then [] else [46]) ++ frac 16 r = printL neg S from by
            rw [← PT.out]
            by_cases h0 : r = 0
            · subst h0; rw [frac_zero]; simp [ptL]
            · rw [if_neg h0, decide_eq_true h0]; simp [ptL])
          clear PT
          obtain ⟨TT, hTT⟩ : ∃ TT, Hid (printL neg S = TT) := ⟨_, Lib.hid rfl⟩
          rw [hTT.out] at PT2
          generalize signL neg ++ digL q = p0 at *
          have s2 := fun W => cat_run p0 [46] W (by simp; omega)
          go_upto_if 54 with fail
          go_cut [3] (fun s3 wd => s3 = .string ⟨(p0 ++ (if r = 0 then [] else [46])).toArray⟩ ∧ wc = wd)
          case first =>
            by_cases h0 : r = 0
            · subst h0
              go_wp2_with fail
              go_meet
              exact ⟨by simp, rfl⟩
            · have h1 : (0 : Int) < (r : Int) := by omega
              go_wp2_with fail
              go_meet
              exact ⟨by rw [if_neg h0], rfl⟩
          case rest =>
            obtain ⟨rfl, rfl⟩ := hcut
            have lq : (p0 ++ (if r = 0 then [] else [46])).length ≤ 31 := by
              simp only [List.length_append]
              split <;> simp <;> omega
            generalize p0 ++ (if r = 0 then [] else [46]) = l0 at *
            clear s1 s2 lp dl q1 sl hSb
            go_wp2_with fail
            go_loopw [3, 7] (fun s3 s7 wr => RestInv w TT s3 s7 wr) (fun _ s7 _ => (frac 16 (natU8 s7)).length)
            case atStart => exact ⟨r, l0, r1, rfl, rfl, PT2, by omega, by have := frac_len 16 r; omega, HB.out⟩
            case round =>
              clear PT2 lq HB
              obtain ⟨r', l, hr, rfl, rfl, hF, hl, hl2, hb⟩ := hrel
              have HB := Lib.hid hb
              clear hb
              by_cases h0 : r' = 0
              · subst h0
                have el : l = TT := by have := hF.out; rwa [frac_zero, List.append_nil] at this
                subst el
                clear hF
                go_wp2_with fail
                go_ret
                exact ⟨by rw [hTT.out]; rfl, HB.out⟩
              · have FS := Lib.hid (frac_step r' hr h0)
                have h1 : (0 : Int) < (r' : Int) := by omega
                have hb := fb_nat r' hr
                have m1 : IntKind.i64.wrap ((r' : Int) * 10) = ((10 * r' : Nat) : Int) := by rw [IntWalk.i64_in _ (by omega)]; omega
                have m2 : ((10 * r' : Nat) : Int).tdiv 65536 = ((10 * r' / 65536 : Nat) : Int) := rfl
                have m3 : ((10 * r' : Nat) : Int).tmod 65536 = ((10 * r' % 65536 : Nat) : Int) := rfl
                have q9 : 10 * r' / 65536 ≤ 9 := by omega
                have rl : 10 * r' % 65536 < 65536 := Nat.mod_lt _ (by decide)
                generalize UInt8.ofNat (48 + 10 * r' / 65536) = b at *
                generalize 10 * r' / 65536 = q' at *
                generalize 10 * r' % 65536 = r2 at *
                have x9 : 10 * r' ≤ 655350 := by omega
                generalize 10 * r' = x at *
                have fl := congrArg List.length FS.out
                simp only [List.length_cons] at fl
                have m4 : IntKind.i64.wrap (q' : Int) = (q' : Int) := IntWalk.i64_in _ (by omega)
                have m5 : IntKind.i64.wrap (48 + (q' : Int)) = 48 + (q' : Int) := IntWalk.i64_in _ (by omega)
                have m6 : IntKind.u8.wrap (48 + (q' : Int)) = 48 + (q' : Int) := IntWalk.u8_in _ (by omega)
                have m7 : IntKind.i64.wrap (r2 : Int) = (r2 : Int) := IntWalk.i64_in _ (by omega)
                have e5 := one_byte b (48 + (q' : Int)) (by rw [hb]; omega) wr
                have e6 := fun W => cat_run l [b] W (by simp; omega)
                have B' := Lib.hid (HB.out.alloc HB.out.size (.cells #[.int .u8 (48 + (q' : Int))] 5))
                go_wp2_with fail
                go_roundw
                case rel => exact ⟨r2, l ++ [b], rl, rfl, rfl, Lib.hid (by rw [← hF.out, FS.out]; simp), by simp; omega, by simp; omega, B'.out⟩
                case measure => simp only [natU8, Int.toNat_natCast]; omega
end Go.Proofs.YtchngbdkgfjpcaaDoor
