/-
  The contract of package dec's Print: any number's text.
-/
import Derived.Test.YtchngbdkgfjpcaaDoorBytesOwn
namespace Go.Proofs.YtchngbdkgfjpcaaDoor
open Go.RowKit Go.Shelf

theorem appendUint_any (B n u : Nat) (hu64 : u < 18446744073709551616) (sv : Value) (xs : List Value) (w : World) (hown : w.ownsRow B 5 1 sv n xs) (hBw : B ≤ w.heap.size) (hlim : n ≤ 1000) (htab : Lib.TabIs Tryd.prog w "internal/strconv.uint64pow10" .u64 Lib.pow10Tab) :
    Calls Tryd.prog 60 #[sv, .int .u64 (u : Int), .int .i64 10] w fun e w' => ∃ v', e = .returned v' ∧ w'.ownsRow B 5 1 v' (n + (digL u).length) (xs ++ Lib.byteCells (digL u)) ∧ Below B w w' := by
  have A : Calls Tryd.prog 74 #[sv, .int .u64 (u : Int), .int .i64 10] w fun e w' => ∃ v', e = .returned v' ∧ w'.ownsRow B 5 1 v' (n + (Lib.decDigits u).length) (xs ++ Lib.byteCells (Lib.decDigits u)) ∧ Below B w w' ∧ Lib.OthersKept 5 none w w' := by
    by_cases h : u < 100
    · exact Any.internal_strconv_AppendUint_10_small Tryd.laysM288 B n u h sv xs w hown hBw (by omega)
    · exact Any.internal_strconv_AppendUint_10_big Tryd.laysM288 B n u (by omega) hu64 sv xs w hown hBw (by omega) htab
  rw [digL_dec] at A
  have HA := Lib.hid A
  clear A
  go_enter Tryd.func60, Tryd.ntmps60
  go_wp2_with fail
  refine HA.out.mono ?_
  rintro e w1 ⟨v', rfl, h1, h2, _⟩
  go_wp2_with fail
  go_ret
  exact ⟨v', rfl, h1, h2⟩

theorem gN_pow : 3 < gN := of_decide_eq_true (by kernel_rfl)
theorem tab_below {w w' : World} {B : Nat} (h : Lib.TabIs Tryd.prog w "internal/strconv.uint64pow10" .u64 Lib.pow10Tab) (t : Below B w w') (hB : 3 < B) : Lib.TabIs Tryd.prog w' "internal/strconv.uint64pow10" .u64 Lib.pow10Tab := by
  unfold Lib.TabIs World.var? at *
  rw [show Tryd.prog.globalNamed "internal/strconv.uint64pow10" = some 3 by kernel_rfl] at h ⊢
  simp only [Option.bind_some] at h ⊢
  rw [t.block 3 hB]; exact h
def PrintInv (w : World) (TT : List UInt8) (s4 s5 : Value) (wr : World) : Prop :=
  ∃ (r : Nat) (l : List UInt8), r < 65536 ∧ s5 = .int .u64 (r : Int) ∧ Text w l s4 wr ∧ Hid (l ++ frac 16 r = TT) ∧ l.length + (frac 16 r).length ≤ 1000
set_option maxHeartbeats 2000000 in
set_option maxRecDepth 100000 in
theorem print_any (v : Int) (hv : I64 v) (w : World) (hsz : gN ≤ w.heap.size) (htab : Lib.TabIs Tryd.prog w "internal/strconv.uint64pow10" .u64 Lib.pow10Tab) :
    Calls Tryd.prog 50 #[.int .i64 v] w fun e w' => e = .returned (.string ⟨(printL (decide (v < 0)) v.natAbs).toArray⟩) ∧ Below w.heap.size w w' := by
  have HT := Lib.hid htab
  clear htab
  obtain ⟨v0, v1⟩ := hv
  obtain ⟨S, hS⟩ : ∃ S : Nat, S = v.natAbs := ⟨_, rfl⟩
  obtain ⟨neg, hneg⟩ : ∃ neg : Bool, neg = decide (v < 0) := ⟨_, rfl⟩
  rw [← hS, ← hneg]
  go_enter Tryd.func50, Tryd.ntmps50
  go_upto_if 9 with fail
  go_cut [3, 4] (fun s3 s4 wc => s3 = .int .u64 (S : Int) ∧ Text w (signL neg) s4 wc)
  case first =>
    by_cases hlt : v < 0
    · rw [decide_eq_true hlt] at hneg
      subst hneg
      have u1 : IntKind.u64.wrap v = v + 18446744073709551616 := by rw [IntKind.wrap_u64]; omega
      have u2 : IntKind.u64.wrap (-(v + 18446744073709551616)) = (S : Int) := by rw [IntKind.wrap_u64]; omega
      go_wp2_with (first | (at_builtin; refine append_byte _ rfl (.tmp 12) (.tmp 13) rfl _ (World.ownsRow_nil w w.heap.size 5 1) rfl rfl (by omega) (Nat.le_refl _) ?_; intro v' w1 hown' hb'))
      go_meet
      exact ⟨by rw [hS], hown', hb'⟩
    · rw [decide_eq_false hlt] at hneg
      subst hneg
      have u1 : IntKind.u64.wrap v = (S : Int) := by rw [IntKind.wrap_u64]; omega
      go_wp2_with fail
      go_meet
      exact ⟨by rw [hS], World.ownsRow_nil _ _ _ _, Below.refl _ _⟩
  case rest =>
    obtain ⟨rfl, ht⟩ := hcut
    have hSb : S ≤ 9223372036854775808 := by omega
    clear hS hneg v0 v1
    have e1 : (S : Int).tdiv 65536 = ((S / 65536 : Nat) : Int) := rfl
    have e2 : (S : Int).tmod 65536 = ((S % 65536 : Nat) : Int) := rfl
    have q1 : S / 65536 ≤ 140737488355328 := by omega
    have r1 : S % 65536 < 65536 := Nat.mod_lt _ (by decide)
    have PT := Lib.hid (show signL neg ++ (digL (S / 65536) ++ ptL (decide (S % 65536 ≠ 0)) (frac 16 (S % 65536))) = printL neg S from rfl)
    have sl : (signL neg).length ≤ 1 := by cases neg <;> simp [signL]
    have dl : (digL (S / 65536)).length ≤ 20 := digL_len (S / 65536) 19 (by omega)
    have dp := digL_pos (S / 65536)
    have AU := Lib.hid (appendUint_any w.heap.size (signL neg).length (S / 65536) (by omega) _ (Lib.byteCells (signL neg)) _ ht.1 ht.2.size (by omega) (tab_below HT.out ht.2 (Nat.lt_of_lt_of_le gN_pow hsz)))
    generalize S / 65536 = q at *
    generalize S % 65536 = r at *
    have u1 : IntKind.u64.wrap (q : Int) = (q : Int) := IntWalk.u64_in _ (by omega)
    have HB0 := Lib.hid ht.2
    clear ht
    have u2 : IntKind.u64.wrap (r : Int) = (r : Int) := IntWalk.u64_in _ (by omega)
    go_wp2_with fail
    refine AU.out.mono ?_
    rintro e w2 ⟨v2, rfl, own2, b2⟩
    have T2 := Lib.hid (show Text w (signL neg ++ digL q) v2 w2 from ⟨by rw [bytes_append, List.length_append]; exact own2, HB0.out.trans b2⟩)
    clear AU own2 b2 HB0 HT
    go_upto_if 22 with fail
    go_cut [4] (fun s4 wc => Text w (signL neg ++ digL q ++ (if r = 0 then [] else [46])) s4 wc)
    case first =>
      by_cases h0 : r = 0
      · subst h0
        go_wp2_with fail
        go_meet
        rw [if_pos trivial, List.append_nil]
        exact T2.out
      · have h1 : (0 : Int) < (r : Int) := by omega
        have own := T2.out.1
        have hB := T2.out.2.size
        go_wp2_with (first | (at_builtin; refine append_byte _ rfl (.tmp 23) (.tmp 24) rfl _ own rfl rfl (by simp; omega) hB ?_; intro v' w1 hown' hb'))
        go_meet
        rw [if_neg h0]
        exact T2.out.one hown' hb' rfl
    case rest =>
      have T3 := Lib.hid hcut
      clear hcut T2
      have PT2 := Lib.hid (show (signL neg ++ digL q ++ (if r = 0 then [] else [46])) ++ frac 16 r = printL neg S from by
        rw [← PT.out]
        by_cases h0 : r = 0
        · subst h0; rw [frac_zero]; simp [ptL]
        · rw [if_neg h0, decide_eq_true h0]; simp [ptL])
      have LL : (signL neg ++ digL q ++ (if r = 0 then [] else [46])).length ≤ 30 := by
        simp only [List.length_append]
        split <;> simp <;> omega
      have NE := Lib.hid (show printL neg S ≠ [] from by
        rw [← PT.out]
        intro e
        have h1 := congrArg List.length e
        rw [List.length_append, List.length_append, List.length_nil] at h1
        omega)
      obtain ⟨TT, hTT⟩ : ∃ TT, Hid (printL neg S = TT) := ⟨_, Lib.hid rfl⟩
      rw [hTT.out] at PT2 NE
      generalize signL neg ++ digL q ++ (if r = 0 then [] else [46]) = l0 at *
      clear PT dl dp sl q1 e1 e2 u1 u2 hSb
      go_wp2_with fail
      go_loopw [4, 5] (fun s4 s5 wr => PrintInv w TT s4 s5 wr) (fun _ s5 _ => (frac 16 (natU8 s5)).length)
      case atStart => exact ⟨r, l0, r1, rfl, T3.out, PT2, by have := frac_len 16 r; omega⟩
      case round =>
        clear T3 PT2 LL
        obtain ⟨r', l, hr, rfl, ht, hF, hl⟩ := hrel
        have HT := Lib.hid ht
        clear ht
        by_cases h0 : r' = 0
        · subst h0
          have el : l = TT := by have := hF.out; rwa [frac_zero, List.append_nil] at this
          subst el
          have cv := text_of_own HT.out.1 NE.out
          have FB := Lib.hid HT.out.2
          clear HT hF NE
          go_wp2_with fail
          go_ret
          exact ⟨by rw [hTT.out]; rfl, FB.out⟩
        · have FS := Lib.hid (frac_step r' hr h0)
          have h1 : (0 : Int) < (r' : Int) := by omega
          have hb := fb_nat r' hr
          have m1 : IntKind.u64.wrap ((r' : Int) * 10) = ((10 * r' : Nat) : Int) := by rw [IntWalk.u64_in _ (by omega)]; omega
          have m2 : ((10 * r' : Nat) : Int).tdiv 65536 = ((10 * r' / 65536 : Nat) : Int) := rfl
          have m3 : ((10 * r' : Nat) : Int).tmod 65536 = ((10 * r' % 65536 : Nat) : Int) := rfl
          have q9 : 10 * r' / 65536 ≤ 9 := by omega
          have rl : 10 * r' % 65536 < 65536 := Nat.mod_lt _ (by decide)
          generalize UInt8.ofNat (48 + 10 * r' / 65536) = b at *
          generalize 10 * r' / 65536 = q' at *
          generalize 10 * r' % 65536 = r2 at *
          have x9 : 10 * r' ≤ 655350 := by omega
          generalize 10 * r' = x at *
          have m4 : IntKind.u64.wrap (q' : Int) = (q' : Int) := IntWalk.u64_in _ (by omega)
          have m5 : IntKind.u8.wrap (q' : Int) = (q' : Int) := IntWalk.u8_in _ (by omega)
          have m6 : IntKind.u8.wrap (48 + (q' : Int)) = 48 + (q' : Int) := IntWalk.u8_in _ (by omega)
          have m7 : IntKind.u64.wrap (r2 : Int) = (r2 : Int) := IntWalk.u64_in _ (by omega)
          have own := HT.out.1
          have hB := HT.out.2.size
          go_wp2_with (first | (at_builtin; refine append_byte _ rfl (.tmp 30) (.tmp 35) rfl _ own rfl rfl (by omega) hB ?_; intro v' w1 hown' hb'))
          go_roundw
          case rel => exact ⟨r2, l ++ [b], rl, rfl, HT.out.one hown' hb' (by omega), Lib.hid (by rw [← hF.out, FS.out]; simp), by have := congrArg List.length FS.out; simp at this; simp; omega⟩
          case measure => simp only [natU8, Int.toNat_natCast]; rw [FS.out]; simp
end Go.Proofs.YtchngbdkgfjpcaaDoor
