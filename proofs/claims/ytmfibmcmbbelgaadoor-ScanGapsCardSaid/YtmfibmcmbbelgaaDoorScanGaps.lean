/-
  PROVED: the statement of ScanGaps, for every input: of any text of blanks and commas the whole is gone through gap by gap, as many as there are commas, or one more where the last one has none. No conditions but what the row lists: package variables as the program's text lays them.
-/
import Derived.Test.YtmfibmcmbbelgaaDoorScanWakes
import Derived.Test.YtmfibmcmbbelgaaDoorScanLaid
import Derived.Test.YtmfibmcmbbelgaaDoorRowK
import Derived.Test.YtmfibmcmbbelgaaDoorDigL
namespace Go.Proofs.YtmfibmcmbbelgaaDoor.scanGaps
open Go.ChangeShapes Go.WideShapes Go.ChangeAt Go.RowKit Go.Shelf

/-- Blanks and commas alone. -/
def AllBC (l : List UInt8) : Prop := ∀ b ∈ l, isBl b = true ∨ isCm b = true
/-- How many commas. -/
def cnt : List UInt8 → Nat
  | [] => 0
  | b :: t => (if isCm b then 1 else 0) + cnt t
theorem cnt_snoc (l : List UInt8) (b : UInt8) : cnt (l ++ [b]) = cnt l + (if isCm b then 1 else 0) := by
  induction l with
  | nil => simp [cnt]
  | cons c t ih => simp only [List.cons_append, cnt, ih]; omega
theorem cnt_le (l : List UInt8) : cnt l ≤ l.length := by
  induction l with
  | nil => exact Nat.le_refl _
  | cons b t ih => unfold cnt; split <;> simp <;> omega
/-- How many gaps. -/
def gaps (l : List UInt8) : Nat := if cnt l = 0 then min l.length 1 else cnt l
theorem cnt_head (l : List UInt8) (h : headIs isCm l = true) : cnt l ≠ 0 := by
  cases l with
  | nil => cases h
  | cons b t => have : isCm b = true := h
                simp [cnt, this]
theorem gaps_nil : gaps [] = 0 := rfl
theorem gaps_le (l : List UInt8) : gaps l ≤ l.length := by
  have := cnt_le l
  unfold gaps; split <;> omega
theorem gap1_bc (l : List UInt8) (x : UInt8) (hb : isBl x = false) (hc : isCm x = false) (h : AllBC l) :
    gap 1 (l ++ [x]) ≤ l.length ∧ cnt (l.drop (gap 1 (l ++ [x]))) = cnt l ∧ (l.drop (gap 1 (l ++ [x])) = [] ∨ headIs isCm (l.drop (gap 1 (l ++ [x]))) = true) := by
  induction l with
  | nil => simp [gap, hb, hc]
  | cons b t ih =>
    have ht : AllBC t := fun c hc => h c (List.mem_cons_of_mem _ hc)
    obtain ⟨i1, i2, i3⟩ := ih ht
    rcases h b (List.mem_cons_self) with h1 | h1
    · have e : gap 1 (b :: t ++ [x]) = gap 1 (t ++ [x]) + 1 := by simp [gap, h1, bl_not_cm h1]
      have ec : cnt (b :: t) = cnt t := by simp [cnt, bl_not_cm h1]
      rw [e, List.drop_succ_cons, ec]
      exact ⟨by simp; omega, i2, i3⟩
    · have e : gap 1 (b :: t ++ [x]) = 0 := by simp [gap, h1]
      rw [e]
      exact ⟨Nat.zero_le _, rfl, Or.inr h1⟩
theorem gap0_bc (l : List UInt8) (x : UInt8) (hb : isBl x = false) (hc : isCm x = false) (h : AllBC l) :
    gap 0 (l ++ [x]) ≤ l.length ∧ (cnt l = 0 → gap 0 (l ++ [x]) = l.length) ∧ (cnt l ≠ 0 → cnt (l.drop (gap 0 (l ++ [x]))) + 1 = cnt l ∧ (l.drop (gap 0 (l ++ [x])) = [] ∨ headIs isCm (l.drop (gap 0 (l ++ [x]))) = true)) := by
  induction l with
  | nil => simp [gap, hb, hc, cnt]
  | cons b t ih =>
    have ht : AllBC t := fun c hc => h c (List.mem_cons_of_mem _ hc)
    rcases h b (List.mem_cons_self) with h1 | h1
    · obtain ⟨i1, i2, i3⟩ := ih ht
      have e : gap 0 (b :: t ++ [x]) = gap 0 (t ++ [x]) + 1 := by simp [gap, h1, bl_not_cm h1]
      have ec : cnt (b :: t) = cnt t := by simp [cnt, bl_not_cm h1]
      rw [e, List.drop_succ_cons, ec]
      exact ⟨by simp; omega, fun hz => by rw [i2 hz]; simp, i3⟩
    · obtain ⟨i1, i2, i3⟩ := gap1_bc t x hb hc ht
      have e : gap 0 (b :: t ++ [x]) = gap 1 (t ++ [x]) + 1 := by simp [gap, h1]
      have ec : cnt (b :: t) = cnt t + 1 := by simp [cnt, h1]; omega
      rw [e, List.drop_succ_cons, ec]
      exact ⟨by simp; omega, fun hz => by omega, fun _ => ⟨by omega, i3⟩⟩
/-- One gap further. -/
theorem gaps_step (l : List UInt8) (x : UInt8) (hb : isBl x = false) (hc : isCm x = false) (h : AllBC l) (hl : l ≠ []) :
    0 < gap 0 (l ++ [x]) ∧ gap 0 (l ++ [x]) ≤ l.length ∧ gaps (l.drop (gap 0 (l ++ [x]))) + 1 = gaps l := by
  obtain ⟨i1, i2, i3⟩ := gap0_bc l x hb hc h
  have hp : 0 < l.length := List.length_pos_iff.2 hl
  by_cases h0 : cnt l = 0
  · have e := i2 h0
    rw [e, List.drop_length]
    refine ⟨hp, Nat.le_refl _, ?_⟩
    rw [gaps_nil]
    unfold gaps
    rw [if_pos h0]
    omega
  · obtain ⟨j1, j2⟩ := i3 h0
    refine ⟨?_, i1, ?_⟩
    · refine Nat.pos_of_ne_zero fun hz => ?_
      rw [hz, List.drop_zero] at j1
      omega
    · have e : gaps l = cnt l := by unfold gaps; rw [if_neg h0]
      rw [e]
      generalize l.drop (gap 0 (l ++ [x])) = r at *
      rcases j2 with rfl | j2
      · rw [gaps_nil]; exact j1
      · unfold gaps; rw [if_neg (cnt_head r j2)]; exact j1
theorem pk_x (t : List UInt8) : pk (⟨(t ++ [120]).toArray⟩ : ByteArray) t.length = 120 := by
  have hin : t.length < (⟨(t ++ [120]).toArray⟩ : ByteArray).size := by simp [ByteArray.size]
  rw [pk_in hin]
  show ((t ++ [120]).toArray[t.length]'(by simp)).toNat = 120
  simp
theorem gap_x : gap 0 [120] = 0 := by decide

/-- The text so far. -/
def Inv1 (n : Nat) (w : World) (s3 s4 s19 : Value) (wr : World) : Prop :=
  ∃ (i : Nat) (t : List UInt8), i ≤ n ∧ t.length = i ∧ s19 = .int .i64 (i : Int) ∧ s3 = .string ⟨t.toArray⟩ ∧ s4 = .int .i64 (cnt t : Int) ∧ AllBC t ∧ Below w.heap.size w wr
theorem Inv1.next {n : Nat} {w wr : World} {i : Nat} {t : List UInt8} (c : UInt8) (v : Int) (hi : i < n) (ht : t.length = i) (ha : AllBC t) (hc : isBl c = true ∨ isCm c = true) (hv : v = (cnt t : Int) + (if isCm c then 1 else 0)) (hb : Below w.heap.size w wr) (j : Int) (hj : j = (i : Int) + 1) :
    Inv1 n w (.string ⟨(t ++ [c]).toArray⟩) (.int .i64 v) (.int .i64 j) wr := by
  subst hv hj
  refine ⟨i + 1, t ++ [c], hi, by simp [ht], by simp, rfl, ?_, ?_, hb⟩
  · rw [cnt_snoc]; split <;> simp
  · intro b hb
    rcases List.mem_append.1 hb with hb | hb
    · exact ha b hb
    · rw [List.mem_singleton.1 hb]; exact hc
/-- Gap by gap. -/
def Inv2 (t : List UInt8) (g : Nat) (w : World) (s9 : Value) (wr : World) : Prop :=
  ∃ k n : Nat, k ≤ t.length ∧ s9 = .int .i64 (n : Int) ∧ n ≤ t.length ∧ Rdr g ⟨(t ++ [120]).toArray⟩ k wr ∧ Below w.heap.size w wr ∧ Hid (gaps (t.drop k) + n = gaps t)

set_option maxHeartbeats 4000000 in
set_option maxRecDepth 100000 in
theorem walk (a : Option Addr) (zs : List Int) (cap : Nat) (hl : zs.length ≤ maxLen) (hz : ∀ z ∈ zs, (Lit.int .u8 z).wf = true) (w : World) (hI : IntsK .u8 a zs w) (T : STabs w) :
    Calls Tryd.prog 4 #[.slice a zs.length cap] w fun e w' => e = .returned (.bool true) ∧ Below w.heap.size w w' := by
  have K := Lib.hid (wakes5 w T)
  have HT := Lib.hid T
  have HI := Lib.hid hI
  have HZ := Lib.hid hz
  have hl' : zs.length ≤ 9223372036854775807 := hl
  clear T hl hI hz
  by_cases h100 : zs.length ≤ 100
  · have q2 : ¬ (100 : Int) < (zs.length : Int) := by omega
    go_enter Tryd.func4, Tryd.ntmps4
    go_wp2_with fail
    refine K.out.mono ?_
    rintro e w1 ⟨rfl, b1⟩
    have B1 := Lib.hid b1
    clear K b1
    go_wp2_with fail
    go_loopw [3, 4, 19] (fun s3 s4 s19 wr => Inv1 zs.length w s3 s4 s19 wr) (fun _ _ v _ => zs.length - (intOf v).toNat)
    case atStart => exact ⟨0, [], Nat.zero_le _, rfl, rfl, rfl, rfl, (fun b hb => by cases hb), B1.out⟩
    case round =>
      clear B1
      obtain ⟨i, t, hi, ht, rfl, rfl, rfl, hA, hB⟩ := hrel
      have HA := Lib.hid hA
      have B := Lib.hid hB
      clear hA hB
      by_cases hlt : i < zs.length
      · obtain ⟨bb, off, rfl, hbl, hc⟩ := (HI.out.below B.out (Nat.le_refl _)).pos hlt
        have hcell := hc i hlt
        obtain ⟨c, hc1, hc2⟩ := u8_of_wf (HZ.out _ (getD_mem hlt))
        rw [hc1] at hcell
        clear hc hc1
        have er : (c : Int).tmod 5 = ((c % 5 : Nat) : Int) := rfl
        have hr5 : c % 5 = 0 ∨ c % 5 = 1 ∨ c % 5 = 2 ∨ c % 5 = 3 ∨ c % 5 = 4 := by omega
        have hcl := cnt_le t
        have NX := Lib.hid (fun c v hc hv wr hb j hj => Inv1.next (n := zs.length) (w := w) (wr := wr) (i := i) (t := t) c v hlt ht HA.out hc hv hb j hj)
        generalize cnt t = m at *
        have em : IntKind.i64.wrap ((m : Int) + 1) = (m : Int) + 1 := IntWalk.i64_in _ (by omega)
        rcases hr5 with hr | hr | hr | hr | hr
        · rw [hr] at er
          have hx : ∀ h, ((⟨#[32, 9, 10, 13, 44]⟩ : ByteArray)[0]'h).toNat = 32 := fun _ => rfl
          have e5 := one_byte 32 32 rfl wr
          have e6 := fun W => cat_run t [32] W (by simp; omega)
          have B' := Lib.hid (B.out.alloc B.out.size (.cells #[.int .u8 32] 5))
          go_wp2_with fail
          go_roundw
          case rel => exact NX.out 32 _ (Or.inl rfl) (by simp [isCm]) _ B'.out _ rfl
          case measure => simp [intOf]; omega
        · rw [hr] at er
          have hx : ∀ h, ((⟨#[32, 9, 10, 13, 44]⟩ : ByteArray)[1]'h).toNat = 9 := fun _ => rfl
          have e5 := one_byte 9 9 rfl wr
          have e6 := fun W => cat_run t [9] W (by simp; omega)
          have B' := Lib.hid (B.out.alloc B.out.size (.cells #[.int .u8 9] 5))
          go_wp2_with fail
          go_roundw
          case rel => exact NX.out 9 _ (Or.inl rfl) (by simp [isCm]) _ B'.out _ rfl
          case measure => simp [intOf]; omega
        · rw [hr] at er
          have hx : ∀ h, ((⟨#[32, 9, 10, 13, 44]⟩ : ByteArray)[2]'h).toNat = 10 := fun _ => rfl
          have e5 := one_byte 10 10 rfl wr
          have e6 := fun W => cat_run t [10] W (by simp; omega)
          have B' := Lib.hid (B.out.alloc B.out.size (.cells #[.int .u8 10] 5))
          go_wp2_with fail
          go_roundw
          case rel => exact NX.out 10 _ (Or.inl rfl) (by simp [isCm]) _ B'.out _ rfl
          case measure => simp [intOf]; omega
        · rw [hr] at er
          have hx : ∀ h, ((⟨#[32, 9, 10, 13, 44]⟩ : ByteArray)[3]'h).toNat = 13 := fun _ => rfl
          have e5 := one_byte 13 13 rfl wr
          have e6 := fun W => cat_run t [13] W (by simp; omega)
          have B' := Lib.hid (B.out.alloc B.out.size (.cells #[.int .u8 13] 5))
          go_wp2_with fail
          go_roundw
          case rel => exact NX.out 13 _ (Or.inl rfl) (by simp [isCm]) _ B'.out _ rfl
          case measure => simp [intOf]; omega
        · rw [hr] at er
          have hx : ∀ h, ((⟨#[32, 9, 10, 13, 44]⟩ : ByteArray)[4]'h).toNat = 44 := fun _ => rfl
          have e5 := one_byte 44 44 rfl wr
          have e6 := fun W => cat_run t [44] W (by simp; omega)
          have B' := Lib.hid (B.out.alloc B.out.size (.cells #[.int .u8 44] 5))
          go_wp2_with fail
          go_roundw
          case rel => exact NX.out 44 _ (Or.inr rfl) (by simp [isCm]) _ B'.out _ rfl
          case measure => simp [intOf]; omega
      · obtain rfl : i = zs.length := by omega
        clear HI HZ hi hlt
        have e6 := fun W => cat_run t [120] W (by simp; omega)
        have NW := Lib.hid (New_any ⟨(t ++ [120]).toArray⟩)
        have hcl := cnt_le t
        go_wp2_with fail
        refine (NW.out _).mono ?_
        rintro e w2 ⟨rfl, R2, b2⟩
        have hg : w.heap.size ≤ wr.heap.size := B.out.size
        have B2 := Lib.hid (B.out.trans (b2.mono hg))
        have HR2 := Lib.hid R2
        have hgN : gN ≤ w.heap.size := HT.out.tabs.size
        clear B b2 R2 NW e6
        generalize wr.heap.size = g at *
        have hgg : gN ≤ g := by omega
        have sz : (⟨(t ++ [120]).toArray⟩ : ByteArray).size = t.length + 1 := by simp [ByteArray.size]
        have hm : (⟨(t ++ [120]).toArray⟩ : ByteArray).size ≤ maxLen := by rw [sz]; unfold maxLen; omega
        go_wp2_with fail
        go_loopw [9] (fun s9 wr => Inv2 t g w s9 wr) (fun _ wr => t.length - plc g wr)
        case atStart => exact ⟨0, 0, Nat.zero_le _, rfl, Nat.zero_le _, HR2.out, B2.out, Lib.hid rfl⟩
        case round =>
          clear HR2 B2
          obtain ⟨k, n, hk, rfl, hn, R, B, hN⟩ := hrel
          have HR := Lib.hid R
          have HB := Lib.hid B
          have HM := Lib.hid R.plc
          clear R B
          have TT := Lib.hid (HT.out.next HB.out)
          have GA := Lib.hid (fun w (H : Rdr g _ k w) (T : Blks w) => Gap_any g ⟨(t ++ [120]).toArray⟩ k w H hm (by rw [sz]; omega) T hgg)
          have ed : (⟨(t ++ [120]).toArray⟩ : ByteArray).data.toList.drop k = t.drop k ++ [120] := by
            show (t ++ [120]).drop k = _
            rw [List.drop_append, show k - t.length = 0 from by omega]; rfl
          rw [ed] at GA
          by_cases hlt : k < t.length
          · obtain ⟨s1, s2, s3⟩ := gaps_step (t.drop k) 120 rfl rfl (fun b hb => HA.out b (List.mem_of_mem_drop hb)) (by intro e; have := congrArg List.length e; simp at this; omega)
            rw [List.length_drop] at s2
            rw [List.drop_drop] at s3
            rw [decide_eq_true s1] at GA
            generalize gap 0 (t.drop k ++ [120]) = gp at *
            have S3 := Lib.hid s3
            clear s3
            have e1 : IntKind.i64.wrap ((n : Int) + 1) = ((n + 1 : Nat) : Int) := by rw [IntWalk.i64_in _ (by omega)]; omega
            go_wp2_with fail
            refine (GA.out _ HR.out TT.out.blks).mono ?_
            rintro e w3 ⟨rfl, b3, R3⟩
            have B3 := Lib.hid (HB.out.trans (b3.below hg HB.out.size))
            have HR3 := Lib.hid R3
            clear b3 R3
            go_wp2_with fail
            go_roundw
            case rel => exact ⟨k + gp, n + 1, by omega, by go_num, by have := gaps_le t; have := S3.out; have := hN.out; omega, HR3.out, B3.out, Lib.hid (by have := S3.out; have := hN.out; omega)⟩
            case measure => rw [HR3.out.plc, HM.out]; omega
          · obtain rfl : k = t.length := by omega
            rw [List.drop_length, List.nil_append, gap_x, decide_eq_false (by omega)] at GA
            have E := Lib.hid (show n = gaps t by have := hN.out; rw [List.drop_length, gaps_nil] at this; omega)
            have PK := Lib.hid (fun w (H : Rdr g _ t.length w) => Peek_any g ⟨(t ++ [120]).toArray⟩ t.length w H hm (by rw [sz]; omega))
            unfold PeekPost at PK
            have hin : t.length < (⟨(t ++ [120]).toArray⟩ : ByteArray).size := by rw [sz]; omega
            rw [decide_eq_true hin, pk_x t] at PK
            have AT := Lib.hid (fun w (H : Rdr g _ t.length w) => At_any g ⟨(t ++ [120]).toArray⟩ t.length w H)
            have szt : (⟨t.toArray⟩ : ByteArray).size = t.length := by simp [ByteArray.size]
            rw [Nat.add_zero] at GA
            have E2 := E.out
            unfold gaps at E2
            clear E hN sz hm hin ed
            generalize cnt t = m at *
            by_cases h0 : m = 0
            · subst h0
              rw [if_pos rfl] at E2
              go_wp2_with fail
              refine (GA.out _ HR.out TT.out.blks).mono ?_
              rintro e w3 ⟨rfl, b3, R3⟩
              have B3 := Lib.hid (HB.out.trans (b3.below hg HB.out.size))
              have HR3 := Lib.hid R3
              clear b3 R3 HR HB TT
              go_wp2_with fail
              refine (PK.out _ HR3.out).mono ?_
              rintro e w4 ⟨rfl, b4, R4⟩
              have B4 := Lib.hid (B3.out.trans (b4.mono B3.out.size))
              have HR4 := Lib.hid R4
              have TT4 := Lib.hid (HT.out.next B4.out)
              clear b4 R4 B3 HR3
              go_wp2_with fail
              refine (GA.out _ HR4.out TT4.out.blks).mono ?_
              rintro e w5 ⟨rfl, b5, R5⟩
              have B5 := Lib.hid (B4.out.trans (b5.below hg B4.out.size))
              have HR5 := Lib.hid R5
              clear b5 R5 B4 HR4
              go_wp2_with fail
              refine (AT.out _ HR5.out).mono ?_
              rintro e w6 ⟨rfl, rfl⟩
              go_wp2_with fail
              go_ret
              exact ⟨by simp, B5.out⟩
            · rw [if_neg h0] at E2
              subst E2
              have e0 : ((n : Int) == 0) = false := by rw [beq_eq_false_iff_ne]; omega
              have e1 : 0 < (n : Int) := by omega
              go_wp2_with fail
              refine (GA.out _ HR.out TT.out.blks).mono ?_
              rintro e w3 ⟨rfl, b3, R3⟩
              have B3 := Lib.hid (HB.out.trans (b3.below hg HB.out.size))
              have HR3 := Lib.hid R3
              clear b3 R3 HR HB TT
              go_wp2_with fail
              refine (PK.out _ HR3.out).mono ?_
              rintro e w4 ⟨rfl, b4, R4⟩
              have B4 := Lib.hid (B3.out.trans (b4.mono B3.out.size))
              have HR4 := Lib.hid R4
              have TT4 := Lib.hid (HT.out.next B4.out)
              clear b4 R4 B3 HR3
              go_wp2_with fail
              refine (GA.out _ HR4.out TT4.out.blks).mono ?_
              rintro e w5 ⟨rfl, b5, R5⟩
              have B5 := Lib.hid (B4.out.trans (b5.below hg B4.out.size))
              have HR5 := Lib.hid R5
              clear b5 R5 B4 HR4
              go_wp2_with fail
              refine (AT.out _ HR5.out).mono ?_
              rintro e w6 ⟨rfl, rfl⟩
              go_wp2_with fail
              go_ret
              exact ⟨by simp, B5.out⟩
  · go_enter Tryd.func4, Tryd.ntmps4
    have q2 : (100 : Int) < (zs.length : Int) := by omega
    go_wp2_with fail
    refine K.out.mono ?_
    rintro e w1 ⟨rfl, b1⟩
    have B1 := Lib.hid b1
    clear K b1
    go_wp2_with fail
    go_ret
    exact ⟨rfl, B1.out⟩

set_option maxRecDepth 100000 in
theorem lifted (os : Os) (started : os.Started) (H : Type) (enc : TypeId × Value → H) :
    ReturnsInHanded {} Tryd.checked os 4 .any (fun w args => (Rows.scanGapsSpec.pre enc Tryd.prog Tryd.f4 Rows.scanGapsRow.domain false w args ∧ laidMetH Tryd.prog laid4 w) ∧ sizedMet enc Tryd.prog Tryd.f4 (OpenSpec.ofChange Rows.scanGapsSpec) false w args)
      (Rows.scanGapsSpec.post enc Tryd.prog Tryd.f4 false true false false) := by
  refine wrap_laid (C := Tryd.checked) (X := fun w _ => laidMetH Tryd.prog laid4 w) (fun _ _ _ hh h => h.of_heap hh) own started (by kernel_rfl) Tryd.func4
    (ChangeSpec.witness_shaped (enc := enc) (C := Tryd.checked) (os := os) (X := fun w _ => laidMetH Tryd.prog laid4 w) false (World.laidAll Tryd.prog os laid4) #[.slice none 0 0] 8 (World.laidAll_os _ _ _)
      (World.shaped_of_ZipB (by kernel_rfl) (by kernel_rfl)) (by kernel_rfl) (by kernel_rfl) (by kernel_rfl)
      (by rw [MakeChecks.laidMetH_plain _ _ _ (by kernel_rfl)]; exact laidMet_laidAll _ (by kernel_rfl) (by kernel_rfl))) ?_
  intro W base args ds gs before hval0 hW hcnd _ hL hS _
  have hval : ∀ (j : Nat) t v, Tryd.f4.params[j]? = some t → args[j]? = some v → Value.okWide Tryd.prog W .any base t v := hval0
  have hW' := hW
  obtain ⟨p, q, hA0, hV, rfl, hfz, hnd⟩ := hW
  have hA : DataW.TrodAll enc Tryd.prog W 0 (fun _ => true) true Tryd.f4.params.toList args.toList ds p := hA0
  rw [Tryd.params4] at hA hval
  obtain ⟨v0, d0, rfl, rfl, h0⟩ := trodAll_one hA
  obtain ⟨rfl, rfl⟩ := trodVars_none hV
  obtain ⟨a0, z0, c0, rfl, l0, i0, f0⟩ := intsK_of_trod (P := Tryd.prog) Tryd.underlying22 Tryd.underlying5 (by kernel_rfl) (hval 0 22 v0 rfl rfl) h0
  clear hA0 hval0
  simp only [List.append_nil] at hW'
  have lt0 : ∀ x ∈ p, x.block < W.heap.size := fun x hx => hW'.lt x (by simp [hx])
  refine (walk a0 z0 c0 l0 f0 W i0 (stabs_of hL hS)).mono fun e W' ⟨he, hg⟩ => ?_
  subst he
  have h0' := Below.trod laidOut (by kernel_rfl) (of_decide_eq_true (by kernel_rfl)) h0 hg lt0
  exact ⟨_, rfl, ⟨_, _, _, [], _, [], hW', trodAll_mk1 (shut_bool Tryd.underlying4 _), trodAll_mk1 h0', rfl, hg.frame _, fun h => by cases h⟩⟩

/-- The row's statement. -/
theorem row_holds : Rows.ScanGapsSaid :=
  OpenClaim.holds_of_wide 4 Tryd.f4 rfl rfl rfl rfl rfl rfl rfl ⟨rfl, rfl, rfl, rfl, rfl⟩ rfl rfl rfl rfl rfl (by kernel_rfl) Tryd.func4 (by kernel_rfl)
    (of_decide_eq_true (by kernel_rfl)) (by unfold Func.isWrapper; first | (rw [if_pos (by decide +kernel)]; kernel_rfl) | (rw [if_neg (by decide +kernel)]; exact ⟨rfl, rfl⟩))
    (fun os started H enc _ => lifted os started H enc)
/-- The given statement: the card. -/
theorem proved : Rows.ScanGapsCardSaid :=
  Claim7.holds_tied_plain_at .later [] [.data, .data, .data, .pinned] true (true, "7f27f9792fcff04e179892fc5e3d1bdfc4b5cf923d53db90216b6ccb1ebd3b4e") false row_holds (fun _ h => by cases h) (by kernel_rfl) (fun _ h => by cases h) scanGaps_row_tie rfl ⟨rfl, rfl⟩ (by kernel_rfl) rfl
    (fun f fn hf hfn => by
      obtain rfl : f = 4 := Option.some.inj ((show Tryd.prog.funcNamed "pointillist/pointillistlaw05.ScanGaps" = some 4 by kernel_rfl).symm.trans hf) |>.symm
      obtain rfl : fn = Tryd.f4 := (Option.some.inj (Tryd.func4.symm.trans hfn)).symm
      exact ⟨by kernel_rfl, fun j t ht => by
        rw [Tryd.params4] at ht
        have hm : t ∈ [22] := by simpa using Array.mem_of_getElem? ht
        have hall : ([22].all fun u => !Tryd.prog.wantsStandIn u) = true := by kernel_rfl
        exact (show Tryd.prog.wantsStandIn t = false by simpa using List.all_eq_true.1 hall t hm)⟩)
    (by kernel_rfl)
end Go.Proofs.YtmfibmcmbbelgaaDoor.scanGaps
