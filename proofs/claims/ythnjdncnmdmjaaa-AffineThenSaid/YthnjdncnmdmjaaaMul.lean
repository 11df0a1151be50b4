/-
  The contract of the document's answer for layer 1: Mul, the product of two numbers with signs.
-/
import Derived.Test.YthnjdncnmdmjaaaRowV
namespace Go.Proofs.Ythnjdncnmdmjaaa
open Go.RowKit Go.Shelf

theorem below_drewN (B : Nat) (w : World) (n : Nat) : Below B w (w.drewN n) := ⟨rfl, rfl, rfl, Nat.le_refl _, fun _ _ => rfl⟩

theorem val_zeros (n : Nat) : val (List.replicate n 0) = 0 := by
  induction n with
  | zero => rfl
  | succ n ih => rw [List.replicate_succ, val, ih]

/-- One digit of one row of the product. -/
theorem mul_step (os ys : List Nat) (i k p cy s : Nat) (hl : os.length = i + k) (h : val os + 65536 ^ (i + k) * cy = 65536 ^ i * (p * val (ys.take k))) (hs : s = cy + p * ys.getD k 0) :
    val (os ++ [s % 65536]) + 65536 ^ (i + k + 1) * (s / 65536) = 65536 ^ i * (p * val (ys.take (k + 1))) := by
  rw [val_snoc, val_take', hl, Nat.pow_succ]
  have e : 65536 ^ (i + k) * s = 65536 ^ (i + k) * (s % 65536) + 65536 ^ (i + k) * 65536 * (s / 65536) := by
    rw [Nat.mul_assoc, ← Nat.mul_add, Nat.mod_add_div]
  have e2 : 65536 ^ (i + k) * s = 65536 ^ (i + k) * cy + 65536 ^ i * (p * (65536 ^ k * ys.getD k 0)) := by
    rw [hs, Nat.mul_add, Nat.pow_add, Nat.mul_assoc, Nat.mul_assoc, Nat.mul_left_comm p]
  rw [Nat.mul_add p, Nat.mul_add]
  omega

/-- What Mul's inner loop keeps. -/
def MulInv (ys : List Nat) (i p B : Nat) (w : World) (v c kv : Value) (wr : World) : Prop :=
  ∃ (k cy : Nat) (os : List Nat), kv = .int .i64 (k : Int) ∧ c = .int .i64 (cy : Int) ∧ os.length = i + k ∧ Small os ∧ cy ≤ 65535 ∧ wr.ownsRow B 3 1 v (i + k) (cellsN os) ∧ Below B w wr ∧
    val os + 65536 ^ (i + k) * cy = 65536 ^ i * (p * val (ys.take k)) ∧ (k ≤ ys.length ∨ k = ys.length + 1 ∧ cy = 0)

theorem mul_next (ys os : List Nat) (i p B : Nat) (w wr w1 : World) (k cy s : Nat) (t : Int) (v' : Value) (hy : Small ys) (hp : p ≤ 65535) (hl : os.length = i + k) (ho : Small os) (hc : cy ≤ 65535)
    (hb : Below B w wr) (hv : val os + 65536 ^ (i + k) * cy = 65536 ^ i * (p * val (ys.take k))) (hk : k ≤ ys.length ∨ k = ys.length + 1 ∧ cy = 0)
    (hs : s = cy + p * ys.getD k 0) (ht : t = (s : Int))
    (hown : w1.ownsRow B 3 1 v' (i + k + 1) (cellsN os ++ [.int .i64 (t % 65536)])) (hb1 : Below B wr w1) (hgo : k < ys.length ∨ cy ≠ 0) :
    MulInv ys i p B w v' (.int .i64 (t / 65536)) (.int .i64 ((k : Int) + 1)) w1 := by
  subst ht
  have g2 := small_get hy k
  have hm : p * ys.getD k 0 ≤ 65535 * 65535 := Nat.mul_le_mul hp (by omega)
  refine ⟨k + 1, s / 65536, os ++ [s % 65536], by rw [show (k : Int) + 1 = ((k + 1 : Nat) : Int) from by omega], rfl, by simp [hl]; omega, small_snoc ho (by omega), by omega, by rw [cellsN_snoc]; exact hown, hb.trans hb1, mul_step os ys i k p cy s hl hv hs, ?_⟩
  by_cases h2 : k < ys.length
  · left; omega
  · rw [getD_past ys k h2, Nat.mul_zero] at hs
    right; omega

/-- What Mul's outer loop keeps. -/
def MulOut (xs : List Nat) (y : Nat) (w : World) (o iv : Value) (wr : World) : Prop :=
  ∃ i : Nat, i ≤ xs.length ∧ iv = .int .i64 (i : Int) ∧ RowV o (val (xs.take i) * y) wr ∧ Below w.heap.size w wr

theorem prod_dg (x y i : Nat) (h : x * y ≤ Big) : val ((dg x).take i) * y ≤ 4 * Big := by
  have h1 : val ((dg x).take i) ≤ x := by
    conv => rhs; rw [← val_dg x, ← List.take_append_drop i (dg x)]
    rw [val_append]; omega
  have := Nat.mul_le_mul_right y h1
  omega
theorem row_dg (x y i : Nat) (h : x * y ≤ Big) : 65536 ^ i * ((dg x).getD i 0 * y) ≤ 4 * Big := by
  have h1 : val ((dg x).take (i + 1)) ≤ x := by
    conv => rhs; rw [← val_dg x, ← List.take_append_drop (i + 1) (dg x)]
    rw [val_append]; omega
  rw [val_take'] at h1
  have := Nat.mul_le_mul_right y (show 65536 ^ i * (dg x).getD i 0 ≤ x by omega)
  rw [Nat.mul_assoc] at this
  omega

set_option maxHeartbeats 4000000 in
set_option maxRecDepth 100000 in
theorem mul_any (n m : Bool) (x y : Nat) (a b : Option Addr) (c1 c2 : Nat) (w : World) (hxy : x * y ≤ Big) (bx : x ≤ Big) (by' : y ≤ Big) (h1 : Row a (dg x) w) (h2 : Row b (dg y) w) :
    Calls Try.prog 65 #[.agg #[.bool n, .slice a (dg x).length c1], .agg #[.bool m, .slice b (dg y).length c2]] w (GivesNum (n != m) (x * y) w) := by
  have l1 := big_len x (by omega)
  have l2 := big_len y (by omega)
  have H1 := Lib.hid (((h1.alloc (.cells #[.bool n, .slice a (dg x).length c1] 66)).alloc (.cells #[.bool m, .slice b (dg y).length c2] 66)).alloc (.cells #[.bool false, .slice none 0 0] 66))
  have H2 := Lib.hid (((h2.alloc (.cells #[.bool n, .slice a (dg x).length c1] 66)).alloc (.cells #[.bool m, .slice b (dg y).length c2] 66)).alloc (.cells #[.bool false, .slice none 0 0] 66))
  have N1 := Lib.hid (((NumAt.new w n (.slice a (dg x).length c1)).alloc (.cells #[.bool m, .slice b (dg y).length c2] 66)).alloc (.cells #[.bool false, .slice none 0 0] 66))
  have N2 := Lib.hid ((NumAt.new (w.alloc (.cells #[.bool n, .slice a (dg x).length c1] 66)) m (.slice b (dg y).length c2)).alloc (.cells #[.bool false, .slice none 0 0] 66))
  rw [show (w.alloc (.cells #[.bool n, .slice a (dg x).length c1] 66)).heap.size = w.heap.size + 1 from by simp] at N2
  have N3 := Lib.hid (NumAt.new3 w (.cells #[.bool n, .slice a (dg x).length c1] 66) (.cells #[.bool m, .slice b (dg y).length c2] 66) 0)
  have BW := Lib.hid (below3 w (.cells #[.bool n, .slice a (dg x).length c1] 66) (.cells #[.bool m, .slice b (dg y).length c2] 66) (.cells #[.bool false, .slice none 0 0] 66) 0)
  have HP := Lib.hid (fun i => And.intro (prod_dg x y i hxy) (row_dg x y i hxy))
  have HV := Lib.hid (And.intro (val_dg x) (val_dg y))
  have HX := Lib.hid (small_dg x)
  have HY := Lib.hid (small_dg y)
  clear h1 h2 hxy bx by'
  generalize dg x = xs at *
  generalize dg y = ys at *
  go_enter Try.func65, Try.ntmps65
  go_wp2_with fail
  rw [show World.drewN (((w.alloc (.cells #[.bool n, .slice a xs.length c1] 66)).alloc (.cells #[.bool m, .slice b ys.length c2] 66)).alloc (.cells #[.bool false, .slice none 0 0] 66)) 0 = ((w.alloc (.cells #[.bool n, .slice a xs.length c1] 66)).alloc (.cells #[.bool m, .slice b ys.length c2] 66)).alloc (.cells #[.bool false, .slice none 0 0] 66) from rfl] at N3 BW
  generalize ((w.alloc (.cells #[.bool n, .slice a xs.length c1] 66)).alloc (.cells #[.bool m, .slice b ys.length c2] 66)).alloc (.cells #[.bool false, .slice none 0 0] 66) = W0 at *
  go_loopw [5, 6] (fun o i wr => MulOut xs y W0 o i wr) (fun _ i _ => xs.length - natOf i)
  case atStart => exact ⟨0, Nat.zero_le _, rfl, by rw [List.take_zero, val, Nat.zero_mul]; exact RowV.nil _, Below.refl _ _⟩
  case round =>
    obtain ⟨i, hi, rfl, ho, hB⟩ := hrel
    have NA := N1.out.below hB N1.out.lt
    have NB := N2.out.below hB N2.out.lt
    have n1 := NA.c1
    by_cases hlt : i < xs.length
    · obtain ⟨W1, rfl⟩ : ∃ W1, W1 = wr := ⟨_, rfl⟩
      obtain ⟨ba, oa, rfl, hba, hca⟩ := (H1.out.below hB (Nat.le_refl _)).pos hlt
      have ga := hca i hlt
      have sp := small_get HX.out i
      have HOUT := Lib.hid ho
      have HB := Lib.hid hB
      have HNA := Lib.hid NA
      have HNB := Lib.hid NB
      have HRB := Lib.hid (H2.out.below hB (Nat.le_refl _))
      have HST := Lib.hid (val_take' xs i)
      have HP1 := Lib.hid (HP.out i)
      clear hca ho hB NA NB
      generalize xs.getD i 0 = p at *
      go_wp2_with (first | (at_make; refine make_zeros _ rfl _ _ rfl i _ rfl rfl rfl (by omega) ?_; intro w0 hown0 hb0))
      have HO0 := Lib.hid hown0
      have HB0 := Lib.hid hb0
      clear hown0 hb0
      go_loopw [7, 8, 9] (fun v c kv w2 => MulInv ys i p W1.heap.size W1 v c kv w2) (fun _ _ kv _ => ys.length + 1 - natOf kv)
      case atStart => exact ⟨0, 0, List.replicate i 0, rfl, rfl, by simp, small_zeros _, by omega, HO0.out, HB0.out, by rw [val_zeros]; simp [val], by left; omega⟩
      case round =>
        obtain ⟨k, cy, os, rfl, rfl, hl, hs, hc, hown, hb, hv, hk⟩ := hrel
        have HNX := Lib.hid (fun s t v' w1 => mul_next ys os i p W1.heap.size W1 wr w1 k cy s t v' HY.out (by omega) hl hs hc hb hv hk)
        have HL := Lib.hid hl
        have HV2 := Lib.hid hv
        have HK := Lib.hid hk
        have kb : k ≤ ys.length + 1 := by omega
        have hsz := hb.size
        have HO := Lib.hid hown
        have HB2 := Lib.hid hb
        have HS := Lib.hid hs
        have nb1 := (hb.cell (p := ⟨w.heap.size + 1, 1, none⟩) HNB.out.lt).trans HNB.out.c1
        have na1 := (hb.cell (p := ⟨w.heap.size, 1, none⟩) HNA.out.lt).trans HNA.out.c1
        have ga2 := (hb.cell (p := ⟨ba, oa + i, none⟩) hba).trans ga
        clear hl hv hown hb hk hs
        have i2 : (cy : Int) ≤ 65535 := by omega
        have ip : (p : Int) ≤ 65535 := by omega
        by_cases g2 : k < ys.length
        · obtain ⟨b2, o2, rfl, q2, hc2⟩ := (HRB.out.below HB2.out (Nat.le_refl _)).pos g2
          have e2 := hc2 k g2
          have s2 := small_get HY.out k
          clear hc2
          generalize ys.getD k 0 = q at *
          have i3 : (q : Int) ≤ 65535 := by omega
          have hm : p * q ≤ 65535 * 65535 := Nat.mul_le_mul (by omega) (by omega)
          have hm1 : (p : Int) * q ≤ 4294836225 := by rw [Mul64.mulN]; omega
          have hm0 : 0 ≤ (p : Int) * q := by rw [Mul64.mulN]; omega
          clear hm
          go_wp2_with fail
          go_quiet (fail)
          have HO3 := Lib.hid (show (wr.drewN nq).ownsRow _ _ _ _ _ _ from HO.out)
          have HB3 := Lib.hid (below_drewN W1.heap.size wr nq)
          have hsz3 : W1.heap.size ≤ (wr.drewN nq).heap.size := hsz
          generalize wr.drewN nq = w3 at *
          go_wp2_with (first | (at_builtin; refine append_digit _ rfl (.tmp 50) (.tmp 53) rfl _ HO3.out rfl rfl (by omega) (by omega) ?_; intro v' w1 hown' hb'))
          go_roundw
          case rel => exact HNX.out (cy + p * q) _ _ _ rfl (by rw [Mul64.mulN]; omega) hown' (HB3.out.trans hb') (Or.inl g2)
          case measure => simp [natOf]; omega
        · have s2 := Lib.hid (getD_past ys k g2)
          by_cases gc : cy = 0
          · subst gc
            obtain ⟨W2, rfl⟩ : ∃ W2, W2 = wr := ⟨_, rfl⟩
            have hl := HL.out
            have hown2 := HO.out
            rw [← hl] at hown2
            obtain ⟨a', cap', hu, t, fin, _⟩ := own_trims' (w := W1) hown2 HS.out HB2.out
            rw [hl] at hu t
            subst hu
            have ev : val os = 65536 ^ i * (p * y) := by
              have := HV2.out
              rw [val_take_all ys _ (by omega), HV.out.2] at this
              simpa using this
            rw [ev] at t fin
            have T := Lib.hid t
            have HR1 := Lib.hid (show RowV (.slice a' (dg (65536 ^ i * (p * y))).length cap') _ W2 from ⟨a', cap', rfl, fin⟩)
            have HO2 := Lib.hid (HOUT.out.below HB2.out (Nat.le_refl _))
            have P := Lib.hid (plus_v _ _ _ _ W2 HP1.out.1 HP1.out.2 HO2.out HR1.out)
            have EQ := Lib.hid (show val (List.take i xs) * y + 65536 ^ i * (p * y) = val (List.take (i + 1) xs) * y by rw [HST.out, Nat.add_mul, Nat.mul_assoc])
            clear t fin ev hown2 hl
            go_wp2_with fail
            refine T.out.mono ?_
            rintro e w3 ⟨rfl, rfl⟩
            go_wp2_with fail
            refine P.out.mono ?_
            rintro e w4 ⟨v4, rfl, hv4, b4⟩
            rw [EQ.out] at hv4
            go_wp2_with fail
            go_roundw
            case rel => exact ⟨i + 1, by omega, by go_num, hv4, (HB.out.trans (HB2.out.mono HB.out.size)).trans (b4.mono (Nat.le_trans HB.out.size HB2.out.size))⟩
            case measure => simp [natOf]; omega
          · have hcp : 0 < (cy : Int) := by omega
            have kb2 : k ≤ ys.length := by have := HK.out; omega
            go_wp2_with (first | (at_builtin; refine append_digit _ rfl (.tmp 50) (.tmp 53) rfl _ HO.out rfl rfl (by omega) (by omega) ?_; intro v' w1 hown' hb'))
            go_roundw
            case rel => exact HNX.out cy _ _ _ (by rw [s2.out, Nat.mul_zero]; rfl) rfl hown' hb' (Or.inr gc)
            case measure => simp [natOf]; omega
    · obtain rfl : i = xs.length := by omega
      have NR := N3.out.below hB N3.out.lt
      have n0 := NA.c0; have m0 := NB.c0
      have r0 := NR.c0; have r1 := NR.c1; have y0 := NR.z0; have y1 := NR.z1
      rw [List.take_length, HV.out.1] at ho
      obtain ⟨aq, cq, rfl, hqr⟩ := ho
      have HQR := Lib.hid hqr
      have HNR := Lib.hid NR
      have HB2 := Lib.hid (BW.out.trans (hB.mono BW.out.size))
      clear NA NB NR hqr hB
      cases n <;> cases m
      all_goals
        go_wp2_with fail
        exact num_close Try.results65 HNR.out HB2.out (by omega) HQR.out rfl
end Go.Proofs.Ythnjdncnmdmjaaa
