/-
  The contract of the document's answer for layer 1: minus, over rows of digits that lie in memory.
-/
import Derived.Test.YthnjdncnmdmjaaaPlus
namespace Go.Proofs.Ythnjdncnmdmjaaa
open Go.RowKit Go.Shelf

theorem minus_step (os xs ys : List Nat) (k br d br' : Nat) (hl : os.length = k) (h : val os + val (ys.take k) = val (xs.take k) + 65536 ^ k * br) (hd : d + ys.getD k 0 + br = xs.getD k 0 + 65536 * br') :
    val (os ++ [d]) + val (ys.take (k + 1)) = val (xs.take (k + 1)) + 65536 ^ (k + 1) * br' := by
  rw [val_snoc, val_take', val_take', hl, Nat.pow_succ]
  have e := congrArg (65536 ^ k * ·) hd
  simp only [Nat.mul_add, ← Nat.mul_assoc] at e
  omega

/-- What minus' loop keeps. -/
def MinusInv (xs ys : List Nat) (B : Nat) (w : World) (v c i : Value) (wr : World) : Prop :=
  ∃ (k br : Nat) (os : List Nat), i = .int .i64 (k : Int) ∧ c = .int .i64 (br : Int) ∧ os.length = k ∧ Small os ∧ br ≤ 1 ∧ wr.ownsRow B 3 1 v k (cellsN os) ∧ Below B w wr ∧
    val os + val (ys.take k) = val (xs.take k) + 65536 ^ k * br ∧ k ≤ xs.length

theorem minus_next (xs ys os : List Nat) (B : Nat) (w wr w1 : World) (k br : Nat) (d br' : Nat) (dI bI : Int) (v' : Value) (hl : os.length = k) (ho : Small os)
    (hb : Below B w wr) (hv : val os + val (ys.take k) = val (xs.take k) + 65536 ^ k * br) (hk : k < xs.length)
    (hd : d + ys.getD k 0 + br = xs.getD k 0 + 65536 * br') (hd2 : d < 65536) (hb2 : br' ≤ 1) (e1 : dI = (d : Int)) (e2 : bI = (br' : Int))
    (hown : w1.ownsRow B 3 1 v' (k + 1) (cellsN os ++ [.int .i64 dI])) (hb1 : Below B wr w1) :
    MinusInv xs ys B w v' (.int .i64 bI) (.int .i64 ((k : Int) + 1)) w1 := by
  subst e1 e2
  exact ⟨k + 1, br', os ++ [d], by rw [show (k : Int) + 1 = ((k + 1 : Nat) : Int) from by omega], rfl, by simp [hl], small_snoc ho hd2, hb2, by rw [cellsN_snoc]; exact hown, hb.trans hb1, minus_step os xs ys k br d br' hl hv hd, by omega⟩

theorem minus_end (os : List Nat) (x y n br : Nat) (hl : os.length = n) (hs : Small os) (hb : br ≤ 1) (h : val os + y = x + 65536 ^ n * br) (hxy : y ≤ x) : val os = x - y := by
  have := val_lt os hs
  rw [hl] at this
  rcases Nat.eq_zero_or_pos br with rfl | hp
  · omega
  · obtain rfl : br = 1 := by omega
    omega

theorem dg_length_le (x y : Nat) (h : y ≤ x) : (dg y).length ≤ (dg x).length := by
  have h1 := val_lt (dg x) (small_dg x)
  rw [val_dg] at h1
  exact dg_length _ _ (by omega)

set_option maxHeartbeats 2000000 in
theorem minus_any (x y : Nat) (a b : Option Addr) (c1 c2 : Nat) (w : World) (hxy : y ≤ x) (l1 : (dg x).length ≤ 100000000) (h1 : Row a (dg x) w) (h2 : Row b (dg y) w) :
    Calls Try.prog 84 #[.slice a (dg x).length c1, .slice b (dg y).length c2] w (GivesRow (x - y) w) := by
  have HV := Lib.hid (And.intro (val_dg x) (val_dg y))
  have HX := Lib.hid (small_dg x)
  have HY := Lib.hid (small_dg y)
  have H1 := Lib.hid h1
  have H2 := Lib.hid h2
  have HXY := Lib.hid hxy
  have l2 := dg_length_le x y hxy
  clear h1 h2 hxy
  generalize dg x = xs at *
  generalize dg y = ys at *
  go_enter Try.func84, Try.ntmps84
  go_wp2_with fail
  go_loopw [5, 6, 7] (fun v c i wr => MinusInv xs ys w.heap.size w v c i wr) (fun _ _ i _ => xs.length - natOf i)
  case atStart => exact ⟨0, 0, [], rfl, rfl, rfl, small_nil, by omega, World.ownsRow_nil _ _ _ _, Below.refl _ _, by simp [val], by omega⟩
  case round =>
    obtain ⟨k, br, os, rfl, rfl, hl, hs, hc, hown, hb, hv, hk⟩ := hrel
    have HNX := Lib.hid (fun d br' dI bI v' w1 hk' => minus_next xs ys os w.heap.size w wr w1 k br d br' dI bI v' hl hs hb hv hk')
    have HL := Lib.hid hl
    have HV2 := Lib.hid hv
    have hsz := hb.size
    have HO := Lib.hid hown
    have HB := Lib.hid hb
    have HS := Lib.hid hs
    clear hl hv hown hb hs
    have i2 : (br : Int) ≤ 1 := by omega
    by_cases g1 : k < xs.length
    · obtain ⟨b1, o1, rfl, q1, hc1⟩ := (H1.out.below HB.out (Nat.le_refl _)).pos g1
      have e1 := hc1 k g1
      have s1 := small_get HX.out k
      clear hc1
      by_cases g2 : k < ys.length
      · obtain ⟨b2, o2, rfl, q2, hc2⟩ := (H2.out.below HB.out (Nat.le_refl _)).pos g2
        have e2 := hc2 k g2
        have s2 := small_get HY.out k
        clear hc2
        generalize xs.getD k 0 = p at *
        generalize ys.getD k 0 = q at *
        have i1 : (p : Int) ≤ 65535 := by omega
        have i3 : (q : Int) ≤ 65535 := by omega
        by_cases neg : (p : Int) - br - q < 0
        · go_wp2_with (first | (at_builtin; refine append_digit _ rfl (.tmp 35) (.tmp 37) rfl _ HO.out rfl rfl (by omega) (by omega) ?_; intro v' w1 hown' hb'))
          go_roundw
          case rel => exact HNX.out (p + 65536 - br - q) 1 _ _ _ _ g1 (by omega) (by omega) (by omega) (by omega) rfl hown' hb'
          case measure => simp [natOf]; omega
        · go_wp2_with (first | (at_builtin; refine append_digit _ rfl (.tmp 35) (.tmp 37) rfl _ HO.out rfl rfl (by omega) (by omega) ?_; intro v' w1 hown' hb'))
          go_roundw
          case rel => exact HNX.out (p - br - q) 0 _ _ _ _ g1 (by omega) (by omega) (by omega) (by omega) rfl hown' hb'
          case measure => simp [natOf]; omega
      · have s2 := Lib.hid (getD_past ys k g2)
        generalize xs.getD k 0 = p at *
        have i1 : (p : Int) ≤ 65535 := by omega
        by_cases neg : (p : Int) - br < 0
        · go_wp2_with (first | (at_builtin; refine append_digit _ rfl (.tmp 35) (.tmp 37) rfl _ HO.out rfl rfl (by omega) (by omega) ?_; intro v' w1 hown' hb'))
          go_roundw
          case rel => exact HNX.out (p + 65536 - br) 1 _ _ _ _ g1 (by rw [s2.out]; omega) (by omega) (by omega) (by omega) rfl hown' hb'
          case measure => simp [natOf]; omega
        · go_wp2_with (first | (at_builtin; refine append_digit _ rfl (.tmp 35) (.tmp 37) rfl _ HO.out rfl rfl (by omega) (by omega) ?_; intro v' w1 hown' hb'))
          go_roundw
          case rel => exact HNX.out (p - br) 0 _ _ _ _ g1 (by rw [s2.out]; omega) (by omega) (by omega) (by omega) rfl hown' hb'
          case measure => simp [natOf]; omega
    · have hl := HL.out
      subst hl
      obtain ⟨a', cap', rfl, t, fin⟩ := own_trims HO.out HS.out HB.out rfl
      have ev : val os = x - y := by
        have := HV2.out
        rw [val_take_all xs _ (by omega), val_take_all ys _ (by omega), HV.out.1, HV.out.2] at this
        exact minus_end os x y _ br rfl HS.out hc this HXY.out
      rw [ev] at t fin
      have T := Lib.hid t
      have FIN := Lib.hid fin
      clear t fin ev
      go_wp2_with fail
      refine T.out.mono ?_
      rintro e w1 ⟨rfl, rfl⟩
      go_wp2_with fail
      go_ret
      exact FIN.out _ rfl
end Go.Proofs.Ythnjdncnmdmjaaa
