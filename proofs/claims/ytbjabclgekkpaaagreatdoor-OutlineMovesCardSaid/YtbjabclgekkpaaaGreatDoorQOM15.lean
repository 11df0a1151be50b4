/- Joined: Floor, Near. -/
import Derived.Test.YtbjabclgekkpaaaGreatDoorQOM14
namespace Go.Proofs.YtbjabclgekkpaaaGreatDoor
open Go.RowKit Go.Shelf
theorem half_v (v : Value) (x : Nat) (w : World) (b : x ≤ 4 * Big) (h : RowV v x w) :
    Calls Tryz.prog 227 #[v] w fun e w' => ∃ v', e = .returned (.tuple #[v', .int .i64 ((x % 2 : Nat) : Int)]) ∧ RowV v' (x / 2) w' ∧ Below w.heap.size w w' ∧ v'.ownBlock = some w.heap.size ∧ w.heap.size < w'.heap.size := by
  obtain ⟨a, c, rfl, r, _, _⟩ := h
  refine (half_any x a c w (big_len x b) r).mono fun e w' hg => ?_
  obtain ⟨a', cap', rfl, h1, h2, h3, h4, h5, h6⟩ := hg
  exact ⟨_, h1, ⟨_, cap', rfl, h2, h3, h4⟩, h5, rfl, h6⟩
/-- The lowest k bits of a number. -/
def bitsL (A k : Nat) : List Nat := (List.range k).map fun i => A / 2 ^ i % 2
theorem bitsL_succ (A k : Nat) : bitsL A (k + 1) = bitsL A k ++ [A / 2 ^ k % 2] := by simp [bitsL, List.range_succ]
theorem bitsL_length (A k : Nat) : (bitsL A k).length = k := by simp [bitsL]
theorem bitsL_get (A k i : Nat) (h : i < k) : (bitsL A k).getD i 0 = A / 2 ^ i % 2 := by simp [bitsL, List.getD, h]
theorem half_pow (A k : Nat) : A / 2 ^ k / 2 = A / 2 ^ (k + 1) := by rw [Nat.div_div_eq_div_mul, Nat.pow_succ]
theorem pow_le (n m : Nat) (h : 2 + 16 * n ≤ m) : 4 * 65536 ^ n ≤ 2 ^ m := by
  have e : 4 * 65536 ^ n = 2 ^ (2 + 16 * n) := by rw [Nat.pow_add, Nat.pow_mul]
  rw [e]
  exact Nat.pow_le_pow_right (by decide) h
theorem bits_few (A k : Nat) (hA : A ≤ 4 * Big) (h : 0 < A / 2 ^ k) : k ≤ 3790 := by
  have h1 : 2 ^ k ≤ A := by
    refine Nat.le_of_not_lt fun hlt => ?_
    rw [Nat.div_eq_of_lt hlt] at h
    omega
  have h2 : 4 * Big ≤ 2 ^ 3790 := pow_le 236 3790 (by decide)
  exact (Nat.pow_le_pow_iff_right (by decide : 1 < 2)).1 (Nat.le_trans h1 (Nat.le_trans hA h2))
/-- What Floor's first loop keeps. -/
def BitsInv (A B : Nat) (w : World) (v d : Value) (wr : World) : Prop :=
  ∃ k : Nat, k ≤ 3791 ∧ wr.ownsRow B 3 1 v k (cellsN (bitsL A k)) ∧ RowV d (A / 2 ^ k) wr ∧ Below B w wr
theorem bits_next (A B : Nat) (w wr w1 w2 : World) (k : Nat) (v v' v1 : Value) (hk : k ≤ 3790) (hown : wr.ownsRow B 3 1 v k (cellsN (bitsL A k))) (hb : Below B w wr) (hB : B ≤ wr.heap.size)
    (hv1 : RowV v1 (A / 2 ^ k / 2) w1) (hb1 : Below wr.heap.size wr w1) (ho1 : v1.ownBlock = some wr.heap.size) (hlt : wr.heap.size < w1.heap.size)
    (hown' : w2.ownsRow B 3 1 v' (k + 1) (cellsN (bitsL A k) ++ [.int .i64 ((A / 2 ^ k % 2 : Nat) : Int)])) (hb2 : Below B w1 w2) (hkeep : ∀ q, q < w1.heap.size → some q ≠ v.ownBlock → w2.heap[q]? = w1.heap[q]?) :
    BitsInv A B w v' v1 w2 := by
  refine ⟨k + 1, by omega, by rw [bitsL_succ, cellsN_snoc]; exact hown', ?_, (hb.trans (hb1.mono hB)).trans hb2⟩
  rw [← half_pow]
  refine hv1.stays ho1 hb2.size (hkeep _ hlt ?_)
  intro e
  have := (hown.lt wr.heap.size e.symm).2
  omega
/-- What Floor's second loop keeps. -/
def DivInv (A C K : Nat) (w : World) (q r i : Value) (wr : World) : Prop :=
  ∃ j : Nat, j ≤ K ∧ i = .int .i64 ((j : Int) - 1) ∧ RowV q (A / 2 ^ j / C) wr ∧ RowV r (A / 2 ^ j % C) wr ∧ Below w.heap.size w wr
theorem bit_step (A m : Nat) : A / 2 ^ m = 2 * (A / 2 ^ (m + 1)) + A / 2 ^ m % 2 := by
  rw [← half_pow]; omega
/-- One bit of the long division. -/
theorem div_bit (X C b : Nat) (hC : 0 < C) (hb : b ≤ 1) :
    (2 * (X % C) + b < C → (2 * X + b) / C = 2 * (X / C) ∧ (2 * X + b) % C = 2 * (X % C) + b) ∧
    (C ≤ 2 * (X % C) + b → (2 * X + b) / C = 2 * (X / C) + 1 ∧ (2 * X + b) % C = 2 * (X % C) + b - C) := by
  have e := Nat.div_add_mod X C
  have l := Nat.mod_lt X hC
  generalize X / C = q at *
  generalize X % C = r at *
  subst e
  constructor
  · intro h
    have h4 : 2 * (C * q + r) = C * (2 * q) + 2 * r := by rw [Nat.mul_add, Nat.mul_left_comm]
    have e2 : 2 * (C * q + r) + b = C * (2 * q) + (2 * r + b) := by omega
    rw [e2, Nat.mul_add_div hC, Nat.div_eq_of_lt h, Nat.mul_add_mod, Nat.mod_eq_of_lt h]
    exact ⟨rfl, rfl⟩
  · intro h
    have h3 : C * (2 * q + 1) = C * (2 * q) + C := by rw [Nat.mul_add, Nat.mul_one]
    have h4 : 2 * (C * q + r) = C * (2 * q) + 2 * r := by rw [Nat.mul_add, Nat.mul_left_comm]
    have e2 : 2 * (C * q + r) + b = C * (2 * q + 1) + (2 * r + b - C) := by omega
    rw [e2, Nat.mul_add_div hC, Nat.div_eq_of_lt (show 2 * r + b - C < C by omega), Nat.mul_add_mod, Nat.mod_eq_of_lt (show 2 * r + b - C < C by omega)]
    exact ⟨rfl, rfl⟩
theorem div_next (A C K m : Nat) (w wr w2 : World) (q r : Value) (Q R : Nat) (hm : m + 1 ≤ K) (hQ : A / 2 ^ m / C = Q) (hR : A / 2 ^ m % C = R) (hq : RowV q Q w2) (hr : RowV r R w2) (hB : Below w.heap.size w wr) (hb : Below wr.heap.size wr w2) :
    DivInv A C K w q r (.int .i64 ((m : Int) - 1)) w2 := by
  subst hQ hR
  exact ⟨m, by omega, rfl, hq, hr, hB.trans (hb.mono hB.size)⟩
/-- All that one round of the long division needs of numbers. -/
theorem div_facts (A C m : Nat) (hC : 0 < C) :
    (2 * (A / 2 ^ (m + 1) % C) + A / 2 ^ m % 2 < C → A / 2 ^ m / C = A / 2 ^ (m + 1) / C + A / 2 ^ (m + 1) / C ∧ A / 2 ^ m % C = A / 2 ^ (m + 1) % C + A / 2 ^ (m + 1) % C + A / 2 ^ m % 2) ∧
    (C ≤ 2 * (A / 2 ^ (m + 1) % C) + A / 2 ^ m % 2 → A / 2 ^ m / C = A / 2 ^ (m + 1) / C + A / 2 ^ (m + 1) / C + 1 ∧ A / 2 ^ m % C = A / 2 ^ (m + 1) % C + A / 2 ^ (m + 1) % C + A / 2 ^ m % 2 - C) := by
  have hb : A / 2 ^ m % 2 ≤ 1 := by omega
  have k := div_bit (A / 2 ^ (m + 1)) C (A / 2 ^ m % 2) hC hb
  rw [← bit_step A m] at k
  constructor
  · intro h; have := k.1 h; constructor <;> omega
  · intro h; have := k.2 h; constructor <;> omega
theorem quot_big (A C m : Nat) (hA : A ≤ 4 * Big) : A / 2 ^ m / C + A / 2 ^ m / C ≤ 4 * Big ∨ m = 0 := by
  rcases Nat.eq_zero_or_pos m with h | h
  · exact Or.inr h
  · left
    obtain ⟨n, rfl⟩ : ∃ n, m = n + 1 := ⟨m - 1, by omega⟩
    have h1 : A / 2 ^ (n + 1) / C ≤ A / 2 ^ (n + 1) := Nat.div_le_self _ _
    have h2 : A / 2 ^ (n + 1) * 2 ≤ A := by
      rw [← half_pow]
      have : A / 2 ^ n ≤ A := Nat.div_le_self _ _
      omega
    omega
/-- What Floor answers. -/
def floorN (neg : Bool) (A C : Nat) : Nat := A / C + (if neg && decide (0 < A % C) then 1 else 0)
set_option maxHeartbeats 4000000 in
set_option maxRecDepth 100000 in
theorem floor_any (neg : Bool) (A C : Nat) (a : Option Addr) (c1 : Nat) (vc : Value) (w : World) (hC : 0 < C) (bA : A ≤ 4 * Big) (bC : C ≤ Big) (h1 : RowV (.slice a (dg A).length c1) A w) (h2 : RowV vc C w) :
    Calls Tryz.prog 196 #[.agg #[.bool neg, .slice a (dg A).length c1], vc] w (GivesNum (neg && decide (0 < floorN neg A C)) (floorN neg A C) w) := by
  have H1 := Lib.hid ((h1.alloc (.cells #[.bool neg, .slice a (dg A).length c1] 131)).alloc (.cells #[.bool false, .slice none 0 0] 131))
  have H2 := Lib.hid ((h2.alloc (.cells #[.bool neg, .slice a (dg A).length c1] 131)).alloc (.cells #[.bool false, .slice none 0 0] 131))
  have N1 := Lib.hid ((NumAt.new w neg (.slice a (dg A).length c1)).alloc (.cells #[.bool false, .slice none 0 0] 131))
  have N2 := Lib.hid (NumAt.new (w.alloc (.cells #[.bool neg, .slice a (dg A).length c1] 131)) false (.slice none 0 0))
  rw [show (w.alloc (.cells #[.bool neg, .slice a (dg A).length c1] 131)).heap.size = w.heap.size + 1 from by simp] at N2
  have BW := Lib.hid (((Below.refl w.heap.size w).alloc (Nat.le_refl _) (.cells #[.bool neg, .slice a (dg A).length c1] 131)).alloc (by simp) (.cells #[.bool false, .slice none 0 0] 131))
  have hsz : ((w.alloc (.cells #[.bool neg, .slice a (dg A).length c1] 131)).alloc (.cells #[.bool false, .slice none 0 0] 131)).heap.size = w.heap.size + 1 + 1 := by simp
  have HSZ := Lib.hid hsz
  have HA := Lib.hid bA
  have HC := Lib.hid bC
  clear h1 h2 bA bC hsz
  go_enter Tryz.func196, Tryz.ntmps196
  go_wp2_with fail
  generalize (w.alloc (.cells #[.bool neg, .slice a (dg A).length c1] 131)).alloc (.cells #[.bool false, .slice none 0 0] 131) = W0 at *
  generalize (dg A).length = nA at *
  go_loopw [5, 6] (fun v d wr => BitsInv A W0.heap.size W0 v d wr) (fun v _ _ => 3792 - lenOf v)
  case atStart => exact ⟨0, by omega, World.ownsRow_nil _ _ _ _, by simpa using H1.out, Below.refl _ _⟩
  case round =>
    obtain ⟨k, hk, hown, hd, hb⟩ := hrel
    by_cases hm : A / 2 ^ k = 0
    · rw [hm] at hd
      obtain ⟨ad, capd, rfl⟩ := hd.zero
      obtain ⟨K, rfl⟩ : ∃ K, K = k := ⟨_, rfl⟩
      obtain ⟨W1, rfl⟩ : ∃ W1, W1 = wr := ⟨_, rfl⟩
      have hown2 : W1.ownsRow W0.heap.size 3 1 u5 (bitsL A K).length (cellsN (bitsL A K)) := by rw [bitsL_length]; exact hown
      obtain ⟨ab, capb, hu, hrb, _, _⟩ := row_of_own hown2
      rw [bitsL_length] at hu
      subst hu
      have HRB := Lib.hid hrb
      have HNA := Lib.hid (N1.out.below hb (by have := HSZ.out; omega))
      have HNR := Lib.hid (N2.out.below hb (by have := HSZ.out; omega))
      have HC1 := Lib.hid (H2.out.below hb (Nat.le_refl _))
      have HBW1 := Lib.hid (BW.out.trans (hb.mono (by have := HSZ.out; omega)))
      have HM := Lib.hid hm
      clear hown hown2 hrb hb hd hm
      go_wp2_with fail
      go_loopw [9, 10, 11] (fun q r i w2 => DivInv A C K W1 q r i w2) (fun _ _ i _ => (intOf i + 1).toNat)
      case atStart => exact ⟨K, Nat.le_refl _, rfl, by rw [HM.out, Nat.zero_div]; exact RowV.nil _, by rw [HM.out, Nat.zero_mod]; exact RowV.nil _, Below.refl _ _⟩
      case round =>
        obtain ⟨j, hj, rfl, hq, hr, hB⟩ := hrel
        rcases Nat.eq_zero_or_pos j with rfl | hp
        · rw [Nat.pow_zero, Nat.div_one] at hq hr
          have NA := HNA.out.below hB HNA.out.lt
          have NR := HNR.out.below hB HNR.out.lt
          have HB2 := Lib.hid (HBW1.out.trans (hB.mono HBW1.out.size))
          have HNR2 := Lib.hid NR
          have n0 := NA.c0
          have r0 := NR.c0; have r1 := NR.c1; have y0 := NR.z0; have y1 := NR.z1
          have bq : A / C ≤ 4 * Big := Nat.le_trans (Nat.div_le_self _ _) HA.out
          clear NA NR hB
          cases neg
          · obtain ⟨aq, cq, rfl, hqr⟩ := hq
            obtain ⟨ar, cr, rfl, _⟩ := hr
            have HQR := Lib.hid hqr
            clear hqr
            go_wp2_with fail
            exact num_close Tryz.results196 HNR2.out HB2.out (by omega) HQR.out rfl
          · by_cases hR : A % C = 0
            · have E1 := Lib.hid (show floorN true A C = A / C by simp [floorN, hR])
              rw [hR] at hr
              obtain ⟨ar, cr, rfl⟩ := hr.zero
              by_cases hQ : A / C = 0
              · obtain ⟨aq, cq, rfl, hqr⟩ := hq
                have HQR := Lib.hid hqr
                have dl : (dg (A / C)).length = 0 := by rw [hQ, dg_zero]; rfl
                have DL := Lib.hid dl
                have E2 := Lib.hid (show (true && decide (0 < A / C)) = false by rw [hQ]; rfl)
                clear hqr hR hQ hr bq
                go_wp2_with fail
                rw [E1.out, E2.out]
                exact num_close' Tryz.results196 DL.out.symm HNR2.out HB2.out (by omega) HQR.out rfl
              · obtain ⟨aq, cq, rfl, hqr⟩ := hq
                have HQR := Lib.hid hqr
                have dl : 0 < (dg (A / C)).length := by rw [dg_pos _ hQ]; simp
                have E2 := Lib.hid (show (true && decide (0 < A / C)) = true by simp [Nat.pos_of_ne_zero hQ])
                clear hqr hR hQ hr bq
                go_wp2_with fail
                rw [E1.out, E2.out]
                exact num_close Tryz.results196 HNR2.out HB2.out (by omega) HQR.out rfl
            · have E1 := Lib.hid (show floorN true A C = A / C + 1 by simp [floorN]; omega)
              have E2 := Lib.hid (show (true && decide (0 < A / C + 1)) = true by simp)
              obtain ⟨ar, nr, cr, rfl, _⟩ := hr.posn hR
              have P := Lib.hid (fun v1 v2 w k1 k2 => plus_v v1 v2 (A / C) 1 w bq (by unfold Big; decide) k1 k2)
              have HQ := Lib.hid hq
              clear hr hq hR bq
              go_wp2_with fail
              refine (P.out _ _ _ (HQ.out.alloc _) (RowV.one _)).mono ?_
              rintro e w6 ⟨v6, rfl, hv6, b6⟩
              have b6' := ((Below.refl wr.heap.size wr).alloc (Nat.le_refl _) (.cells #[.int .i64 1] 3)).trans (b6.mono (by simp))
              have NR2 := HNR2.out.below b6' HNR2.out.lt
              have NA2 := (b6'.cell (p := ⟨w.heap.size, 0, none⟩) (show w.heap.size < wr.heap.size from Nat.lt_of_succ_lt HNR2.out.lt)).trans n0
              have HB3 := Lib.hid (HB2.out.trans (b6'.mono HB2.out.size))
              have HNR3 := Lib.hid NR2
              clear r0 r1 y0 y1 n0
              have r0 := NR2.c0; have r1 := NR2.c1; have y0 := NR2.z0; have y1 := NR2.z1
              obtain ⟨aq, cq, rfl, hqr⟩ := hv6
              have HQR := Lib.hid hqr
              have dl : 0 < (dg (A / C + 1)).length := by rw [dg_pos _ (Nat.succ_ne_zero _)]; simp
              clear hqr NR2 b6 b6'
              go_wp2_with fail
              rw [E1.out, E2.out]
              exact num_close Tryz.results196 HNR3.out HB3.out (by omega) HQR.out rfl
        · obtain ⟨m, rfl⟩ : ∃ m, j = m + 1 := ⟨j - 1, by omega⟩
          obtain ⟨bb, ob, rfl, hbb, hcb⟩ := HRB.out.pos (k := m) (by rw [bitsL_length]; omega)
          have hcell0 := hcb m (by rw [bitsL_length]; omega)
          rw [bitsL_get A K m (by omega)] at hcell0
          have hcell := (hB.cell (p := ⟨bb, ob + m, none⟩) hbb).trans hcell0
          have hbbr : bb < wr.heap.size := Nat.lt_of_lt_of_le hbb hB.size
          have HCW := Lib.hid (HC1.out.below hB (Nat.le_refl _))
          have HBW := Lib.hid hB
          have HQR := Lib.hid (And.intro hq hr)
          have F := div_facts A C m hC
          have hrC : A / 2 ^ (m + 1) % C < C := Nat.mod_lt _ hC
          have HQ2 : Hid (A / 2 ^ (m + 1) / C + A / 2 ^ (m + 1) / C ≤ 4 * Big) := (quot_big A C (m + 1) HA.out).resolve_right (by omega)
          have hb2 : A / 2 ^ m % 2 = 0 ∨ A / 2 ^ m % 2 = 1 := by omega
          clear hcb hcell0 hq hr hB
          generalize A / 2 ^ (m + 1) / C = qv at *
          generalize A / 2 ^ (m + 1) % C = rv at *
          generalize hQe : A / 2 ^ m / C = Q at *
          generalize hRe : A / 2 ^ m % C = R at *
          generalize A / 2 ^ m % 2 = b at *
          have HQ1 := Lib.hid (show qv ≤ 4 * Big by have := HQ2.out; omega)
          have HR0 := Lib.hid (show rv ≤ 4 * Big by have := HC.out; omega)
          have HR2 := Lib.hid (show rv + rv ≤ 4 * Big by have := HC.out; omega)
          have HE := Lib.hid (And.intro hQe hRe)
          clear hQe hRe
          rcases hb2 with rfl | rfl
          · have HR3 := Lib.hid (show rv + rv ≤ 4 * Big from HR2.out)
            by_cases hge : rv + rv < C
            · have DF := Lib.hid (show A / 2 ^ m / C = qv + qv ∧ A / 2 ^ m % C = rv + rv by have := F.1 (by omega); rw [HE.out.1, HE.out.2]; exact ⟨this.1, by omega⟩)
              have dl : decide (rv + rv < C) = true := by simp; omega
              clear F hrC hge
              go_wp2_with fail
              refine (plus_v _ _ qv qv _ HQ1.out HQ1.out HQR.out.1 HQR.out.1).mono ?_
              rintro e w1 ⟨v1, rfl, hv1, b1⟩
              have HV1 := Lib.hid hv1; have B1 := Lib.hid b1
              have HR1 := Lib.hid (HQR.out.2.below b1 (Nat.le_refl _))
              have z1 := b1.size
              clear hv1 b1
              go_wp2_with fail
              refine (plus_v _ _ rv rv _ HR0.out HR0.out HR1.out HR1.out).mono ?_
              rintro e w2 ⟨v2, rfl, hv2, b2⟩
              have B2 := Lib.hid (B1.out.trans (b2.mono B1.out.size))
              have HV2 := Lib.hid hv2
              have HV1b := Lib.hid (HV1.out.below b2 (Nat.le_refl _))
              have HC2 := Lib.hid (HCW.out.below B2.out (Nat.le_refl _))
              have hc2 := (B2.out.cell (p := ⟨bb, ob + m, none⟩) hbbr).trans hcell
              have z2 := b2.size
              clear hv2 b2
              go_wp2_with fail
              refine (less_v _ _ (rv + rv) C _ (HR3.out) HV2.out HC2.out).mono ?_
              rintro e w4 ⟨rfl, b4⟩
              have B4 := Lib.hid (B2.out.trans (b4.mono B2.out.size))
              have HR4 := Lib.hid (HV2.out.below b4 (Nat.le_refl _))
              have HQ4 := Lib.hid (HV1b.out.below b4 (Nat.le_refl _))
              have HC4 := Lib.hid (HC2.out.below b4 (Nat.le_refl _))
              have z4 := b4.size
              clear b4
              go_wp2_with fail
              go_roundw
              case rel => exact div_next A C K m W1 wr w4 _ _ _ _ hj DF.out.1 DF.out.2 HQ4.out HR4.out HBW.out B4.out
              case measure => simp [intOf]
            · have DF := Lib.hid (show A / 2 ^ m / C = qv + qv + 1 ∧ A / 2 ^ m % C = rv + rv - C by have := F.2 (by omega); rw [HE.out.1, HE.out.2]; exact ⟨this.1, by omega⟩)
              have dl : decide (rv + rv < C) = false := by simp; omega
              have HGE := Lib.hid (show C ≤ rv + rv by omega)
              clear F hrC hge
              go_wp2_with fail
              refine (plus_v _ _ qv qv _ HQ1.out HQ1.out HQR.out.1 HQR.out.1).mono ?_
              rintro e w1 ⟨v1, rfl, hv1, b1⟩
              have HV1 := Lib.hid hv1; have B1 := Lib.hid b1
              have HR1 := Lib.hid (HQR.out.2.below b1 (Nat.le_refl _))
              have z1 := b1.size
              clear hv1 b1
              go_wp2_with fail
              refine (plus_v _ _ rv rv _ HR0.out HR0.out HR1.out HR1.out).mono ?_
              rintro e w2 ⟨v2, rfl, hv2, b2⟩
              have B2 := Lib.hid (B1.out.trans (b2.mono B1.out.size))
              have HV2 := Lib.hid hv2
              have HV1b := Lib.hid (HV1.out.below b2 (Nat.le_refl _))
              have HC2 := Lib.hid (HCW.out.below B2.out (Nat.le_refl _))
              have hc2 := (B2.out.cell (p := ⟨bb, ob + m, none⟩) hbbr).trans hcell
              have z2 := b2.size
              clear hv2 b2
              go_wp2_with fail
              refine (less_v _ _ (rv + rv) C _ (HR3.out) HV2.out HC2.out).mono ?_
              rintro e w4 ⟨rfl, b4⟩
              have B4 := Lib.hid (B2.out.trans (b4.mono B2.out.size))
              have HR4 := Lib.hid (HV2.out.below b4 (Nat.le_refl _))
              have HQ4 := Lib.hid (HV1b.out.below b4 (Nat.le_refl _))
              have HC4 := Lib.hid (HC2.out.below b4 (Nat.le_refl _))
              have z4 := b4.size
              clear b4
              go_wp2_with fail
              refine (minus_v _ _ (rv + rv) C _ HGE.out HR3.out HR4.out HC4.out).mono ?_
              rintro e w5 ⟨v5, rfl, hv5, b5⟩
              have B5 := Lib.hid (B4.out.trans (b5.mono B4.out.size))
              have HV5 := Lib.hid hv5
              have HQ5 := Lib.hid (HQ4.out.below b5 (Nat.le_refl _))
              clear hv5 b5
              go_wp2_with fail
              refine (plus_v _ _ (qv + qv) 1 _ HQ2.out (by unfold Big; decide) (HQ5.out.alloc _) (RowV.one _)).mono ?_
              rintro e w6 ⟨v6, rfl, hv6, b6⟩
              have b6' := ((Below.refl w5.heap.size w5).alloc (Nat.le_refl _) (.cells #[.int .i64 1] 3)).trans (b6.mono (by simp))
              have B6 := Lib.hid (B5.out.trans (b6'.mono B5.out.size))
              have HV6 := Lib.hid hv6
              have HR6 := Lib.hid (HV5.out.below b6' (Nat.le_refl _))
              clear hv6 b6 b6'
              go_wp2_with fail
              go_roundw
              case rel => exact div_next A C K m W1 wr w6 _ _ _ _ hj DF.out.1 DF.out.2 HV6.out HR6.out HBW.out B6.out
              case measure => simp [intOf]
          · have HR3 := Lib.hid (show rv + rv + 1 ≤ 4 * Big by have := HC.out; omega)
            by_cases hge : rv + rv + 1 < C
            · have DF := Lib.hid (show A / 2 ^ m / C = qv + qv ∧ A / 2 ^ m % C = rv + rv + 1 by have := F.1 (by omega); rw [HE.out.1, HE.out.2]; exact ⟨this.1, by omega⟩)
              have dl : decide (rv + rv + 1 < C) = true := by simp; omega
              clear F hrC hge
              go_wp2_with fail
              refine (plus_v _ _ qv qv _ HQ1.out HQ1.out HQR.out.1 HQR.out.1).mono ?_
              rintro e w1 ⟨v1, rfl, hv1, b1⟩
              have HV1 := Lib.hid hv1; have B1 := Lib.hid b1
              have HR1 := Lib.hid (HQR.out.2.below b1 (Nat.le_refl _))
              have z1 := b1.size
              clear hv1 b1
              go_wp2_with fail
              refine (plus_v _ _ rv rv _ HR0.out HR0.out HR1.out HR1.out).mono ?_
              rintro e w2 ⟨v2, rfl, hv2, b2⟩
              have B2 := Lib.hid (B1.out.trans (b2.mono B1.out.size))
              have HV2 := Lib.hid hv2
              have HV1b := Lib.hid (HV1.out.below b2 (Nat.le_refl _))
              have HC2 := Lib.hid (HCW.out.below B2.out (Nat.le_refl _))
              have hc2 := (B2.out.cell (p := ⟨bb, ob + m, none⟩) hbbr).trans hcell
              have z2 := b2.size
              clear hv2 b2
              go_wp2_with fail
              refine (plus_v _ _ (rv + rv) 1 _ HR2.out (by unfold Big; decide) (HV2.out.alloc _) (RowV.one _)).mono ?_
              rintro e w3 ⟨v3, rfl, hv3, b3⟩
              have b3' := ((Below.refl w2.heap.size w2).alloc (Nat.le_refl _) (.cells #[.int .i64 1] 3)).trans (b3.mono (by simp))
              have B3 := Lib.hid (B2.out.trans (b3'.mono B2.out.size))
              have HV3 := Lib.hid hv3
              have HV1c := Lib.hid (HV1b.out.below b3' (Nat.le_refl _))
              have HC3 := Lib.hid (HC2.out.below b3' (Nat.le_refl _))
              have z3 := b3'.size
              clear hv3 b3 b3'
              go_wp2_with fail
              refine (less_v _ _ (rv + rv + 1) C _ (HR3.out) HV3.out HC3.out).mono ?_
              rintro e w4 ⟨rfl, b4⟩
              have B4 := Lib.hid (B3.out.trans (b4.mono B3.out.size))
              have HR4 := Lib.hid (HV3.out.below b4 (Nat.le_refl _))
              have HQ4 := Lib.hid (HV1c.out.below b4 (Nat.le_refl _))
              have HC4 := Lib.hid (HC3.out.below b4 (Nat.le_refl _))
              have z4 := b4.size
              clear b4
              go_wp2_with fail
              go_roundw
              case rel => exact div_next A C K m W1 wr w4 _ _ _ _ hj DF.out.1 DF.out.2 HQ4.out HR4.out HBW.out B4.out
              case measure => simp [intOf]
            · have DF := Lib.hid (show A / 2 ^ m / C = qv + qv + 1 ∧ A / 2 ^ m % C = rv + rv + 1 - C by have := F.2 (by omega); rw [HE.out.1, HE.out.2]; exact ⟨this.1, by omega⟩)
              have dl : decide (rv + rv + 1 < C) = false := by simp; omega
              have HGE := Lib.hid (show C ≤ rv + rv + 1 by omega)
              clear F hrC hge
              go_wp2_with fail
              refine (plus_v _ _ qv qv _ HQ1.out HQ1.out HQR.out.1 HQR.out.1).mono ?_
              rintro e w1 ⟨v1, rfl, hv1, b1⟩
              have HV1 := Lib.hid hv1; have B1 := Lib.hid b1
              have HR1 := Lib.hid (HQR.out.2.below b1 (Nat.le_refl _))
              have z1 := b1.size
              clear hv1 b1
              go_wp2_with fail
              refine (plus_v _ _ rv rv _ HR0.out HR0.out HR1.out HR1.out).mono ?_
              rintro e w2 ⟨v2, rfl, hv2, b2⟩
              have B2 := Lib.hid (B1.out.trans (b2.mono B1.out.size))
              have HV2 := Lib.hid hv2
              have HV1b := Lib.hid (HV1.out.below b2 (Nat.le_refl _))
              have HC2 := Lib.hid (HCW.out.below B2.out (Nat.le_refl _))
              have hc2 := (B2.out.cell (p := ⟨bb, ob + m, none⟩) hbbr).trans hcell
              have z2 := b2.size
              clear hv2 b2
              go_wp2_with fail
              refine (plus_v _ _ (rv + rv) 1 _ HR2.out (by unfold Big; decide) (HV2.out.alloc _) (RowV.one _)).mono ?_
              rintro e w3 ⟨v3, rfl, hv3, b3⟩
              have b3' := ((Below.refl w2.heap.size w2).alloc (Nat.le_refl _) (.cells #[.int .i64 1] 3)).trans (b3.mono (by simp))
              have B3 := Lib.hid (B2.out.trans (b3'.mono B2.out.size))
              have HV3 := Lib.hid hv3
              have HV1c := Lib.hid (HV1b.out.below b3' (Nat.le_refl _))
              have HC3 := Lib.hid (HC2.out.below b3' (Nat.le_refl _))
              have z3 := b3'.size
              clear hv3 b3 b3'
              go_wp2_with fail
              refine (less_v _ _ (rv + rv + 1) C _ (HR3.out) HV3.out HC3.out).mono ?_
              rintro e w4 ⟨rfl, b4⟩
              have B4 := Lib.hid (B3.out.trans (b4.mono B3.out.size))
              have HR4 := Lib.hid (HV3.out.below b4 (Nat.le_refl _))
              have HQ4 := Lib.hid (HV1c.out.below b4 (Nat.le_refl _))
              have HC4 := Lib.hid (HC3.out.below b4 (Nat.le_refl _))
              have z4 := b4.size
              clear b4
              go_wp2_with fail
              refine (minus_v _ _ (rv + rv + 1) C _ HGE.out HR3.out HR4.out HC4.out).mono ?_
              rintro e w5 ⟨v5, rfl, hv5, b5⟩
              have B5 := Lib.hid (B4.out.trans (b5.mono B4.out.size))
              have HV5 := Lib.hid hv5
              have HQ5 := Lib.hid (HQ4.out.below b5 (Nat.le_refl _))
              clear hv5 b5
              go_wp2_with fail
              refine (plus_v _ _ (qv + qv) 1 _ HQ2.out (by unfold Big; decide) (HQ5.out.alloc _) (RowV.one _)).mono ?_
              rintro e w6 ⟨v6, rfl, hv6, b6⟩
              have b6' := ((Below.refl w5.heap.size w5).alloc (Nat.le_refl _) (.cells #[.int .i64 1] 3)).trans (b6.mono (by simp))
              have B6 := Lib.hid (B5.out.trans (b6'.mono B5.out.size))
              have HV6 := Lib.hid hv6
              have HR6 := Lib.hid (HV5.out.below b6' (Nat.le_refl _))
              clear hv6 b6 b6'
              go_wp2_with fail
              go_roundw
              case rel => exact div_next A C K m W1 wr w6 _ _ _ _ hj DF.out.1 DF.out.2 HV6.out HR6.out HBW.out B6.out
              case measure => simp [intOf]
    · obtain ⟨ad, nd, capd, rfl, _⟩ := hd.posn hm
      have hk2 := bits_few A k HA.out (Nat.pos_of_ne_zero hm)
      have HO := Lib.hid hown
      have HB := Lib.hid hb
      have HF := Lib.hid (half_v _ _ wr (Nat.le_trans (Nat.div_le_self _ _) HA.out) hd)
      clear hown hb hd hm
      go_wp2_with fail
      refine HF.out.mono ?_
      rintro e w1 ⟨v1, rfl, hv1, hb1, ho1, hlt1⟩
      have HO1 := Lib.hid (own_below HO.out hb1)
      have s1 := HB.out.size
      have s2 := hb1.size
      have HV1 := Lib.hid (And.intro hv1 (And.intro hb1 ho1))
      clear hv1 hb1 ho1
      go_wp2_with (first | (at_builtin; refine append_digit' _ rfl (.tmp 22) (.tmp 24) rfl _ HO1.out rfl rfl (by omega) (by omega) ?_; intro v' w2 hown' hb2 hkeep))
      go_roundw
      case rel => exact bits_next A _ _ wr w1 w2 k _ v' v1 hk2 HO.out HB.out s1 HV1.out.1 HV1.out.2.1 HV1.out.2.2 hlt1 hown' hb2 hkeep
      case measure => rw [own_len hown', own_len HO.out]; omega
end Go.Proofs.YtbjabclgekkpaaaGreatDoor
namespace Go.Proofs.YtbjabclgekkpaaaGreatDoor
open Go.RowKit Go.Shelf
/-- Floor answers the greatest whole number that isn't above. -/
theorem floor_val (neg : Bool) (A C : Nat) (hC : 0 < C) : sgn (neg && decide (0 < floorN neg A C)) (floorN neg A C) = sgn neg A / (C : Int) := by
  cases neg
  · simp [sgn, floorN]
  · by_cases h0 : A % C = 0
    · have e : floorN true A C = A / C := by simp [floorN, h0]
      rw [e]
      have hA : (A : Int) = (C : Int) * ((A / C : Nat) : Int) := by
        have := Nat.div_add_mod A C
        rw [h0, Nat.add_zero] at this
        rw [← Int.natCast_mul, this]
      have e2 : sgn true A / (C : Int) = -((A / C : Nat) : Int) := by
        show -(A : Int) / (C : Int) = _
        rw [hA, ← Int.mul_neg, Int.mul_ediv_cancel_left _ (by omega)]
      rw [e2]
      by_cases hq : 0 < A / C
      · simp [sgn, hq]
      · have : A / C = 0 := by omega
        simp [sgn, this]
    · have e : floorN true A C = A / C + 1 := by simp [floorN]; omega
      rw [e]
      have e2 : sgn true A / (C : Int) = -((A / C + 1 : Nat) : Int) := by
        show -(A : Int) / (C : Int) = _
        have d := Nat.div_add_mod A C
        have l := Nat.mod_lt A hC
        generalize A / C = q at *
        generalize A % C = r at *
        have e3 : -(A : Int) = ((C : Int) - r) + (C : Int) * (-((q : Int) + 1)) := by
          rw [← d, Int.mul_neg, Int.mul_add, Int.natCast_add, Int.natCast_mul]; omega
        rw [e3, Int.add_mul_ediv_left _ _ (by omega), Int.ediv_eq_zero_of_lt (by omega) (by omega)]
        omega
      rw [e2]
      simp [sgn]
theorem near_of (u : Int) (y : Nat) (_hy : 0 < y) : (u + u + (y : Int)) / ((y + y : Nat) : Int) = near u y := by
  unfold near
  have e : u + u + (y : Int) = 2 * (u + (y : Int) / 2) + (y : Int) % 2 := by omega
  have e2 : ((y + y : Nat) : Int) = 2 * (y : Int) := by omega
  rw [e2, ← Int.ediv_ediv_of_nonneg (by decide), e]
  congr 1
  omega
/-- Floor, of numbers with signs. -/
theorem floor_z (v vc : Value) (z : Int) (C : Nat) (w : World) (hC : 0 < C) (bA : z.natAbs ≤ 4 * Big) (bC : C ≤ Big) (h1 : NumV v z w) (h2 : RowV vc C w) :
    Calls Tryz.prog 196 #[v, vc] w (GivesZ (z / (C : Int)) w) := by
  obtain ⟨n, x, a, c, rfl, r, h3, h4, rfl⟩ := h1
  rw [sgn_natAbs] at bA
  refine (floor_any n x C a c vc w hC bA bC ⟨a, c, rfl, r, h3, h4⟩ h2).mono fun e w' hg => ?_
  have := hg.toZ
  rwa [floor_val n x C hC] at this
set_option maxHeartbeats 4000000 in
set_option maxRecDepth 100000 in
theorem near_pos (n : Bool) (x y : Nat) (a b : Option Addr) (c1 c2 : Nat) (w : World) (hy : 0 < y) (bx : x ≤ Big) (by' : y + y ≤ Big) (h1 : RowV (.slice a (dg x).length c1) x w) (h2 : RowV (.slice b (dg y).length c2) y w) :
    Calls Tryz.prog 155 #[.agg #[.bool n, .slice a (dg x).length c1], .agg #[.bool false, .slice b (dg y).length c2]] w (GivesZ (near (sgn n x) y) w) := by
  have K1 := Lib.hid (fun o1 o2 o3 => (NumV.mk (neg := n) ((h1.alloc o1).alloc o2)).below ((Below.refl _ _).alloc (Nat.le_refl _) o3) (Nat.le_refl _))
  have K2 := Lib.hid (fun o1 o2 o3 => (NumV.mk (neg := false) ((h2.alloc o1).alloc o2)).below ((Below.refl _ _).alloc (Nat.le_refl _) o3) (Nat.le_refl _))
  have K3 := Lib.hid (fun o1 o2 o3 => ((h2.alloc o1).alloc o2).alloc o3)
  have F1 := Lib.hid (fair_big (sgn n x) (by rw [sgn_natAbs]; omega))
  have F2 := Lib.hid (fair_big (sgn n x + sgn n x) (by have := sgn_natAbs n x; omega))
  have F3 := Lib.hid (fair_big (sgn false y) (by rw [sgn_natAbs]; omega))
  have BA := Lib.hid (show (sgn n x + sgn n x + sgn false y).natAbs ≤ 4 * Big by have := sgn_natAbs n x; have := sgn_natAbs false y; omega)
  have EQ := Lib.hid (show (sgn n x + sgn n x + sgn false y) / ((y + y : Nat) : Int) = near (sgn n x) y from near_of (sgn n x) y hy)
  have NA0 := Lib.hid (((NumAt.new w n (.slice a (dg x).length c1)).alloc (.cells #[.bool false, .slice b (dg y).length c2] 131)).alloc (.cells #[.bool false, .slice none 0 0] 131))
  have NB0 := Lib.hid ((NumAt.new (w.alloc (.cells #[.bool n, .slice a (dg x).length c1] 131)) false (.slice b (dg y).length c2)).alloc (.cells #[.bool false, .slice none 0 0] 131))
  rw [show (w.alloc (.cells #[.bool n, .slice a (dg x).length c1] 131)).heap.size = w.heap.size + 1 from by simp] at NB0
  have NR0 := Lib.hid (NumAt.new3 w (.cells #[.bool n, .slice a (dg x).length c1] 131) (.cells #[.bool false, .slice b (dg y).length c2] 131) 0)
  have BW := Lib.hid (below3 w (.cells #[.bool n, .slice a (dg x).length c1] 131) (.cells #[.bool false, .slice b (dg y).length c2] 131) (.cells #[.bool false, .slice none 0 0] 131) 1)
  clear h1 h2
  generalize (dg x).length = nx at *
  generalize (dg y).length = ny at *
  go_enter Tryz.func155, Tryz.ntmps155
  go_wp2_with fail
  go_region_held3 (fun w' => w'.cell? ⟨w.heap.size, 0, none⟩ = some (.bool n) ∧ w'.cell? ⟨w.heap.size, 1, none⟩ = some (.slice a nx c1) ∧ w'.cell? ⟨w.heap.size + 1, 0, none⟩ = some (.bool false) ∧ w'.cell? ⟨w.heap.size + 1, 1, none⟩ = some (.slice b ny c2)) (first | (simp [go_sem, World.cell?_alloc_past, *]; done) | (exact ⟨by assumption, by assumption, by assumption, by assumption⟩))
    (first
      | (go_at_call 157; refine (plus_v _ _ y y _ (by omega) (by omega) ?_ ?_).mono ?_; (exact ((show RowV _ _ (World.drew _) from K3.out _ _ _).below b1 (Nat.le_refl _)).below b2 (Nat.le_refl _)); (exact ((show RowV _ _ (World.drew _) from K3.out _ _ _).below b1 (Nat.le_refl _)).below b2 (Nat.le_refl _)); rintro e w3 ⟨v3, rfl, hv3, b3⟩; have NA3 := Lib.hid ((show NumAt _ _ _ _ from NA2.out).below b3 NA2.out.lt); have NB3 := Lib.hid ((show NumAt _ _ _ _ from NB2.out).below b3 NB2.out.lt); have NR3 := Lib.hid ((show NumAt _ _ _ _ from NR2.out).below b3 NR2.out.lt); have pa3 := NA3.out.c0; have pb3 := NA3.out.c1; have pc3 := NB3.out.c0; have pd3 := NB3.out.c1)
      | (go_at_call 119; refine (add_z _ _ (sgn n x) (sgn n x) _ F1.out F1.out ?_ ?_).mono ?_; (exact K1.out _ _ _); (exact K1.out _ _ _); rintro e w1 ⟨v1, rfl, hv1, b1⟩; have NA1 := Lib.hid ((show NumAt _ _ _ (World.drew _) from NA0.out).below b1 NA0.out.lt); have NB1 := Lib.hid ((show NumAt _ _ _ (World.drew _) from NB0.out).below b1 NB0.out.lt); have NR1 := Lib.hid ((show NumAt _ _ _ (World.drew _) from NR0.out).below b1 NR0.out.lt); have pa1 := NA1.out.c0; have pb1 := NA1.out.c1; have pc1 := NB1.out.c0; have pd1 := NB1.out.c1)
      | (go_at_call 119; refine (add_z _ _ (sgn n x + sgn n x) (sgn false y) _ F2.out F3.out ?_ ?_).mono ?_; (exact hv1); (exact (show NumV _ _ (World.drew _) from K2.out _ _ _).below b1 (Nat.le_refl _)); rintro e w2 ⟨v2, rfl, hv2, b2⟩; have NA2 := Lib.hid ((show NumAt _ _ _ _ from NA1.out).below b2 NA1.out.lt); have NB2 := Lib.hid ((show NumAt _ _ _ _ from NB1.out).below b2 NB1.out.lt); have NR2 := Lib.hid ((show NumAt _ _ _ _ from NR1.out).below b2 NR1.out.lt); have pa2 := NA2.out.c0; have pb2 := NA2.out.c1; have pc2 := NB2.out.c0; have pd2 := NB2.out.c1)
      | (go_at_call 196; refine (floor_z _ _ _ (y + y) _ (by omega) BA.out by' ?_ ?_).mono ?_; (exact hv2.below b3 (Nat.le_refl _)); (exact hv3); rintro e w4 ⟨v4, rfl, hv4, b4⟩; obtain ⟨neg4, x4, a4, cap4, rfl, hr4, hl4, hm4, he4⟩ := hv4; have NA4 := Lib.hid ((show NumAt _ _ _ _ from NA3.out).below b4 NA3.out.lt); have NB4 := Lib.hid ((show NumAt _ _ _ _ from NB3.out).below b4 NB3.out.lt); have NR4 := Lib.hid ((show NumAt _ _ _ _ from NR3.out).below b4 NR3.out.lt); have pa4 := NA4.out.c0; have pb4 := NA4.out.c1; have pc4 := NB4.out.c0; have pd4 := NB4.out.c1; have pe4 := NR4.out.c0; have pf4 := NR4.out.c1; have pg4 := NR4.out.z0; have ph4 := NR4.out.z1))
  go_wp2_with fail
  have Bf := (((BW.out.trans (b1.mono BW.out.size)).trans (b2.mono (Nat.le_trans BW.out.size b1.size))).trans (b3.mono (Nat.le_trans BW.out.size (Nat.le_trans b1.size b2.size)))).trans (b4.mono (Nat.le_trans BW.out.size (Nat.le_trans b1.size (Nat.le_trans b2.size b3.size))))
  exact num_closeZ Tryz.results155 NR4.out Bf (by omega) ⟨hr4, hl4, hm4⟩ (EQ.out.symm.trans he4) rfl
set_option maxHeartbeats 4000000 in
set_option maxRecDepth 100000 in
theorem near_neg (n0 n : Bool) (hn : (!n0) = n) (x y : Nat) (a b : Option Addr) (c1 c2 : Nat) (w : World) (hy : 0 < y) (bx : x ≤ Big) (by' : y + y ≤ Big) (h1 : RowV (.slice a (dg x).length c1) x w) (h2 : RowV (.slice b (dg y).length c2) y w) :
    Calls Tryz.prog 155 #[.agg #[.bool n0, .slice a (dg x).length c1], .agg #[.bool true, .slice b (dg y).length c2]] w (GivesZ (near (sgn n x) y) w) := by
  have K1 := Lib.hid (fun o1 o2 o3 => (NumV.mk (neg := n) ((h1.alloc o1).alloc o2)).below ((Below.refl _ _).alloc (Nat.le_refl _) o3) (Nat.le_refl _))
  have K2 := Lib.hid (fun o1 o2 o3 => (NumV.mk (neg := false) ((h2.alloc o1).alloc o2)).below ((Below.refl _ _).alloc (Nat.le_refl _) o3) (Nat.le_refl _))
  have K3 := Lib.hid (fun o1 o2 o3 => ((h2.alloc o1).alloc o2).alloc o3)
  have F1 := Lib.hid (fair_big (sgn n x) (by rw [sgn_natAbs]; omega))
  have F2 := Lib.hid (fair_big (sgn n x + sgn n x) (by have := sgn_natAbs n x; omega))
  have F3 := Lib.hid (fair_big (sgn false y) (by rw [sgn_natAbs]; omega))
  have BA := Lib.hid (show (sgn n x + sgn n x + sgn false y).natAbs ≤ 4 * Big by have := sgn_natAbs n x; have := sgn_natAbs false y; omega)
  have EQ := Lib.hid (show (sgn n x + sgn n x + sgn false y) / ((y + y : Nat) : Int) = near (sgn n x) y from near_of (sgn n x) y hy)
  have NA0 := Lib.hid (((NumAt.new w n (.slice a (dg x).length c1)).alloc (.cells #[.bool false, .slice b (dg y).length c2] 131)).alloc (.cells #[.bool false, .slice none 0 0] 131))
  have NB0 := Lib.hid ((NumAt.new (w.alloc (.cells #[.bool n, .slice a (dg x).length c1] 131)) false (.slice b (dg y).length c2)).alloc (.cells #[.bool false, .slice none 0 0] 131))
  rw [show (w.alloc (.cells #[.bool n, .slice a (dg x).length c1] 131)).heap.size = w.heap.size + 1 from by simp] at NB0
  have NR0 := Lib.hid (NumAt.new3 w (.cells #[.bool n, .slice a (dg x).length c1] 131) (.cells #[.bool false, .slice b (dg y).length c2] 131) 0)
  have BW := Lib.hid (below3 w (.cells #[.bool n, .slice a (dg x).length c1] 131) (.cells #[.bool false, .slice b (dg y).length c2] 131) (.cells #[.bool false, .slice none 0 0] 131) 1)
  clear h1 h2
  generalize (dg x).length = nx at *
  generalize (dg y).length = ny at *
  go_enter Tryz.func155, Tryz.ntmps155
  go_wp2_with fail
  go_region_held3 (fun w' => w'.cell? ⟨w.heap.size, 0, none⟩ = some (.bool n) ∧ w'.cell? ⟨w.heap.size, 1, none⟩ = some (.slice a nx c1) ∧ w'.cell? ⟨w.heap.size + 1, 0, none⟩ = some (.bool false) ∧ w'.cell? ⟨w.heap.size + 1, 1, none⟩ = some (.slice b ny c2)) (first | (simp [go_sem, World.cell?_alloc_past, *]; done) | (exact ⟨by assumption, by assumption, by assumption, by assumption⟩))
    (first
      | (go_at_call 157; refine (plus_v _ _ y y _ (by omega) (by omega) ?_ ?_).mono ?_; (exact ((show RowV _ _ (World.drew _) from K3.out _ _ _).below b1 (Nat.le_refl _)).below b2 (Nat.le_refl _)); (exact ((show RowV _ _ (World.drew _) from K3.out _ _ _).below b1 (Nat.le_refl _)).below b2 (Nat.le_refl _)); rintro e w3 ⟨v3, rfl, hv3, b3⟩; have NA3 := Lib.hid ((show NumAt _ _ _ _ from NA2.out).below b3 NA2.out.lt); have NB3 := Lib.hid ((show NumAt _ _ _ _ from NB2.out).below b3 NB2.out.lt); have NR3 := Lib.hid ((show NumAt _ _ _ _ from NR2.out).below b3 NR2.out.lt); have pa3 := NA3.out.c0; have pb3 := NA3.out.c1; have pc3 := NB3.out.c0; have pd3 := NB3.out.c1)
      | (go_at_call 119; refine (add_z _ _ (sgn n x) (sgn n x) _ F1.out F1.out ?_ ?_).mono ?_; (exact K1.out _ _ _); (exact K1.out _ _ _); rintro e w1 ⟨v1, rfl, hv1, b1⟩; have NA1 := Lib.hid ((show NumAt _ _ _ (World.drew _) from NA0.out).below b1 NA0.out.lt); have NB1 := Lib.hid ((show NumAt _ _ _ (World.drew _) from NB0.out).below b1 NB0.out.lt); have NR1 := Lib.hid ((show NumAt _ _ _ (World.drew _) from NR0.out).below b1 NR0.out.lt); have pa1 := NA1.out.c0; have pb1 := NA1.out.c1; have pc1 := NB1.out.c0; have pd1 := NB1.out.c1)
      | (go_at_call 119; refine (add_z _ _ (sgn n x + sgn n x) (sgn false y) _ F2.out F3.out ?_ ?_).mono ?_; (exact hv1); (exact (show NumV _ _ (World.drew _) from K2.out _ _ _).below b1 (Nat.le_refl _)); rintro e w2 ⟨v2, rfl, hv2, b2⟩; have NA2 := Lib.hid ((show NumAt _ _ _ _ from NA1.out).below b2 NA1.out.lt); have NB2 := Lib.hid ((show NumAt _ _ _ _ from NB1.out).below b2 NB1.out.lt); have NR2 := Lib.hid ((show NumAt _ _ _ _ from NR1.out).below b2 NR1.out.lt); have pa2 := NA2.out.c0; have pb2 := NA2.out.c1; have pc2 := NB2.out.c0; have pd2 := NB2.out.c1)
      | (go_at_call 196; refine (floor_z _ _ _ (y + y) _ (by omega) BA.out by' ?_ ?_).mono ?_; (exact hv2.below b3 (Nat.le_refl _)); (exact hv3); rintro e w4 ⟨v4, rfl, hv4, b4⟩; obtain ⟨neg4, x4, a4, cap4, rfl, hr4, hl4, hm4, he4⟩ := hv4; have NA4 := Lib.hid ((show NumAt _ _ _ _ from NA3.out).below b4 NA3.out.lt); have NB4 := Lib.hid ((show NumAt _ _ _ _ from NB3.out).below b4 NB3.out.lt); have NR4 := Lib.hid ((show NumAt _ _ _ _ from NR3.out).below b4 NR3.out.lt); have pa4 := NA4.out.c0; have pb4 := NA4.out.c1; have pc4 := NB4.out.c0; have pd4 := NB4.out.c1; have pe4 := NR4.out.c0; have pf4 := NR4.out.c1; have pg4 := NR4.out.z0; have ph4 := NR4.out.z1))
  go_wp2_with fail
  have Bf := (((BW.out.trans (b1.mono BW.out.size)).trans (b2.mono (Nat.le_trans BW.out.size b1.size))).trans (b3.mono (Nat.le_trans BW.out.size (Nat.le_trans b1.size b2.size)))).trans (b4.mono (Nat.le_trans BW.out.size (Nat.le_trans b1.size (Nat.le_trans b2.size b3.size))))
  exact num_closeZ Tryz.results155 NR4.out Bf (by omega) ⟨hr4, hl4, hm4⟩ (EQ.out.symm.trans he4) rfl
/-- What Near answers. -/
def nearZ (z1 z2 : Int) : Int := if 0 < z2 then near z1 z2.natAbs else near (-z1) z2.natAbs
theorem near_z (v1 v2 : Value) (z1 z2 : Int) (w : World) (h0 : z2 ≠ 0) (b1 : z1.natAbs ≤ Big) (b2 : z2.natAbs + z2.natAbs ≤ Big) (h1 : NumV v1 z1 w) (h2 : NumV v2 z2 w) :
    Calls Tryz.prog 155 #[v1, v2] w (GivesZ (nearZ z1 z2) w) := by
  obtain ⟨n, x, a, c1, rfl, r1, q1, q2, rfl⟩ := h1
  obtain ⟨m, y, b, c2, rfl, r2, q3, q4, rfl⟩ := h2
  unfold nearZ
  rw [sgn_natAbs] at b1 b2 ⊢
  cases m
  · have hy : 0 < y := by simp [sgn] at h0; omega
    rw [if_pos (by simp [sgn]; omega)]
    exact near_pos n x y a b c1 c2 w hy b1 b2 ⟨a, c1, rfl, r1, q1, q2⟩ ⟨b, c2, rfl, r2, q3, q4⟩
  · have hy : 0 < y := by simp [sgn] at h0; omega
    rw [if_neg (by simp [sgn]), show -sgn n x = sgn (!n) x from by cases n <;> simp [sgn]]
    exact near_neg n (!n) rfl x y a b c1 c2 w hy b1 b2 ⟨a, c1, rfl, r1, q1, q2⟩ ⟨b, c2, rfl, r2, q3, q4⟩
end Go.Proofs.YtbjabclgekkpaaaGreatDoor
