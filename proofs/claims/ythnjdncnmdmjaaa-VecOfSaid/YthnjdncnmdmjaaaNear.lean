/-
  The contract of the document's answer for layer 1: Near, the nearest whole number to a fraction; of two the greater one.
-/
import Derived.Test.YthnjdncnmdmjaaaMulz
import Derived.Test.YthnjdncnmdmjaaaFloor
namespace Go.Proofs.Ythnjdncnmdmjaaa
open Go.RowKit Go.Shelf

/-- Floor answers the greatest whole number that isn't above. -/
theorem floor_val (neg : Bool) (A C : Nat) (hC : 0 < C) : sgn (neg && decide (0 < floorN neg A C)) (floorN neg A C) = sgn neg A / (C : Int) := by
  cases neg
  · simp [sgn, floorN]
  · by_cases h0 : A % C = 0
    · have e : floorN true A C = A / C := by simp [floorN, h0]
      rw [e]
      have hA : (A : Int) = (C : Int) * ((A / C : Nat) : Int) := by
        have := Nat.div_add_mod A C
        rw [h0, Nat.add_zero] at this
        rw [← Int.natCast_mul, this]
      have e2 : sgn true A / (C : Int) = -((A / C : Nat) : Int) := by
        show -(A : Int) / (C : Int) = _
        rw [hA, ← Int.mul_neg, Int.mul_ediv_cancel_left _ (by omega)]
      rw [e2]
      by_cases hq : 0 < A / C
      · simp [sgn, hq]
      · have : A / C = 0 := by omega
        simp [sgn, this]
    · have e : floorN true A C = A / C + 1 := by simp [floorN]; omega
      rw [e]
      have e2 : sgn true A / (C : Int) = -((A / C + 1 : Nat) : Int) := by
        show -(A : Int) / (C : Int) = _
        have d := Nat.div_add_mod A C
        have l := Nat.mod_lt A hC
        generalize A / C = q at *
        generalize A % C = r at *
        have e3 : -(A : Int) = ((C : Int) - r) + (C : Int) * (-((q : Int) + 1)) := by
          rw [← d, Int.mul_neg, Int.mul_add, Int.natCast_add, Int.natCast_mul]; omega
        rw [e3, Int.add_mul_ediv_left _ _ (by omega), Int.ediv_eq_zero_of_lt (by omega) (by omega)]
        omega
      rw [e2]
      simp [sgn]

theorem near_of (u : Int) (y : Nat) (_hy : 0 < y) : (u + u + (y : Int)) / ((y + y : Nat) : Int) = near u y := by
  unfold near
  have e : u + u + (y : Int) = 2 * (u + (y : Int) / 2) + (y : Int) % 2 := by omega
  have e2 : ((y + y : Nat) : Int) = 2 * (y : Int) := by omega
  rw [e2, ← Int.ediv_ediv_of_nonneg (by decide), e]
  congr 1
  omega

/-- Floor, of numbers with signs. -/
theorem floor_z (v vc : Value) (z : Int) (C : Nat) (w : World) (hC : 0 < C) (bA : z.natAbs ≤ 4 * Big) (bC : C ≤ Big) (h1 : NumV v z w) (h2 : RowV vc C w) :
    Calls Try.prog 89 #[v, vc] w (GivesZ (z / (C : Int)) w) := by
  obtain ⟨n, x, a, c, rfl, r, h3, h4, rfl⟩ := h1
  rw [sgn_natAbs] at bA
  refine (floor_any n x C a c vc w hC bA bC ⟨a, c, rfl, r, h3, h4⟩ h2).mono fun e w' hg => ?_
  have := hg.toZ
  rwa [floor_val n x C hC] at this

set_option maxHeartbeats 4000000 in
set_option maxRecDepth 100000 in
theorem near_pos (n : Bool) (x y : Nat) (a b : Option Addr) (c1 c2 : Nat) (w : World) (hy : 0 < y) (bx : x ≤ Big) (by' : y + y ≤ Big) (h1 : RowV (.slice a (dg x).length c1) x w) (h2 : RowV (.slice b (dg y).length c2) y w) :
    Calls Try.prog 75 #[.agg #[.bool n, .slice a (dg x).length c1], .agg #[.bool false, .slice b (dg y).length c2]] w (GivesZ (near (sgn n x) y) w) := by
  have K1 := Lib.hid (fun o1 o2 o3 => (NumV.mk (neg := n) ((h1.alloc o1).alloc o2)).below ((Below.refl _ _).alloc (Nat.le_refl _) o3) (Nat.le_refl _))
  have K2 := Lib.hid (fun o1 o2 o3 => (NumV.mk (neg := false) ((h2.alloc o1).alloc o2)).below ((Below.refl _ _).alloc (Nat.le_refl _) o3) (Nat.le_refl _))
  have K3 := Lib.hid (fun o1 o2 o3 => ((h2.alloc o1).alloc o2).alloc o3)
  have F1 := Lib.hid (fair_big (sgn n x) (by rw [sgn_natAbs]; omega))
  have F2 := Lib.hid (fair_big (sgn n x + sgn n x) (by have := sgn_natAbs n x; omega))
  have F3 := Lib.hid (fair_big (sgn false y) (by rw [sgn_natAbs]; omega))
  have BA := Lib.hid (show (sgn n x + sgn n x + sgn false y).natAbs ≤ 4 * Big by have := sgn_natAbs n x; have := sgn_natAbs false y; omega)
  have EQ := Lib.hid (show (sgn n x + sgn n x + sgn false y) / ((y + y : Nat) : Int) = near (sgn n x) y from near_of (sgn n x) y hy)
  have NA0 := Lib.hid (((NumAt.new w n (.slice a (dg x).length c1)).alloc (.cells #[.bool false, .slice b (dg y).length c2] 66)).alloc (.cells #[.bool false, .slice none 0 0] 66))
  have NB0 := Lib.hid ((NumAt.new (w.alloc (.cells #[.bool n, .slice a (dg x).length c1] 66)) false (.slice b (dg y).length c2)).alloc (.cells #[.bool false, .slice none 0 0] 66))
  rw [show (w.alloc (.cells #[.bool n, .slice a (dg x).length c1] 66)).heap.size = w.heap.size + 1 from by simp] at NB0
  have NR0 := Lib.hid (NumAt.new3 w (.cells #[.bool n, .slice a (dg x).length c1] 66) (.cells #[.bool false, .slice b (dg y).length c2] 66) 0)
  have BW := Lib.hid (below3 w (.cells #[.bool n, .slice a (dg x).length c1] 66) (.cells #[.bool false, .slice b (dg y).length c2] 66) (.cells #[.bool false, .slice none 0 0] 66) 1)
  clear h1 h2
  generalize (dg x).length = nx at *
  generalize (dg y).length = ny at *
  go_enter Try.func75, Try.ntmps75
  go_wp2_with fail
  go_region_held3 (fun w' => w'.cell? ⟨w.heap.size, 0, none⟩ = some (.bool n) ∧ w'.cell? ⟨w.heap.size, 1, none⟩ = some (.slice a nx c1) ∧ w'.cell? ⟨w.heap.size + 1, 0, none⟩ = some (.bool false) ∧ w'.cell? ⟨w.heap.size + 1, 1, none⟩ = some (.slice b ny c2)) (first | (simp [go_sem, World.cell?_alloc_past, *]; done) | (exact ⟨by assumption, by assumption, by assumption, by assumption⟩))
    (first
      | (go_at_call 82; refine (plus_v _ _ y y _ (by omega) (by omega) ?_ ?_).mono ?_; (exact ((show RowV _ _ (World.drew _) from K3.out _ _ _).below b1 (Nat.le_refl _)).below b2 (Nat.le_refl _)); (exact ((show RowV _ _ (World.drew _) from K3.out _ _ _).below b1 (Nat.le_refl _)).below b2 (Nat.le_refl _)); rintro e w3 ⟨v3, rfl, hv3, b3⟩; have NA3 := Lib.hid ((show NumAt _ _ _ _ from NA2.out).below b3 NA2.out.lt); have NB3 := Lib.hid ((show NumAt _ _ _ _ from NB2.out).below b3 NB2.out.lt); have NR3 := Lib.hid ((show NumAt _ _ _ _ from NR2.out).below b3 NR2.out.lt); have pa3 := NA3.out.c0; have pb3 := NA3.out.c1; have pc3 := NB3.out.c0; have pd3 := NB3.out.c1)
      | (go_at_call 66; refine (add_z _ _ (sgn n x) (sgn n x) _ F1.out F1.out ?_ ?_).mono ?_; (exact K1.out _ _ _); (exact K1.out _ _ _); rintro e w1 ⟨v1, rfl, hv1, b1⟩; have NA1 := Lib.hid ((show NumAt _ _ _ (World.drew _) from NA0.out).below b1 NA0.out.lt); have NB1 := Lib.hid ((show NumAt _ _ _ (World.drew _) from NB0.out).below b1 NB0.out.lt); have NR1 := Lib.hid ((show NumAt _ _ _ (World.drew _) from NR0.out).below b1 NR0.out.lt); have pa1 := NA1.out.c0; have pb1 := NA1.out.c1; have pc1 := NB1.out.c0; have pd1 := NB1.out.c1)
      | (go_at_call 66; refine (add_z _ _ (sgn n x + sgn n x) (sgn false y) _ F2.out F3.out ?_ ?_).mono ?_; (exact hv1); (exact (show NumV _ _ (World.drew _) from K2.out _ _ _).below b1 (Nat.le_refl _)); rintro e w2 ⟨v2, rfl, hv2, b2⟩; have NA2 := Lib.hid ((show NumAt _ _ _ _ from NA1.out).below b2 NA1.out.lt); have NB2 := Lib.hid ((show NumAt _ _ _ _ from NB1.out).below b2 NB1.out.lt); have NR2 := Lib.hid ((show NumAt _ _ _ _ from NR1.out).below b2 NR1.out.lt); have pa2 := NA2.out.c0; have pb2 := NA2.out.c1; have pc2 := NB2.out.c0; have pd2 := NB2.out.c1)
      | (go_at_call 89; refine (floor_z _ _ _ (y + y) _ (by omega) BA.out by' ?_ ?_).mono ?_; (exact hv2.below b3 (Nat.le_refl _)); (exact hv3); rintro e w4 ⟨v4, rfl, hv4, b4⟩; obtain ⟨neg4, x4, a4, cap4, rfl, hr4, hl4, hm4, he4⟩ := hv4; have NA4 := Lib.hid ((show NumAt _ _ _ _ from NA3.out).below b4 NA3.out.lt); have NB4 := Lib.hid ((show NumAt _ _ _ _ from NB3.out).below b4 NB3.out.lt); have NR4 := Lib.hid ((show NumAt _ _ _ _ from NR3.out).below b4 NR3.out.lt); have pa4 := NA4.out.c0; have pb4 := NA4.out.c1; have pc4 := NB4.out.c0; have pd4 := NB4.out.c1; have pe4 := NR4.out.c0; have pf4 := NR4.out.c1; have pg4 := NR4.out.z0; have ph4 := NR4.out.z1))
  go_wp2_with fail
  have Bf := (((BW.out.trans (b1.mono BW.out.size)).trans (b2.mono (Nat.le_trans BW.out.size b1.size))).trans (b3.mono (Nat.le_trans BW.out.size (Nat.le_trans b1.size b2.size)))).trans (b4.mono (Nat.le_trans BW.out.size (Nat.le_trans b1.size (Nat.le_trans b2.size b3.size))))
  exact num_closeZ Try.results75 NR4.out Bf (by omega) ⟨hr4, hl4, hm4⟩ (EQ.out.symm.trans he4) rfl

set_option maxHeartbeats 4000000 in
set_option maxRecDepth 100000 in
theorem near_neg (n0 n : Bool) (hn : (!n0) = n) (x y : Nat) (a b : Option Addr) (c1 c2 : Nat) (w : World) (hy : 0 < y) (bx : x ≤ Big) (by' : y + y ≤ Big) (h1 : RowV (.slice a (dg x).length c1) x w) (h2 : RowV (.slice b (dg y).length c2) y w) :
    Calls Try.prog 75 #[.agg #[.bool n0, .slice a (dg x).length c1], .agg #[.bool true, .slice b (dg y).length c2]] w (GivesZ (near (sgn n x) y) w) := by
  have K1 := Lib.hid (fun o1 o2 o3 => (NumV.mk (neg := n) ((h1.alloc o1).alloc o2)).below ((Below.refl _ _).alloc (Nat.le_refl _) o3) (Nat.le_refl _))
  have K2 := Lib.hid (fun o1 o2 o3 => (NumV.mk (neg := false) ((h2.alloc o1).alloc o2)).below ((Below.refl _ _).alloc (Nat.le_refl _) o3) (Nat.le_refl _))
  have K3 := Lib.hid (fun o1 o2 o3 => ((h2.alloc o1).alloc o2).alloc o3)
  have F1 := Lib.hid (fair_big (sgn n x) (by rw [sgn_natAbs]; omega))
  have F2 := Lib.hid (fair_big (sgn n x + sgn n x) (by have := sgn_natAbs n x; omega))
  have F3 := Lib.hid (fair_big (sgn false y) (by rw [sgn_natAbs]; omega))
  have BA := Lib.hid (show (sgn n x + sgn n x + sgn false y).natAbs ≤ 4 * Big by have := sgn_natAbs n x; have := sgn_natAbs false y; omega)
  have EQ := Lib.hid (show (sgn n x + sgn n x + sgn false y) / ((y + y : Nat) : Int) = near (sgn n x) y from near_of (sgn n x) y hy)
  have NA0 := Lib.hid (((NumAt.new w n (.slice a (dg x).length c1)).alloc (.cells #[.bool false, .slice b (dg y).length c2] 66)).alloc (.cells #[.bool false, .slice none 0 0] 66))
  have NB0 := Lib.hid ((NumAt.new (w.alloc (.cells #[.bool n, .slice a (dg x).length c1] 66)) false (.slice b (dg y).length c2)).alloc (.cells #[.bool false, .slice none 0 0] 66))
  rw [show (w.alloc (.cells #[.bool n, .slice a (dg x).length c1] 66)).heap.size = w.heap.size + 1 from by simp] at NB0
  have NR0 := Lib.hid (NumAt.new3 w (.cells #[.bool n, .slice a (dg x).length c1] 66) (.cells #[.bool false, .slice b (dg y).length c2] 66) 0)
  have BW := Lib.hid (below3 w (.cells #[.bool n, .slice a (dg x).length c1] 66) (.cells #[.bool false, .slice b (dg y).length c2] 66) (.cells #[.bool false, .slice none 0 0] 66) 1)
  clear h1 h2
  generalize (dg x).length = nx at *
  generalize (dg y).length = ny at *
  go_enter Try.func75, Try.ntmps75
  go_wp2_with fail
  go_region_held3 (fun w' => w'.cell? ⟨w.heap.size, 0, none⟩ = some (.bool n) ∧ w'.cell? ⟨w.heap.size, 1, none⟩ = some (.slice a nx c1) ∧ w'.cell? ⟨w.heap.size + 1, 0, none⟩ = some (.bool false) ∧ w'.cell? ⟨w.heap.size + 1, 1, none⟩ = some (.slice b ny c2)) (first | (simp [go_sem, World.cell?_alloc_past, *]; done) | (exact ⟨by assumption, by assumption, by assumption, by assumption⟩))
    (first
      | (go_at_call 82; refine (plus_v _ _ y y _ (by omega) (by omega) ?_ ?_).mono ?_; (exact ((show RowV _ _ (World.drew _) from K3.out _ _ _).below b1 (Nat.le_refl _)).below b2 (Nat.le_refl _)); (exact ((show RowV _ _ (World.drew _) from K3.out _ _ _).below b1 (Nat.le_refl _)).below b2 (Nat.le_refl _)); rintro e w3 ⟨v3, rfl, hv3, b3⟩; have NA3 := Lib.hid ((show NumAt _ _ _ _ from NA2.out).below b3 NA2.out.lt); have NB3 := Lib.hid ((show NumAt _ _ _ _ from NB2.out).below b3 NB2.out.lt); have NR3 := Lib.hid ((show NumAt _ _ _ _ from NR2.out).below b3 NR2.out.lt); have pa3 := NA3.out.c0; have pb3 := NA3.out.c1; have pc3 := NB3.out.c0; have pd3 := NB3.out.c1)
      | (go_at_call 66; refine (add_z _ _ (sgn n x) (sgn n x) _ F1.out F1.out ?_ ?_).mono ?_; (exact K1.out _ _ _); (exact K1.out _ _ _); rintro e w1 ⟨v1, rfl, hv1, b1⟩; have NA1 := Lib.hid ((show NumAt _ _ _ (World.drew _) from NA0.out).below b1 NA0.out.lt); have NB1 := Lib.hid ((show NumAt _ _ _ (World.drew _) from NB0.out).below b1 NB0.out.lt); have NR1 := Lib.hid ((show NumAt _ _ _ (World.drew _) from NR0.out).below b1 NR0.out.lt); have pa1 := NA1.out.c0; have pb1 := NA1.out.c1; have pc1 := NB1.out.c0; have pd1 := NB1.out.c1)
      | (go_at_call 66; refine (add_z _ _ (sgn n x + sgn n x) (sgn false y) _ F2.out F3.out ?_ ?_).mono ?_; (exact hv1); (exact (show NumV _ _ (World.drew _) from K2.out _ _ _).below b1 (Nat.le_refl _)); rintro e w2 ⟨v2, rfl, hv2, b2⟩; have NA2 := Lib.hid ((show NumAt _ _ _ _ from NA1.out).below b2 NA1.out.lt); have NB2 := Lib.hid ((show NumAt _ _ _ _ from NB1.out).below b2 NB1.out.lt); have NR2 := Lib.hid ((show NumAt _ _ _ _ from NR1.out).below b2 NR1.out.lt); have pa2 := NA2.out.c0; have pb2 := NA2.out.c1; have pc2 := NB2.out.c0; have pd2 := NB2.out.c1)
      | (go_at_call 89; refine (floor_z _ _ _ (y + y) _ (by omega) BA.out by' ?_ ?_).mono ?_; (exact hv2.below b3 (Nat.le_refl _)); (exact hv3); rintro e w4 ⟨v4, rfl, hv4, b4⟩; obtain ⟨neg4, x4, a4, cap4, rfl, hr4, hl4, hm4, he4⟩ := hv4; have NA4 := Lib.hid ((show NumAt _ _ _ _ from NA3.out).below b4 NA3.out.lt); have NB4 := Lib.hid ((show NumAt _ _ _ _ from NB3.out).below b4 NB3.out.lt); have NR4 := Lib.hid ((show NumAt _ _ _ _ from NR3.out).below b4 NR3.out.lt); have pa4 := NA4.out.c0; have pb4 := NA4.out.c1; have pc4 := NB4.out.c0; have pd4 := NB4.out.c1; have pe4 := NR4.out.c0; have pf4 := NR4.out.c1; have pg4 := NR4.out.z0; have ph4 := NR4.out.z1))
  go_wp2_with fail
  have Bf := (((BW.out.trans (b1.mono BW.out.size)).trans (b2.mono (Nat.le_trans BW.out.size b1.size))).trans (b3.mono (Nat.le_trans BW.out.size (Nat.le_trans b1.size b2.size)))).trans (b4.mono (Nat.le_trans BW.out.size (Nat.le_trans b1.size (Nat.le_trans b2.size b3.size))))
  exact num_closeZ Try.results75 NR4.out Bf (by omega) ⟨hr4, hl4, hm4⟩ (EQ.out.symm.trans he4) rfl

/-- What Near answers. -/
def nearZ (z1 z2 : Int) : Int := if 0 < z2 then near z1 z2.natAbs else near (-z1) z2.natAbs

theorem near_z (v1 v2 : Value) (z1 z2 : Int) (w : World) (h0 : z2 ≠ 0) (b1 : z1.natAbs ≤ Big) (b2 : z2.natAbs + z2.natAbs ≤ Big) (h1 : NumV v1 z1 w) (h2 : NumV v2 z2 w) :
    Calls Try.prog 75 #[v1, v2] w (GivesZ (nearZ z1 z2) w) := by
  obtain ⟨n, x, a, c1, rfl, r1, q1, q2, rfl⟩ := h1
  obtain ⟨m, y, b, c2, rfl, r2, q3, q4, rfl⟩ := h2
  unfold nearZ
  rw [sgn_natAbs] at b1 b2 ⊢
  cases m
  · have hy : 0 < y := by simp [sgn] at h0; omega
    rw [if_pos (by simp [sgn]; omega)]
    exact near_pos n x y a b c1 c2 w hy b1 b2 ⟨a, c1, rfl, r1, q1, q2⟩ ⟨b, c2, rfl, r2, q3, q4⟩
  · have hy : 0 < y := by simp [sgn] at h0; omega
    rw [if_neg (by simp [sgn]), show -sgn n x = sgn (!n) x from by cases n <;> simp [sgn]]
    exact near_neg n (!n) rfl x y a b c1 c2 w hy b1 b2 ⟨a, c1, rfl, r1, q1, q2⟩ ⟨b, c2, rfl, r2, q3, q4⟩
end Go.Proofs.Ythnjdncnmdmjaaa
