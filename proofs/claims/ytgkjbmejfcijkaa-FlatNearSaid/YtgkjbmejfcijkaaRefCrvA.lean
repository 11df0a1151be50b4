/-
  The document's answers of layer 11: At. (Typed by a program: wip/gen_ref11d.py.)
-/
import Derived.Test.YtgkjbmejfcijkaaRefCrvP
namespace Go.Proofs.Ytgkjbmejfcijkaa
open Go.RowKit Go.Shelf

/-- Behind the place that counts. -/
theorem rat11_is (c : Crv) (t : Int) : (Crv.at c (capT t)).1 = b4 c.px c.qx c.rx c.sx (capT t) ∧ (Crv.at c (capT t)).2 = b4 c.py c.qy c.ry c.sy (capT t) := ⟨rfl, rfl⟩
set_option maxHeartbeats 8000000 in
set_option maxRecDepth 100000 in
theorem rat11 (c : Crv) (t : Int) (w : World) (hc : c.right) : Calls Try.prog 20 #[c.val, .int .i64 t] w fun e w' => e = .returned (.agg #[.int .i64 (c.at (capT t)).1, .int .i64 (c.at (capT t)).2]) ∧ Below w.heap.size w w' := by
  have hT := capT_in t
  have hT0 := hT.1; have hT1 := hT.2; clear hT
  have hcap : (t < 0 ∧ capT t = 0) ∨ ((¬ t < 0 ∧ 65536 < t) ∧ capT t = 65536) ∨ ((¬ t < 0 ∧ ¬ 65536 < t) ∧ capT t = t) := by unfold capT; (repeat' split) <;> omega
  obtain ⟨px, py, qx, qy, rx, ry, sx, sy⟩ := c
  unfold Crv.right at hc
  dsimp only at hc
  obtain ⟨⟨kpx, kpy⟩, ⟨kqx, kqy⟩, ⟨krx, kry⟩, ksx, ksy⟩ := hc
  unfold Crv.at b4 b3 Crv.val Crv.arr
  dsimp only
  generalize capT t = T at *
  have Ma := Lib.hid (fun w => rbetw11 px py qx qy T w kpx kpy kqx kqy hT0 hT1)
  have kax := betw40 hT0 hT1 kpx kqx
  generalize betw px qx T = ax at *
  have kay := betw40 hT0 hT1 kpy kqy
  generalize betw py qy T = ay at *
  have Mb := Lib.hid (fun w => rbetw11 qx qy rx ry T w kqx kqy krx kry hT0 hT1)
  have kbx := betw40 hT0 hT1 kqx krx
  generalize betw qx rx T = bx at *
  have kby1 := betw40 hT0 hT1 kqy kry
  generalize betw qy ry T = by1 at *
  have Md := Lib.hid (fun w => rbetw11 rx ry sx sy T w krx kry ksx ksy hT0 hT1)
  have kdx := betw40 hT0 hT1 krx ksx
  generalize betw rx sx T = dx at *
  have kdy := betw40 hT0 hT1 kry ksy
  generalize betw ry sy T = dy at *
  have Me := Lib.hid (fun w => rbetw11 ax ay bx by1 T w kax kay kbx kby1 hT0 hT1)
  have kex := betw40 hT0 hT1 kax kbx
  generalize betw ax bx T = ex at *
  have key := betw40 hT0 hT1 kay kby1
  generalize betw ay by1 T = ey at *
  have Mf := Lib.hid (fun w => rbetw11 bx by1 dx dy T w kbx kby1 kdx kdy hT0 hT1)
  have kfx := betw40 hT0 hT1 kbx kdx
  generalize betw bx dx T = fx at *
  have kfy := betw40 hT0 hT1 kby1 kdy
  generalize betw by1 dy T = fy at *
  have Mg := Lib.hid (fun w => rbetw11 ex ey fx fy T w kex key kfx kfy hT0 hT1)
  have kgx := betw40 hT0 hT1 kex kfx
  generalize betw ex fx T = gx at *
  have kgy := betw40 hT0 hT1 key kfy
  generalize betw ey fy T = gy at *
  clear kpx kpy kqx kqy krx kry ksx ksy kax kay kbx kby1 kdx kdy kex key kfx kfy kgx kgy hT0 hT1
  obtain ⟨k1, k2, k3⟩ := boxes_two w #[.int .i64 px, .int .i64 py, .int .i64 qx, .int .i64 qy, .int .i64 rx, .int .i64 ry, .int .i64 sx, .int .i64 sy] #[.int .i64 0, .int .i64 0] 25 23
  have HC0 := Lib.hid k1; have HZ0 := Lib.hid k2; have HB0 := Lib.hid k3
  clear k1 k2 k3
  rcases hcap with ⟨h1, h2⟩ | ⟨⟨h0, h1⟩, h2⟩ | ⟨⟨h0, h1⟩, h2⟩
  · subst h2
    go_enter Try.func20, Try.ntmps20
    go_upto_region 5 with fail
    generalize ((w.alloc (.cells #[.int .i64 px, .int .i64 py, .int .i64 qx, .int .i64 qy, .int .i64 rx, .int .i64 ry, .int .i64 sx, .int .i64 sy] 25)).alloc (.cells #[.int .i64 0, .int .i64 0] 23)) = w1 at *
    have xC0 : w1.cell? ⟨w.heap.size, 0, none⟩ = some (.int .i64 px) := HC0.out.c 0 rfl
    have xC1 : w1.cell? ⟨w.heap.size, 1, none⟩ = some (.int .i64 py) := HC0.out.c 1 rfl
    have xC2 : w1.cell? ⟨w.heap.size, 2, none⟩ = some (.int .i64 qx) := HC0.out.c 2 rfl
    have xC3 : w1.cell? ⟨w.heap.size, 3, none⟩ = some (.int .i64 qy) := HC0.out.c 3 rfl
    go_wp2_with fail
    refine (Ma.out _).mono ?_
    rintro e u1 ⟨rfl, b1a⟩
    clear xC0 xC1 xC2 xC3
    have HB1a := Lib.hid (HB0.out.trans (b1a.mono HB0.out.size))
    have HC1a := Lib.hid (HC0.out.next b1a)
    have HZ1a := Lib.hid (HZ0.out.next b1a)
    clear b1a
    have bD := (Below.refl u1.heap.size u1).alloc (Nat.le_refl _) (.cells #[.int .i64 ax, .int .i64 ay] 23)
    have HB1b := Lib.hid (HB1a.out.trans (bD.mono HB1a.out.size))
    have HC1b := Lib.hid (HC1a.out.next bD)
    have HZ1b := Lib.hid (HZ1a.out.next bD)
    have HDqa1b := Lib.hid (CBox.new u1 23 #[.int .i64 ax, .int .i64 ay])
    clear bD
    have gqa : w.heap.size + 1 < u1.heap.size := HZ1a.out.lt
    go_upto_region 6 with fail
    generalize u1.alloc (.cells #[.int .i64 ax, .int .i64 ay] 23) = v1_ at *
    generalize u1.heap.size = qa at *
    have xC2 : v1_.cell? ⟨w.heap.size, 2, none⟩ = some (.int .i64 qx) := HC1b.out.c 2 rfl
    have xC3 : v1_.cell? ⟨w.heap.size, 3, none⟩ = some (.int .i64 qy) := HC1b.out.c 3 rfl
    have xC4 : v1_.cell? ⟨w.heap.size, 4, none⟩ = some (.int .i64 rx) := HC1b.out.c 4 rfl
    have xC5 : v1_.cell? ⟨w.heap.size, 5, none⟩ = some (.int .i64 ry) := HC1b.out.c 5 rfl
    go_wp2_with fail
    refine (Mb.out _).mono ?_
    rintro e u2 ⟨rfl, b2a⟩
    clear xC2 xC3 xC4 xC5
    have HB2a := Lib.hid (HB1b.out.trans (b2a.mono HB1b.out.size))
    have HC2a := Lib.hid (HC1b.out.next b2a)
    have HZ2a := Lib.hid (HZ1b.out.next b2a)
    have HDqa2a := Lib.hid (HDqa1b.out.next b2a)
    clear b2a
    have bD := (Below.refl u2.heap.size u2).alloc (Nat.le_refl _) (.cells #[.int .i64 bx, .int .i64 by1] 23)
    have HB2b := Lib.hid (HB2a.out.trans (bD.mono HB2a.out.size))
    have HC2b := Lib.hid (HC2a.out.next bD)
    have HZ2b := Lib.hid (HZ2a.out.next bD)
    have HDqa2b := Lib.hid (HDqa2a.out.next bD)
    have HDqb2b := Lib.hid (CBox.new u2 23 #[.int .i64 bx, .int .i64 by1])
    clear bD
    have gqb : w.heap.size + 1 < u2.heap.size := HZ2a.out.lt
    go_upto_region 7 with fail
    generalize u2.alloc (.cells #[.int .i64 bx, .int .i64 by1] 23) = v2_ at *
    generalize u2.heap.size = qb at *
    have xC4 : v2_.cell? ⟨w.heap.size, 4, none⟩ = some (.int .i64 rx) := HC2b.out.c 4 rfl
    have xC5 : v2_.cell? ⟨w.heap.size, 5, none⟩ = some (.int .i64 ry) := HC2b.out.c 5 rfl
    have xC6 : v2_.cell? ⟨w.heap.size, 6, none⟩ = some (.int .i64 sx) := HC2b.out.c 6 rfl
    have xC7 : v2_.cell? ⟨w.heap.size, 7, none⟩ = some (.int .i64 sy) := HC2b.out.c 7 rfl
    go_wp2_with fail
    refine (Md.out _).mono ?_
    rintro e u3 ⟨rfl, b3a⟩
    clear xC4 xC5 xC6 xC7
    have HB3a := Lib.hid (HB2b.out.trans (b3a.mono HB2b.out.size))
    have HC3a := Lib.hid (HC2b.out.next b3a)
    have HZ3a := Lib.hid (HZ2b.out.next b3a)
    have HDqa3a := Lib.hid (HDqa2b.out.next b3a)
    have HDqb3a := Lib.hid (HDqb2b.out.next b3a)
    clear b3a
    have bD := (Below.refl u3.heap.size u3).alloc (Nat.le_refl _) (.cells #[.int .i64 dx, .int .i64 dy] 23)
    have HB3b := Lib.hid (HB3a.out.trans (bD.mono HB3a.out.size))
    have HC3b := Lib.hid (HC3a.out.next bD)
    have HZ3b := Lib.hid (HZ3a.out.next bD)
    have HDqa3b := Lib.hid (HDqa3a.out.next bD)
    have HDqb3b := Lib.hid (HDqb3a.out.next bD)
    have HDqd3b := Lib.hid (CBox.new u3 23 #[.int .i64 dx, .int .i64 dy])
    clear bD
    have gqd : w.heap.size + 1 < u3.heap.size := HZ3a.out.lt
    go_upto_region 8 with fail
    generalize u3.alloc (.cells #[.int .i64 dx, .int .i64 dy] 23) = v3_ at *
    generalize u3.heap.size = qd at *
    have mqa : ¬ qa = w.heap.size + 1 := by omega
    have nqa : ¬ w.heap.size + 1 = qa := by omega
    have mqb : ¬ qb = w.heap.size + 1 := by omega
    have nqb : ¬ w.heap.size + 1 = qb := by omega
    have mqd : ¬ qd = w.heap.size + 1 := by omega
    have nqd : ¬ w.heap.size + 1 = qd := by omega
    have xDqa0 : v3_.cell? ⟨qa, 0, none⟩ = some (.int .i64 ax) := HDqa3b.out.c 0 rfl
    have xDqa1 : v3_.cell? ⟨qa, 1, none⟩ = some (.int .i64 ay) := HDqa3b.out.c 1 rfl
    have xDqb0 : v3_.cell? ⟨qb, 0, none⟩ = some (.int .i64 bx) := HDqb3b.out.c 0 rfl
    have xDqb1 : v3_.cell? ⟨qb, 1, none⟩ = some (.int .i64 by1) := HDqb3b.out.c 1 rfl
    have xDqd0 : v3_.cell? ⟨qd, 0, none⟩ = some (.int .i64 dx) := HDqd3b.out.c 0 rfl
    have xDqd1 : v3_.cell? ⟨qd, 1, none⟩ = some (.int .i64 dy) := HDqd3b.out.c 1 rfl
    have HBz := Lib.hid (Below.refl v3_.heap.size v3_)
    have HBd := Lib.hid HBz.out.drew
    go_region_held3 (fun w' => w'.cell? ⟨qa, 0, none⟩ = some (.int .i64 ax) ∧ w'.cell? ⟨qa, 1, none⟩ = some (.int .i64 ay) ∧ w'.cell? ⟨qb, 0, none⟩ = some (.int .i64 bx) ∧ w'.cell? ⟨qb, 1, none⟩ = some (.int .i64 by1) ∧ w'.cell? ⟨qd, 0, none⟩ = some (.int .i64 dx) ∧ w'.cell? ⟨qd, 1, none⟩ = some (.int .i64 dy)) (first | (refine ⟨?_, ?_, ?_, ?_, ?_, ?_⟩ <;> first | with_reducible assumption) | (simp [go_sem, *]; done))
      (first
      | (go_at_call 32; (with_reducible refine (Me.out _).mono ?_); rintro e v1 ⟨rfl, bc1⟩; have HBc1 := Lib.hid (HBd.out.trans (bc1.mono HBd.out.size)); clear xDqa0 xDqa1 xDqb0 xDqb1 xDqd0 xDqd1; have hDqa_ := HDqa3b.out.next HBc1.out; have xDqa0 : v1.cell? ⟨qa, 0, none⟩ = some (.int .i64 ax) := hDqa_.c 0 rfl; have xDqa1 : v1.cell? ⟨qa, 1, none⟩ = some (.int .i64 ay) := hDqa_.c 1 rfl; clear hDqa_; have hDqb_ := HDqb3b.out.next HBc1.out; have xDqb0 : v1.cell? ⟨qb, 0, none⟩ = some (.int .i64 bx) := hDqb_.c 0 rfl; have xDqb1 : v1.cell? ⟨qb, 1, none⟩ = some (.int .i64 by1) := hDqb_.c 1 rfl; clear hDqb_; have hDqd_ := HDqd3b.out.next HBc1.out; have xDqd0 : v1.cell? ⟨qd, 0, none⟩ = some (.int .i64 dx) := hDqd_.c 0 rfl; have xDqd1 : v1.cell? ⟨qd, 1, none⟩ = some (.int .i64 dy) := hDqd_.c 1 rfl; clear hDqd_; clear bc1)
      | (go_at_call 32; (with_reducible refine (Mf.out _).mono ?_); rintro e v2 ⟨rfl, bc2⟩; have HBc2 := Lib.hid (HBc1.out.trans (bc2.mono HBc1.out.size)); clear xDqa0 xDqa1 xDqb0 xDqb1 xDqd0 xDqd1; have hDqa_ := HDqa3b.out.next HBc2.out; have xDqa0 : v2.cell? ⟨qa, 0, none⟩ = some (.int .i64 ax) := hDqa_.c 0 rfl; have xDqa1 : v2.cell? ⟨qa, 1, none⟩ = some (.int .i64 ay) := hDqa_.c 1 rfl; clear hDqa_; have hDqb_ := HDqb3b.out.next HBc2.out; have xDqb0 : v2.cell? ⟨qb, 0, none⟩ = some (.int .i64 bx) := hDqb_.c 0 rfl; have xDqb1 : v2.cell? ⟨qb, 1, none⟩ = some (.int .i64 by1) := hDqb_.c 1 rfl; clear hDqb_; have hDqd_ := HDqd3b.out.next HBc2.out; have xDqd0 : v2.cell? ⟨qd, 0, none⟩ = some (.int .i64 dx) := hDqd_.c 0 rfl; have xDqd1 : v2.cell? ⟨qd, 1, none⟩ = some (.int .i64 dy) := hDqd_.c 1 rfl; clear hDqd_; clear bc2)
      | (go_at_call 32; (with_reducible refine (Mg.out _).mono ?_); rintro e v3 ⟨rfl, bc3⟩; have HBc3 := Lib.hid (HBc2.out.trans (bc3.mono HBc2.out.size)); clear xDqa0 xDqa1 xDqb0 xDqb1 xDqd0 xDqd1; have hDqa_ := HDqa3b.out.next HBc3.out; have xDqa0 : v3.cell? ⟨qa, 0, none⟩ = some (.int .i64 ax) := hDqa_.c 0 rfl; have xDqa1 : v3.cell? ⟨qa, 1, none⟩ = some (.int .i64 ay) := hDqa_.c 1 rfl; clear hDqa_; have hDqb_ := HDqb3b.out.next HBc3.out; have xDqb0 : v3.cell? ⟨qb, 0, none⟩ = some (.int .i64 bx) := hDqb_.c 0 rfl; have xDqb1 : v3.cell? ⟨qb, 1, none⟩ = some (.int .i64 by1) := hDqb_.c 1 rfl; clear hDqb_; have hDqd_ := HDqd3b.out.next HBc3.out; have xDqd0 : v3.cell? ⟨qd, 0, none⟩ = some (.int .i64 dx) := hDqd_.c 0 rfl; have xDqd1 : v3.cell? ⟨qd, 1, none⟩ = some (.int .i64 dy) := hDqd_.c 1 rfl; clear hDqd_; have hZ_ := HZ3b.out.next HBc3.out; have uZ0 : v3.cell? ⟨w.heap.size + 1, 0, none⟩ = some (.int .i64 0) := hZ_.c 0 rfl; have rZ0 := hZ_.z 0; have uZ1 : v3.cell? ⟨w.heap.size + 1, 1, none⟩ = some (.int .i64 0) := hZ_.c 1 rfl; have rZ1 := hZ_.z 1; clear hZ_; clear bc3)
      )
    clear xDqa0 xDqa1 xDqb0 xDqb1 xDqd0 xDqd1
    clear uZ0 rZ0 uZ1 rZ1
    have HB9 := Lib.hid (HB3b.out.trans (HBc3.out.mono HB3b.out.size))
    have HZ9 := Lib.hid (HZ3b.out.next HBc3.out)
    go_wp2_with fail
    exact pe_ret Try.results20 (PBox.set HZ9.out _ _) (below_pt8 HB9.out (by omega) _ _) rfl
  · subst h2
    go_enter Try.func20, Try.ntmps20
    go_upto_region 5 with fail
    generalize ((w.alloc (.cells #[.int .i64 px, .int .i64 py, .int .i64 qx, .int .i64 qy, .int .i64 rx, .int .i64 ry, .int .i64 sx, .int .i64 sy] 25)).alloc (.cells #[.int .i64 0, .int .i64 0] 23)) = w1 at *
    have xC0 : w1.cell? ⟨w.heap.size, 0, none⟩ = some (.int .i64 px) := HC0.out.c 0 rfl
    have xC1 : w1.cell? ⟨w.heap.size, 1, none⟩ = some (.int .i64 py) := HC0.out.c 1 rfl
    have xC2 : w1.cell? ⟨w.heap.size, 2, none⟩ = some (.int .i64 qx) := HC0.out.c 2 rfl
    have xC3 : w1.cell? ⟨w.heap.size, 3, none⟩ = some (.int .i64 qy) := HC0.out.c 3 rfl
    go_wp2_with fail
    refine (Ma.out _).mono ?_
    rintro e u1 ⟨rfl, b1a⟩
    clear xC0 xC1 xC2 xC3
    have HB1a := Lib.hid (HB0.out.trans (b1a.mono HB0.out.size))
    have HC1a := Lib.hid (HC0.out.next b1a)
    have HZ1a := Lib.hid (HZ0.out.next b1a)
    clear b1a
    have bD := (Below.refl u1.heap.size u1).alloc (Nat.le_refl _) (.cells #[.int .i64 ax, .int .i64 ay] 23)
    have HB1b := Lib.hid (HB1a.out.trans (bD.mono HB1a.out.size))
    have HC1b := Lib.hid (HC1a.out.next bD)
    have HZ1b := Lib.hid (HZ1a.out.next bD)
    have HDqa1b := Lib.hid (CBox.new u1 23 #[.int .i64 ax, .int .i64 ay])
    clear bD
    have gqa : w.heap.size + 1 < u1.heap.size := HZ1a.out.lt
    go_upto_region 6 with fail
    generalize u1.alloc (.cells #[.int .i64 ax, .int .i64 ay] 23) = v1_ at *
    generalize u1.heap.size = qa at *
    have xC2 : v1_.cell? ⟨w.heap.size, 2, none⟩ = some (.int .i64 qx) := HC1b.out.c 2 rfl
    have xC3 : v1_.cell? ⟨w.heap.size, 3, none⟩ = some (.int .i64 qy) := HC1b.out.c 3 rfl
    have xC4 : v1_.cell? ⟨w.heap.size, 4, none⟩ = some (.int .i64 rx) := HC1b.out.c 4 rfl
    have xC5 : v1_.cell? ⟨w.heap.size, 5, none⟩ = some (.int .i64 ry) := HC1b.out.c 5 rfl
    go_wp2_with fail
    refine (Mb.out _).mono ?_
    rintro e u2 ⟨rfl, b2a⟩
    clear xC2 xC3 xC4 xC5
    have HB2a := Lib.hid (HB1b.out.trans (b2a.mono HB1b.out.size))
    have HC2a := Lib.hid (HC1b.out.next b2a)
    have HZ2a := Lib.hid (HZ1b.out.next b2a)
    have HDqa2a := Lib.hid (HDqa1b.out.next b2a)
    clear b2a
    have bD := (Below.refl u2.heap.size u2).alloc (Nat.le_refl _) (.cells #[.int .i64 bx, .int .i64 by1] 23)
    have HB2b := Lib.hid (HB2a.out.trans (bD.mono HB2a.out.size))
    have HC2b := Lib.hid (HC2a.out.next bD)
    have HZ2b := Lib.hid (HZ2a.out.next bD)
    have HDqa2b := Lib.hid (HDqa2a.out.next bD)
    have HDqb2b := Lib.hid (CBox.new u2 23 #[.int .i64 bx, .int .i64 by1])
    clear bD
    have gqb : w.heap.size + 1 < u2.heap.size := HZ2a.out.lt
    go_upto_region 7 with fail
    generalize u2.alloc (.cells #[.int .i64 bx, .int .i64 by1] 23) = v2_ at *
    generalize u2.heap.size = qb at *
    have xC4 : v2_.cell? ⟨w.heap.size, 4, none⟩ = some (.int .i64 rx) := HC2b.out.c 4 rfl
    have xC5 : v2_.cell? ⟨w.heap.size, 5, none⟩ = some (.int .i64 ry) := HC2b.out.c 5 rfl
    have xC6 : v2_.cell? ⟨w.heap.size, 6, none⟩ = some (.int .i64 sx) := HC2b.out.c 6 rfl
    have xC7 : v2_.cell? ⟨w.heap.size, 7, none⟩ = some (.int .i64 sy) := HC2b.out.c 7 rfl
    go_wp2_with fail
    refine (Md.out _).mono ?_
    rintro e u3 ⟨rfl, b3a⟩
    clear xC4 xC5 xC6 xC7
    have HB3a := Lib.hid (HB2b.out.trans (b3a.mono HB2b.out.size))
    have HC3a := Lib.hid (HC2b.out.next b3a)
    have HZ3a := Lib.hid (HZ2b.out.next b3a)
    have HDqa3a := Lib.hid (HDqa2b.out.next b3a)
    have HDqb3a := Lib.hid (HDqb2b.out.next b3a)
    clear b3a
    have bD := (Below.refl u3.heap.size u3).alloc (Nat.le_refl _) (.cells #[.int .i64 dx, .int .i64 dy] 23)
    have HB3b := Lib.hid (HB3a.out.trans (bD.mono HB3a.out.size))
    have HC3b := Lib.hid (HC3a.out.next bD)
    have HZ3b := Lib.hid (HZ3a.out.next bD)
    have HDqa3b := Lib.hid (HDqa3a.out.next bD)
    have HDqb3b := Lib.hid (HDqb3a.out.next bD)
    have HDqd3b := Lib.hid (CBox.new u3 23 #[.int .i64 dx, .int .i64 dy])
    clear bD
    have gqd : w.heap.size + 1 < u3.heap.size := HZ3a.out.lt
    go_upto_region 8 with fail
    generalize u3.alloc (.cells #[.int .i64 dx, .int .i64 dy] 23) = v3_ at *
    generalize u3.heap.size = qd at *
    have mqa : ¬ qa = w.heap.size + 1 := by omega
    have nqa : ¬ w.heap.size + 1 = qa := by omega
    have mqb : ¬ qb = w.heap.size + 1 := by omega
    have nqb : ¬ w.heap.size + 1 = qb := by omega
    have mqd : ¬ qd = w.heap.size + 1 := by omega
    have nqd : ¬ w.heap.size + 1 = qd := by omega
    have xDqa0 : v3_.cell? ⟨qa, 0, none⟩ = some (.int .i64 ax) := HDqa3b.out.c 0 rfl
    have xDqa1 : v3_.cell? ⟨qa, 1, none⟩ = some (.int .i64 ay) := HDqa3b.out.c 1 rfl
    have xDqb0 : v3_.cell? ⟨qb, 0, none⟩ = some (.int .i64 bx) := HDqb3b.out.c 0 rfl
    have xDqb1 : v3_.cell? ⟨qb, 1, none⟩ = some (.int .i64 by1) := HDqb3b.out.c 1 rfl
    have xDqd0 : v3_.cell? ⟨qd, 0, none⟩ = some (.int .i64 dx) := HDqd3b.out.c 0 rfl
    have xDqd1 : v3_.cell? ⟨qd, 1, none⟩ = some (.int .i64 dy) := HDqd3b.out.c 1 rfl
    have HBz := Lib.hid (Below.refl v3_.heap.size v3_)
    have HBd := Lib.hid HBz.out.drew
    go_region_held3 (fun w' => w'.cell? ⟨qa, 0, none⟩ = some (.int .i64 ax) ∧ w'.cell? ⟨qa, 1, none⟩ = some (.int .i64 ay) ∧ w'.cell? ⟨qb, 0, none⟩ = some (.int .i64 bx) ∧ w'.cell? ⟨qb, 1, none⟩ = some (.int .i64 by1) ∧ w'.cell? ⟨qd, 0, none⟩ = some (.int .i64 dx) ∧ w'.cell? ⟨qd, 1, none⟩ = some (.int .i64 dy)) (first | (refine ⟨?_, ?_, ?_, ?_, ?_, ?_⟩ <;> first | with_reducible assumption) | (simp [go_sem, *]; done))
      (first
      | (go_at_call 32; (with_reducible refine (Me.out _).mono ?_); rintro e v1 ⟨rfl, bc1⟩; have HBc1 := Lib.hid (HBd.out.trans (bc1.mono HBd.out.size)); clear xDqa0 xDqa1 xDqb0 xDqb1 xDqd0 xDqd1; have hDqa_ := HDqa3b.out.next HBc1.out; have xDqa0 : v1.cell? ⟨qa, 0, none⟩ = some (.int .i64 ax) := hDqa_.c 0 rfl; have xDqa1 : v1.cell? ⟨qa, 1, none⟩ = some (.int .i64 ay) := hDqa_.c 1 rfl; clear hDqa_; have hDqb_ := HDqb3b.out.next HBc1.out; have xDqb0 : v1.cell? ⟨qb, 0, none⟩ = some (.int .i64 bx) := hDqb_.c 0 rfl; have xDqb1 : v1.cell? ⟨qb, 1, none⟩ = some (.int .i64 by1) := hDqb_.c 1 rfl; clear hDqb_; have hDqd_ := HDqd3b.out.next HBc1.out; have xDqd0 : v1.cell? ⟨qd, 0, none⟩ = some (.int .i64 dx) := hDqd_.c 0 rfl; have xDqd1 : v1.cell? ⟨qd, 1, none⟩ = some (.int .i64 dy) := hDqd_.c 1 rfl; clear hDqd_; clear bc1)
      | (go_at_call 32; (with_reducible refine (Mf.out _).mono ?_); rintro e v2 ⟨rfl, bc2⟩; have HBc2 := Lib.hid (HBc1.out.trans (bc2.mono HBc1.out.size)); clear xDqa0 xDqa1 xDqb0 xDqb1 xDqd0 xDqd1; have hDqa_ := HDqa3b.out.next HBc2.out; have xDqa0 : v2.cell? ⟨qa, 0, none⟩ = some (.int .i64 ax) := hDqa_.c 0 rfl; have xDqa1 : v2.cell? ⟨qa, 1, none⟩ = some (.int .i64 ay) := hDqa_.c 1 rfl; clear hDqa_; have hDqb_ := HDqb3b.out.next HBc2.out; have xDqb0 : v2.cell? ⟨qb, 0, none⟩ = some (.int .i64 bx) := hDqb_.c 0 rfl; have xDqb1 : v2.cell? ⟨qb, 1, none⟩ = some (.int .i64 by1) := hDqb_.c 1 rfl; clear hDqb_; have hDqd_ := HDqd3b.out.next HBc2.out; have xDqd0 : v2.cell? ⟨qd, 0, none⟩ = some (.int .i64 dx) := hDqd_.c 0 rfl; have xDqd1 : v2.cell? ⟨qd, 1, none⟩ = some (.int .i64 dy) := hDqd_.c 1 rfl; clear hDqd_; clear bc2)
      | (go_at_call 32; (with_reducible refine (Mg.out _).mono ?_); rintro e v3 ⟨rfl, bc3⟩; have HBc3 := Lib.hid (HBc2.out.trans (bc3.mono HBc2.out.size)); clear xDqa0 xDqa1 xDqb0 xDqb1 xDqd0 xDqd1; have hDqa_ := HDqa3b.out.next HBc3.out; have xDqa0 : v3.cell? ⟨qa, 0, none⟩ = some (.int .i64 ax) := hDqa_.c 0 rfl; have xDqa1 : v3.cell? ⟨qa, 1, none⟩ = some (.int .i64 ay) := hDqa_.c 1 rfl; clear hDqa_; have hDqb_ := HDqb3b.out.next HBc3.out; have xDqb0 : v3.cell? ⟨qb, 0, none⟩ = some (.int .i64 bx) := hDqb_.c 0 rfl; have xDqb1 : v3.cell? ⟨qb, 1, none⟩ = some (.int .i64 by1) := hDqb_.c 1 rfl; clear hDqb_; have hDqd_ := HDqd3b.out.next HBc3.out; have xDqd0 : v3.cell? ⟨qd, 0, none⟩ = some (.int .i64 dx) := hDqd_.c 0 rfl; have xDqd1 : v3.cell? ⟨qd, 1, none⟩ = some (.int .i64 dy) := hDqd_.c 1 rfl; clear hDqd_; have hZ_ := HZ3b.out.next HBc3.out; have uZ0 : v3.cell? ⟨w.heap.size + 1, 0, none⟩ = some (.int .i64 0) := hZ_.c 0 rfl; have rZ0 := hZ_.z 0; have uZ1 : v3.cell? ⟨w.heap.size + 1, 1, none⟩ = some (.int .i64 0) := hZ_.c 1 rfl; have rZ1 := hZ_.z 1; clear hZ_; clear bc3)
      )
    clear xDqa0 xDqa1 xDqb0 xDqb1 xDqd0 xDqd1
    clear uZ0 rZ0 uZ1 rZ1
    have HB9 := Lib.hid (HB3b.out.trans (HBc3.out.mono HB3b.out.size))
    have HZ9 := Lib.hid (HZ3b.out.next HBc3.out)
    go_wp2_with fail
    exact pe_ret Try.results20 (PBox.set HZ9.out _ _) (below_pt8 HB9.out (by omega) _ _) rfl
  · subst h2
    go_enter Try.func20, Try.ntmps20
    go_upto_region 5 with fail
    generalize ((w.alloc (.cells #[.int .i64 px, .int .i64 py, .int .i64 qx, .int .i64 qy, .int .i64 rx, .int .i64 ry, .int .i64 sx, .int .i64 sy] 25)).alloc (.cells #[.int .i64 0, .int .i64 0] 23)) = w1 at *
    have xC0 : w1.cell? ⟨w.heap.size, 0, none⟩ = some (.int .i64 px) := HC0.out.c 0 rfl
    have xC1 : w1.cell? ⟨w.heap.size, 1, none⟩ = some (.int .i64 py) := HC0.out.c 1 rfl
    have xC2 : w1.cell? ⟨w.heap.size, 2, none⟩ = some (.int .i64 qx) := HC0.out.c 2 rfl
    have xC3 : w1.cell? ⟨w.heap.size, 3, none⟩ = some (.int .i64 qy) := HC0.out.c 3 rfl
    go_wp2_with fail
    refine (Ma.out _).mono ?_
    rintro e u1 ⟨rfl, b1a⟩
    clear xC0 xC1 xC2 xC3
    have HB1a := Lib.hid (HB0.out.trans (b1a.mono HB0.out.size))
    have HC1a := Lib.hid (HC0.out.next b1a)
    have HZ1a := Lib.hid (HZ0.out.next b1a)
    clear b1a
    have bD := (Below.refl u1.heap.size u1).alloc (Nat.le_refl _) (.cells #[.int .i64 ax, .int .i64 ay] 23)
    have HB1b := Lib.hid (HB1a.out.trans (bD.mono HB1a.out.size))
    have HC1b := Lib.hid (HC1a.out.next bD)
    have HZ1b := Lib.hid (HZ1a.out.next bD)
    have HDqa1b := Lib.hid (CBox.new u1 23 #[.int .i64 ax, .int .i64 ay])
    clear bD
    have gqa : w.heap.size + 1 < u1.heap.size := HZ1a.out.lt
    go_upto_region 6 with fail
    generalize u1.alloc (.cells #[.int .i64 ax, .int .i64 ay] 23) = v1_ at *
    generalize u1.heap.size = qa at *
    have xC2 : v1_.cell? ⟨w.heap.size, 2, none⟩ = some (.int .i64 qx) := HC1b.out.c 2 rfl
    have xC3 : v1_.cell? ⟨w.heap.size, 3, none⟩ = some (.int .i64 qy) := HC1b.out.c 3 rfl
    have xC4 : v1_.cell? ⟨w.heap.size, 4, none⟩ = some (.int .i64 rx) := HC1b.out.c 4 rfl
    have xC5 : v1_.cell? ⟨w.heap.size, 5, none⟩ = some (.int .i64 ry) := HC1b.out.c 5 rfl
    go_wp2_with fail
    refine (Mb.out _).mono ?_
    rintro e u2 ⟨rfl, b2a⟩
    clear xC2 xC3 xC4 xC5
    have HB2a := Lib.hid (HB1b.out.trans (b2a.mono HB1b.out.size))
    have HC2a := Lib.hid (HC1b.out.next b2a)
    have HZ2a := Lib.hid (HZ1b.out.next b2a)
    have HDqa2a := Lib.hid (HDqa1b.out.next b2a)
    clear b2a
    have bD := (Below.refl u2.heap.size u2).alloc (Nat.le_refl _) (.cells #[.int .i64 bx, .int .i64 by1] 23)
    have HB2b := Lib.hid (HB2a.out.trans (bD.mono HB2a.out.size))
    have HC2b := Lib.hid (HC2a.out.next bD)
    have HZ2b := Lib.hid (HZ2a.out.next bD)
    have HDqa2b := Lib.hid (HDqa2a.out.next bD)
    have HDqb2b := Lib.hid (CBox.new u2 23 #[.int .i64 bx, .int .i64 by1])
    clear bD
    have gqb : w.heap.size + 1 < u2.heap.size := HZ2a.out.lt
    go_upto_region 7 with fail
    generalize u2.alloc (.cells #[.int .i64 bx, .int .i64 by1] 23) = v2_ at *
    generalize u2.heap.size = qb at *
    have xC4 : v2_.cell? ⟨w.heap.size, 4, none⟩ = some (.int .i64 rx) := HC2b.out.c 4 rfl
    have xC5 : v2_.cell? ⟨w.heap.size, 5, none⟩ = some (.int .i64 ry) := HC2b.out.c 5 rfl
    have xC6 : v2_.cell? ⟨w.heap.size, 6, none⟩ = some (.int .i64 sx) := HC2b.out.c 6 rfl
    have xC7 : v2_.cell? ⟨w.heap.size, 7, none⟩ = some (.int .i64 sy) := HC2b.out.c 7 rfl
    go_wp2_with fail
    refine (Md.out _).mono ?_
    rintro e u3 ⟨rfl, b3a⟩
    clear xC4 xC5 xC6 xC7
    have HB3a := Lib.hid (HB2b.out.trans (b3a.mono HB2b.out.size))
    have HC3a := Lib.hid (HC2b.out.next b3a)
    have HZ3a := Lib.hid (HZ2b.out.next b3a)
    have HDqa3a := Lib.hid (HDqa2b.out.next b3a)
    have HDqb3a := Lib.hid (HDqb2b.out.next b3a)
    clear b3a
    have bD := (Below.refl u3.heap.size u3).alloc (Nat.le_refl _) (.cells #[.int .i64 dx, .int .i64 dy] 23)
    have HB3b := Lib.hid (HB3a.out.trans (bD.mono HB3a.out.size))
    have HC3b := Lib.hid (HC3a.out.next bD)
    have HZ3b := Lib.hid (HZ3a.out.next bD)
    have HDqa3b := Lib.hid (HDqa3a.out.next bD)
    have HDqb3b := Lib.hid (HDqb3a.out.next bD)
    have HDqd3b := Lib.hid (CBox.new u3 23 #[.int .i64 dx, .int .i64 dy])
    clear bD
    have gqd : w.heap.size + 1 < u3.heap.size := HZ3a.out.lt
    go_upto_region 8 with fail
    generalize u3.alloc (.cells #[.int .i64 dx, .int .i64 dy] 23) = v3_ at *
    generalize u3.heap.size = qd at *
    have mqa : ¬ qa = w.heap.size + 1 := by omega
    have nqa : ¬ w.heap.size + 1 = qa := by omega
    have mqb : ¬ qb = w.heap.size + 1 := by omega
    have nqb : ¬ w.heap.size + 1 = qb := by omega
    have mqd : ¬ qd = w.heap.size + 1 := by omega
    have nqd : ¬ w.heap.size + 1 = qd := by omega
    have xDqa0 : v3_.cell? ⟨qa, 0, none⟩ = some (.int .i64 ax) := HDqa3b.out.c 0 rfl
    have xDqa1 : v3_.cell? ⟨qa, 1, none⟩ = some (.int .i64 ay) := HDqa3b.out.c 1 rfl
    have xDqb0 : v3_.cell? ⟨qb, 0, none⟩ = some (.int .i64 bx) := HDqb3b.out.c 0 rfl
    have xDqb1 : v3_.cell? ⟨qb, 1, none⟩ = some (.int .i64 by1) := HDqb3b.out.c 1 rfl
    have xDqd0 : v3_.cell? ⟨qd, 0, none⟩ = some (.int .i64 dx) := HDqd3b.out.c 0 rfl
    have xDqd1 : v3_.cell? ⟨qd, 1, none⟩ = some (.int .i64 dy) := HDqd3b.out.c 1 rfl
    have HBz := Lib.hid (Below.refl v3_.heap.size v3_)
    have HBd := Lib.hid HBz.out.drew
    go_region_held3 (fun w' => w'.cell? ⟨qa, 0, none⟩ = some (.int .i64 ax) ∧ w'.cell? ⟨qa, 1, none⟩ = some (.int .i64 ay) ∧ w'.cell? ⟨qb, 0, none⟩ = some (.int .i64 bx) ∧ w'.cell? ⟨qb, 1, none⟩ = some (.int .i64 by1) ∧ w'.cell? ⟨qd, 0, none⟩ = some (.int .i64 dx) ∧ w'.cell? ⟨qd, 1, none⟩ = some (.int .i64 dy)) (first | (refine ⟨?_, ?_, ?_, ?_, ?_, ?_⟩ <;> first | with_reducible assumption) | (simp [go_sem, *]; done))
      (first
      | (go_at_call 32; (with_reducible refine (Me.out _).mono ?_); rintro e v1 ⟨rfl, bc1⟩; have HBc1 := Lib.hid (HBd.out.trans (bc1.mono HBd.out.size)); clear xDqa0 xDqa1 xDqb0 xDqb1 xDqd0 xDqd1; have hDqa_ := HDqa3b.out.next HBc1.out; have xDqa0 : v1.cell? ⟨qa, 0, none⟩ = some (.int .i64 ax) := hDqa_.c 0 rfl; have xDqa1 : v1.cell? ⟨qa, 1, none⟩ = some (.int .i64 ay) := hDqa_.c 1 rfl; clear hDqa_; have hDqb_ := HDqb3b.out.next HBc1.out; have xDqb0 : v1.cell? ⟨qb, 0, none⟩ = some (.int .i64 bx) := hDqb_.c 0 rfl; have xDqb1 : v1.cell? ⟨qb, 1, none⟩ = some (.int .i64 by1) := hDqb_.c 1 rfl; clear hDqb_; have hDqd_ := HDqd3b.out.next HBc1.out; have xDqd0 : v1.cell? ⟨qd, 0, none⟩ = some (.int .i64 dx) := hDqd_.c 0 rfl; have xDqd1 : v1.cell? ⟨qd, 1, none⟩ = some (.int .i64 dy) := hDqd_.c 1 rfl; clear hDqd_; clear bc1)
      | (go_at_call 32; (with_reducible refine (Mf.out _).mono ?_); rintro e v2 ⟨rfl, bc2⟩; have HBc2 := Lib.hid (HBc1.out.trans (bc2.mono HBc1.out.size)); clear xDqa0 xDqa1 xDqb0 xDqb1 xDqd0 xDqd1; have hDqa_ := HDqa3b.out.next HBc2.out; have xDqa0 : v2.cell? ⟨qa, 0, none⟩ = some (.int .i64 ax) := hDqa_.c 0 rfl; have xDqa1 : v2.cell? ⟨qa, 1, none⟩ = some (.int .i64 ay) := hDqa_.c 1 rfl; clear hDqa_; have hDqb_ := HDqb3b.out.next HBc2.out; have xDqb0 : v2.cell? ⟨qb, 0, none⟩ = some (.int .i64 bx) := hDqb_.c 0 rfl; have xDqb1 : v2.cell? ⟨qb, 1, none⟩ = some (.int .i64 by1) := hDqb_.c 1 rfl; clear hDqb_; have hDqd_ := HDqd3b.out.next HBc2.out; have xDqd0 : v2.cell? ⟨qd, 0, none⟩ = some (.int .i64 dx) := hDqd_.c 0 rfl; have xDqd1 : v2.cell? ⟨qd, 1, none⟩ = some (.int .i64 dy) := hDqd_.c 1 rfl; clear hDqd_; clear bc2)
      | (go_at_call 32; (with_reducible refine (Mg.out _).mono ?_); rintro e v3 ⟨rfl, bc3⟩; have HBc3 := Lib.hid (HBc2.out.trans (bc3.mono HBc2.out.size)); clear xDqa0 xDqa1 xDqb0 xDqb1 xDqd0 xDqd1; have hDqa_ := HDqa3b.out.next HBc3.out; have xDqa0 : v3.cell? ⟨qa, 0, none⟩ = some (.int .i64 ax) := hDqa_.c 0 rfl; have xDqa1 : v3.cell? ⟨qa, 1, none⟩ = some (.int .i64 ay) := hDqa_.c 1 rfl; clear hDqa_; have hDqb_ := HDqb3b.out.next HBc3.out; have xDqb0 : v3.cell? ⟨qb, 0, none⟩ = some (.int .i64 bx) := hDqb_.c 0 rfl; have xDqb1 : v3.cell? ⟨qb, 1, none⟩ = some (.int .i64 by1) := hDqb_.c 1 rfl; clear hDqb_; have hDqd_ := HDqd3b.out.next HBc3.out; have xDqd0 : v3.cell? ⟨qd, 0, none⟩ = some (.int .i64 dx) := hDqd_.c 0 rfl; have xDqd1 : v3.cell? ⟨qd, 1, none⟩ = some (.int .i64 dy) := hDqd_.c 1 rfl; clear hDqd_; have hZ_ := HZ3b.out.next HBc3.out; have uZ0 : v3.cell? ⟨w.heap.size + 1, 0, none⟩ = some (.int .i64 0) := hZ_.c 0 rfl; have rZ0 := hZ_.z 0; have uZ1 : v3.cell? ⟨w.heap.size + 1, 1, none⟩ = some (.int .i64 0) := hZ_.c 1 rfl; have rZ1 := hZ_.z 1; clear hZ_; clear bc3)
      )
    clear xDqa0 xDqa1 xDqb0 xDqb1 xDqd0 xDqd1
    clear uZ0 rZ0 uZ1 rZ1
    have HB9 := Lib.hid (HB3b.out.trans (HBc3.out.mono HB3b.out.size))
    have HZ9 := Lib.hid (HZ3b.out.next HBc3.out)
    go_wp2_with fail
    exact pe_ret Try.results20 (PBox.set HZ9.out _ _) (below_pt8 HB9.out (by omega) _ _) rfl
end Go.Proofs.Ytgkjbmejfcijkaa
