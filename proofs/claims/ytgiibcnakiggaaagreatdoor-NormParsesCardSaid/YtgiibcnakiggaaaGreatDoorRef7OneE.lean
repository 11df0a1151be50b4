/-
  The document's segment of one command: Ref7OneE. (Typed by a program.)
-/
import Derived.Test.YtgiibcnakiggaaaGreatDoorRef7One
namespace Go.Proofs.YtgiibcnakiggaaaGreatDoor
open Go.RowKit Go.Shelf

set_option maxHeartbeats 8000000 in
set_option maxRecDepth 100000 in
theorem one_Tsq (c : Nat) (aa : Option Addr) (ac : Nat) (zs : List Int) (px py : Int) (a : Option Addr) (l : List Seg) (cap was : Nat) (w : World) (hc99 : cntL c ≠ 99) (hz : zs.length = 2) (hin : ∀ i, In32 (nA zs i)) (hI : IntsK .i64 aa zs w) (hA : RdS a l w) (hl : l.length ≤ 100000000) (hcap : capL c = 84) (h97 : 97 ≤ c) (hp : In32 px ∧ In32 py) (hne : l ≠ []) (hlast : inB (l.getLastD zeroS)) (hwas : was = 81) :
    Calls Tryz.prog 37 #[.agg #[.int .u8 (c : Int), .slice aa 2 ac], .agg #[.int .i64 px, .int .i64 py], .slice a l.length cap, .int .u8 (was : Int)] w fun e w' => e = .returned (oneS ⟨c, zs⟩ (px, py) l was).val ∧ Below w.heap.size w w' := by
  have hc256 : c < 256 := by unfold cntL at hc99; repeat (first | (split at hc99; omega) | omega)
  have CA := Lib.hid (fun w => rcap_any c hc256 w)
  rw [hcap] at CA
  have hfr : fromL ⟨c, zs⟩ (px, py) = (px, py) := if_pos h97
  have ix := hp.1
  have iy := hp.2
  have iz := z32
  have eG : oneS ⟨c, zs⟩ (px, py) l was = segS 4 (px + nA zs 0) (py + nA zs 1) (2 * px - (l.getLastD zeroS).ax) (2 * py - (l.getLastD zeroS).ay) 0 0 := by unfold oneS; rw [hfr, hcap]; simp only [if_pos (Or.inl hwas)]; first | rfl | (simp only [pairL, Int.zero_add]; rfl)
  rw [eG]
  clear eG hfr
  obtain ⟨b2, o2, rfl, hb2, hd⟩ := hI.pos (j := 0) (by omega)
  have hd' : ∀ i, i < 2 → w.cell? ⟨b2, o2 + i, none⟩ = some (.int .i64 (nA zs i)) := fun i hi => hd i (by omega)
  have d0 : w.cell? ⟨b2, o2, none⟩ = some (.int .i64 (nA zs 0)) := hd' 0 (by decide)
  have i0 := hin 0
  have d1 : w.cell? ⟨b2, o2 + 1, none⟩ = some (.int .i64 (nA zs 1)) := hd' 1 (by decide)
  have i1 := hin 1
  generalize nA zs 0 = x0 at *
  generalize nA zs 1 = x1 at *
  clear hd hd'
  have hpos : 0 < l.length := List.length_pos_iff.2 hne
  obtain ⟨b, off, rfl, hb, hc⟩ := hA.pos hpos
  have hS := hc (l.length - 1) (by omega)
  have hlst : l.getD (l.length - 1) zeroS = l.getLastD zeroS := by rw [List.getLastD_eq_getLast?, List.getLast?_eq_getElem?]; rfl
  rw [hlst] at hS
  obtain ⟨k0, k1, k2, k3, k4, k5, k6, k7, k8, k9, k10, k11⟩ := hS
  have e1 : IntKind.i64.wrap ((l.length : Int) - 1) = ((l.length - 1 : Nat) : Int) := by rw [IntWalk.i64_in _ (by omega)]; omega
  have hiI : ((l.length - 1 : Nat) : Int) < (l.length : Int) := by omega
  have hgt : (0 : Int) < (l.length : Int) := by omega
  obtain ⟨_, _, ja, jb, jc, jd, _⟩ := hlast
  generalize l.getLastD zeroS = g at *
  generalize hn : l.length - 1 = n at *
  generalize hL : l.length = L at *
  have hb21 : b < w.heap.size + 1 := by omega
  have hb22 : b < w.heap.size + 1 + 1 := by omega
  have hb23 : b < w.heap.size + 1 + 1 + 1 := by omega
  have hb24 : b < w.heap.size + 1 + 1 + 1 + 1 := by omega
  have hb25 : b < w.heap.size + 1 + 1 + 1 + 1 + 1 := by omega
  clear hc hlst hn hL hne hpos hcap
  clear hA
  clear hI hz hin hp
  clear hc99
  have FV := Five.mk' w (.cells #[.int .u8 (c : Int), .slice (some ⟨b2, o2, none⟩) 2 ac] 52) px py px py g
  have h97I : (97 : Int) ≤ (c : Int) := by omega
  go_enter Tryz.func37, Tryz.ntmps37
  go_wp2_with fail
  refine (CA.out _).mono ?_
  rintro e w1 ⟨rfl, rfl⟩
  subst hwas
  go_upto_region 27 with fail
  have FV2 : Five w w.heap.size (w.heap.size + 1) (w.heap.size + 1 + 1) (w.heap.size + 1 + 1 + 1) (w.heap.size + 1 + 1 + 1 + 1) px py px py g (((((w.alloc (.cells #[.int .u8 (c : Int), .slice (some ⟨b2, o2, none⟩) 2 ac] 52)).alloc (.cells #[.int .i64 px, .int .i64 py] 39)).alloc (.cells #[.int .i64 0, .int .i64 0, .int .i64 0, .int .i64 0, .int .i64 0, .int .i64 0, .int .i64 0, .int .i64 0, .int .i64 0, .int .i64 0, .bool false, .bool false] 42)).alloc (.cells #[.int .i64 px, .int .i64 py] 39)).alloc (.cells #[.int .i64 g.kind, .int .i64 g.tx, .int .i64 g.ty, .int .i64 g.ax, .int .i64 g.ay, .int .i64 g.cx, .int .i64 g.cy, .int .i64 g.rx, .int .i64 g.ry, .int .i64 g.turn, .bool g.lg, .bool g.sw] 42)) := FV
  clear FV
  generalize hW5 : (((((w.alloc (.cells #[.int .u8 (c : Int), .slice (some ⟨b2, o2, none⟩) 2 ac] 52)).alloc (.cells #[.int .i64 px, .int .i64 py] 39)).alloc (.cells #[.int .i64 0, .int .i64 0, .int .i64 0, .int .i64 0, .int .i64 0, .int .i64 0, .int .i64 0, .int .i64 0, .int .i64 0, .int .i64 0, .bool false, .bool false] 42)).alloc (.cells #[.int .i64 px, .int .i64 py] 39)).alloc (.cells #[.int .i64 g.kind, .int .i64 g.tx, .int .i64 g.ty, .int .i64 g.ax, .int .i64 g.ay, .int .i64 g.cx, .int .i64 g.cy, .int .i64 g.rx, .int .i64 g.ry, .int .i64 g.turn, .bool g.lg, .bool g.sw] 42)) = W5 at *
  generalize hN0 : w.heap.size = N0 at *
  generalize hN1 : N0 + 1 = N1 at *
  generalize hN2 : N1 + 1 = N2 at *
  generalize hN3 : N2 + 1 = N3 at *
  generalize hN4 : N3 + 1 = N4 at *
  have FH := Lib.hid FV2
  have bel : Below w.heap.size w W5 := FV2.bel
  have n23 : N2 ≠ N3 := by omega
  have n32 : N3 ≠ N2 := by omega
  have n21 : N2 ≠ N1 := by omega
  have n12 : N1 ≠ N2 := by omega
  have hNle : w.heap.size ≤ N2 := by omega
  have s1 := FV2.at'.lt
  have s2 := FV2.res.lt
  have s3 := FV2.frm.lt
  have s4 := FV2.lst.lt
  have hb2N : b2 < w.heap.size := by omega
  have nb : b2 ≠ N2 := by omega
  have nb' : N2 ≠ b2 := by omega
  have hb2W : b2 < W5.heap.size := Nat.lt_of_lt_of_le hb2N bel.size
  have u0 := (bel.cell (p := ⟨b2, o2, none⟩) (by exact hb2N)).trans d0
  have u1 := (bel.cell (p := ⟨b2, o2 + 1, none⟩) (by exact hb2N)).trans d1
  have PR0 := Lib.hid (show ∀ W, b2 < W.heap.size → W.cell? ⟨b2, o2, none⟩ = some (.int .i64 x0) → W.cell? ⟨b2, o2 + 1, none⟩ = some (.int .i64 x1) → Calls Tryz.prog 62 #[.agg #[.int .i64 px, .int .i64 py], .slice (some ⟨b2, o2, none⟩) 2 ac, .int .i64 0] W fun e w' => e = .returned (.agg #[.int .i64 (px + x0), .int .i64 (py + x1)]) ∧ Below W.heap.size W w' from fun W hb h0 h1 => rpair_any px py b2 o2 2 ac 0 1 x0 x1 W hb rfl (by decide) (by decide) h0 h1 (in_sum ix i0).i64 (in_sum iy i1).i64)
  have p0 := FH.out.at'.c0
  have p1 := FH.out.at'.c1
  have hN5 : W5.heap.size ≠ N2 ∧ N2 ≠ W5.heap.size ∧ W5.heap.size ≠ N3 ∧ N3 ≠ W5.heap.size := by omega
  have MR := Lib.hid (show ∀ W, Calls Tryz.prog 63 #[.agg #[.int .i64 px, .int .i64 py], .agg #[.int .i64 g.ax, .int .i64 g.ay]] W fun e w' => e = .returned (.agg #[.int .i64 (2 * px - g.ax), .int .i64 (2 * py - g.ay)]) ∧ Below W.heap.size W w' from fun W => rmirror_any px py g.ax g.ay W ix iy ja jb)
  obtain ⟨_, _, _, y3, y4, y5, y6, _⟩ := SegAt.of_block FH.out.lst
  simp only [Nat.zero_add] at y3 y4 y5 y6
  have PF0 := PtAt.new W5 px py
  have bf0 := (Below.refl W5.heap.size W5).alloc (Nat.le_refl _) (.cells #[.int .i64 px, .int .i64 py] 39)
  go_wp2_with fail
  generalize hW7 : W5.alloc (.cells #[.int .i64 px, .int .i64 py] 39) = W7 at *
  refine (MR.out _).mono ?_
  rintro e w7 ⟨rfl, b7⟩
  have PF1 := PF0.next b7
  have q0 := PF1.c0
  have q1 := PF1.c1
  have qz0 := PF1.z 0
  have qz1 := PF1.z 1
  have PF := PF1.set (2 * px - g.ax) (2 * py - g.ay)
  have bf := Below.setCell (Below.setCell (bf0.trans (b7.mono bf0.size)) (by exact Nat.le_refl _) (.int .i64 (2 * px - g.ax)) (p := ⟨W5.heap.size, 0, none⟩)) (by exact Nat.le_refl _) (.int .i64 (2 * py - g.ay)) (p := ⟨W5.heap.size, 1, none⟩)
  clear hW7 PF0 PF1 bf0 b7 MR
  go_upto_region 30 with fail
  generalize hW8 : (w7.setCell ⟨W5.heap.size, 0, none⟩ (.int .i64 (2 * px - g.ax))).setCell ⟨W5.heap.size, 1, none⟩ (.int .i64 (2 * py - g.ay)) = W8 at *
  clear hW8 q0 q1 qz0 qz1 y3 y4 y5 y6
  have F8 := FH.out.next bf
  have hb8 : b2 < W8.heap.size := Nat.lt_of_lt_of_le hb2W bf.size
  have m0 := (bf.cell (p := ⟨b2, o2, none⟩) (by exact hb2W)).trans u0
  have m1 := (bf.cell (p := ⟨b2, o2 + 1, none⟩) (by exact hb2W)).trans u1
  generalize hN5' : W5.heap.size = N5 at *
  obtain ⟨n52, n25, n53, n35⟩ := hN5
  have s5 := PF.lt
  have dw : Below W8.heap.size W8 W8.drew := (Below.refl _ W8).drew
  have FD := Lib.hid (F8.next dw)
  have ltd : b2 < W8.drew.heap.size := hb8
  have v0 := (dw.cell (p := ⟨b2, o2, none⟩) (by exact hb8)).trans m0
  have v1 := (dw.cell (p := ⟨b2, o2 + 1, none⟩) (by exact hb8)).trans m1
  have f0 := F8.frm.c0
  have f1 := F8.frm.c1
  have G0 := PF.next dw
  have l0 := PF.c0
  have l1 := PF.c1
  clear FV2 F8 FH bf PF p0 p1 u0 u1
  go_region_held3 (fun w' => w'.cell? ⟨N3, 0, none⟩ = some (.int .i64 px) ∧ w'.cell? ⟨N3, 1, none⟩ = some (.int .i64 py) ∧ w'.cell? ⟨N5, 0, none⟩ = some (.int .i64 (2 * px - g.ax)) ∧ w'.cell? ⟨N5, 1, none⟩ = some (.int .i64 (2 * py - g.ay))) (first | (simp [go_sem, *]; done) | (exact ⟨by assumption, by assumption, by assumption, by assumption⟩))
    (first
      | (go_at_call 62; (with_reducible refine (PR0.out _ ltd v0 v1).mono ?_); rintro e w1x ⟨rfl, b1x⟩; have F1 := Lib.hid (FD.out.next b1x); have lt1 := Nat.lt_of_lt_of_le ltd b1x.size; have t1_0 := (b1x.cell (p := ⟨b2, o2, none⟩) (by exact ltd)).trans v0; have t1_1 := (b1x.cell (p := ⟨b2, o2 + 1, none⟩) (by exact ltd)).trans v1; have ff1a := F1.out.frm.c0; have ff1b := F1.out.frm.c1; have gg1 := G0.next b1x; have G1 := gg1; have ga1 := gg1.c0; have gb1 := gg1.c1; obtain ⟨r0, r1, r2, r3, r4, r5, r6, r7, r8, r9, r10, r11⟩ := SegAt.of_block F1.out.res; simp only [Nat.zero_add] at r1 r2 r3 r4 r5 r6 r7 r8 r9 r10 r11; have rz0 := F1.out.res.z 0; have rz1 := F1.out.res.z 1; have rz2 := F1.out.res.z 2; have rz3 := F1.out.res.z 3; have rz4 := F1.out.res.z 4; have rz5 := F1.out.res.z 5; have rz6 := F1.out.res.z 6; have rz7 := F1.out.res.z 7; have rz8 := F1.out.res.z 8; have rz9 := F1.out.res.z 9; have rz10 := F1.out.res.z 10; have rz11 := F1.out.res.z 11; clear b1x))
  all_goals
    go_wp2_with fail
    exact seg_done Tryz.results37 (segS 4 (px + x0) (py + x1) (2 * px - g.ax) (2 * py - g.ay) 0 0) F1.out.res hNle F1.out.bel rfl
set_option maxHeartbeats 8000000 in
set_option maxRecDepth 100000 in
theorem one_Tst (c : Nat) (aa : Option Addr) (ac : Nat) (zs : List Int) (px py : Int) (a : Option Addr) (l : List Seg) (cap was : Nat) (w : World) (hc99 : cntL c ≠ 99) (hz : zs.length = 2) (hin : ∀ i, In32 (nA zs i)) (hI : IntsK .i64 aa zs w) (hA : RdS a l w) (hl : l.length ≤ 100000000) (hcap : capL c = 84) (h97 : 97 ≤ c) (hp : In32 px ∧ In32 py) (hne : l ≠ []) (hlast : inB (l.getLastD zeroS)) (hwas : was = 84) :
    Calls Tryz.prog 37 #[.agg #[.int .u8 (c : Int), .slice aa 2 ac], .agg #[.int .i64 px, .int .i64 py], .slice a l.length cap, .int .u8 (was : Int)] w fun e w' => e = .returned (oneS ⟨c, zs⟩ (px, py) l was).val ∧ Below w.heap.size w w' := by
  have hc256 : c < 256 := by unfold cntL at hc99; repeat (first | (split at hc99; omega) | omega)
  have CA := Lib.hid (fun w => rcap_any c hc256 w)
  rw [hcap] at CA
  have hfr : fromL ⟨c, zs⟩ (px, py) = (px, py) := if_pos h97
  have ix := hp.1
  have iy := hp.2
  have iz := z32
  have eG : oneS ⟨c, zs⟩ (px, py) l was = segS 4 (px + nA zs 0) (py + nA zs 1) (2 * px - (l.getLastD zeroS).ax) (2 * py - (l.getLastD zeroS).ay) 0 0 := by unfold oneS; rw [hfr, hcap]; simp only [if_pos (Or.inr hwas)]; first | rfl | (simp only [pairL, Int.zero_add]; rfl)
  rw [eG]
  clear eG hfr
  obtain ⟨b2, o2, rfl, hb2, hd⟩ := hI.pos (j := 0) (by omega)
  have hd' : ∀ i, i < 2 → w.cell? ⟨b2, o2 + i, none⟩ = some (.int .i64 (nA zs i)) := fun i hi => hd i (by omega)
  have d0 : w.cell? ⟨b2, o2, none⟩ = some (.int .i64 (nA zs 0)) := hd' 0 (by decide)
  have i0 := hin 0
  have d1 : w.cell? ⟨b2, o2 + 1, none⟩ = some (.int .i64 (nA zs 1)) := hd' 1 (by decide)
  have i1 := hin 1
  generalize nA zs 0 = x0 at *
  generalize nA zs 1 = x1 at *
  clear hd hd'
  have hpos : 0 < l.length := List.length_pos_iff.2 hne
  obtain ⟨b, off, rfl, hb, hc⟩ := hA.pos hpos
  have hS := hc (l.length - 1) (by omega)
  have hlst : l.getD (l.length - 1) zeroS = l.getLastD zeroS := by rw [List.getLastD_eq_getLast?, List.getLast?_eq_getElem?]; rfl
  rw [hlst] at hS
  obtain ⟨k0, k1, k2, k3, k4, k5, k6, k7, k8, k9, k10, k11⟩ := hS
  have e1 : IntKind.i64.wrap ((l.length : Int) - 1) = ((l.length - 1 : Nat) : Int) := by rw [IntWalk.i64_in _ (by omega)]; omega
  have hiI : ((l.length - 1 : Nat) : Int) < (l.length : Int) := by omega
  have hgt : (0 : Int) < (l.length : Int) := by omega
  obtain ⟨_, _, ja, jb, jc, jd, _⟩ := hlast
  generalize l.getLastD zeroS = g at *
  generalize hn : l.length - 1 = n at *
  generalize hL : l.length = L at *
  have hb21 : b < w.heap.size + 1 := by omega
  have hb22 : b < w.heap.size + 1 + 1 := by omega
  have hb23 : b < w.heap.size + 1 + 1 + 1 := by omega
  have hb24 : b < w.heap.size + 1 + 1 + 1 + 1 := by omega
  have hb25 : b < w.heap.size + 1 + 1 + 1 + 1 + 1 := by omega
  clear hc hlst hn hL hne hpos hcap
  clear hA
  clear hI hz hin hp
  clear hc99
  have FV := Five.mk' w (.cells #[.int .u8 (c : Int), .slice (some ⟨b2, o2, none⟩) 2 ac] 52) px py px py g
  have h97I : (97 : Int) ≤ (c : Int) := by omega
  go_enter Tryz.func37, Tryz.ntmps37
  go_wp2_with fail
  refine (CA.out _).mono ?_
  rintro e w1 ⟨rfl, rfl⟩
  subst hwas
  go_upto_region 27 with fail
  have FV2 : Five w w.heap.size (w.heap.size + 1) (w.heap.size + 1 + 1) (w.heap.size + 1 + 1 + 1) (w.heap.size + 1 + 1 + 1 + 1) px py px py g (((((w.alloc (.cells #[.int .u8 (c : Int), .slice (some ⟨b2, o2, none⟩) 2 ac] 52)).alloc (.cells #[.int .i64 px, .int .i64 py] 39)).alloc (.cells #[.int .i64 0, .int .i64 0, .int .i64 0, .int .i64 0, .int .i64 0, .int .i64 0, .int .i64 0, .int .i64 0, .int .i64 0, .int .i64 0, .bool false, .bool false] 42)).alloc (.cells #[.int .i64 px, .int .i64 py] 39)).alloc (.cells #[.int .i64 g.kind, .int .i64 g.tx, .int .i64 g.ty, .int .i64 g.ax, .int .i64 g.ay, .int .i64 g.cx, .int .i64 g.cy, .int .i64 g.rx, .int .i64 g.ry, .int .i64 g.turn, .bool g.lg, .bool g.sw] 42)) := FV
  clear FV
  generalize hW5 : (((((w.alloc (.cells #[.int .u8 (c : Int), .slice (some ⟨b2, o2, none⟩) 2 ac] 52)).alloc (.cells #[.int .i64 px, .int .i64 py] 39)).alloc (.cells #[.int .i64 0, .int .i64 0, .int .i64 0, .int .i64 0, .int .i64 0, .int .i64 0, .int .i64 0, .int .i64 0, .int .i64 0, .int .i64 0, .bool false, .bool false] 42)).alloc (.cells #[.int .i64 px, .int .i64 py] 39)).alloc (.cells #[.int .i64 g.kind, .int .i64 g.tx, .int .i64 g.ty, .int .i64 g.ax, .int .i64 g.ay, .int .i64 g.cx, .int .i64 g.cy, .int .i64 g.rx, .int .i64 g.ry, .int .i64 g.turn, .bool g.lg, .bool g.sw] 42)) = W5 at *
  generalize hN0 : w.heap.size = N0 at *
  generalize hN1 : N0 + 1 = N1 at *
  generalize hN2 : N1 + 1 = N2 at *
  generalize hN3 : N2 + 1 = N3 at *
  generalize hN4 : N3 + 1 = N4 at *
  have FH := Lib.hid FV2
  have bel : Below w.heap.size w W5 := FV2.bel
  have n23 : N2 ≠ N3 := by omega
  have n32 : N3 ≠ N2 := by omega
  have n21 : N2 ≠ N1 := by omega
  have n12 : N1 ≠ N2 := by omega
  have hNle : w.heap.size ≤ N2 := by omega
  have s1 := FV2.at'.lt
  have s2 := FV2.res.lt
  have s3 := FV2.frm.lt
  have s4 := FV2.lst.lt
  have hb2N : b2 < w.heap.size := by omega
  have nb : b2 ≠ N2 := by omega
  have nb' : N2 ≠ b2 := by omega
  have hb2W : b2 < W5.heap.size := Nat.lt_of_lt_of_le hb2N bel.size
  have u0 := (bel.cell (p := ⟨b2, o2, none⟩) (by exact hb2N)).trans d0
  have u1 := (bel.cell (p := ⟨b2, o2 + 1, none⟩) (by exact hb2N)).trans d1
  have PR0 := Lib.hid (show ∀ W, b2 < W.heap.size → W.cell? ⟨b2, o2, none⟩ = some (.int .i64 x0) → W.cell? ⟨b2, o2 + 1, none⟩ = some (.int .i64 x1) → Calls Tryz.prog 62 #[.agg #[.int .i64 px, .int .i64 py], .slice (some ⟨b2, o2, none⟩) 2 ac, .int .i64 0] W fun e w' => e = .returned (.agg #[.int .i64 (px + x0), .int .i64 (py + x1)]) ∧ Below W.heap.size W w' from fun W hb h0 h1 => rpair_any px py b2 o2 2 ac 0 1 x0 x1 W hb rfl (by decide) (by decide) h0 h1 (in_sum ix i0).i64 (in_sum iy i1).i64)
  have p0 := FH.out.at'.c0
  have p1 := FH.out.at'.c1
  have hN5 : W5.heap.size ≠ N2 ∧ N2 ≠ W5.heap.size ∧ W5.heap.size ≠ N3 ∧ N3 ≠ W5.heap.size := by omega
  have MR := Lib.hid (show ∀ W, Calls Tryz.prog 63 #[.agg #[.int .i64 px, .int .i64 py], .agg #[.int .i64 g.ax, .int .i64 g.ay]] W fun e w' => e = .returned (.agg #[.int .i64 (2 * px - g.ax), .int .i64 (2 * py - g.ay)]) ∧ Below W.heap.size W w' from fun W => rmirror_any px py g.ax g.ay W ix iy ja jb)
  obtain ⟨_, _, _, y3, y4, y5, y6, _⟩ := SegAt.of_block FH.out.lst
  simp only [Nat.zero_add] at y3 y4 y5 y6
  have PF0 := PtAt.new W5 px py
  have bf0 := (Below.refl W5.heap.size W5).alloc (Nat.le_refl _) (.cells #[.int .i64 px, .int .i64 py] 39)
  go_wp2_with fail
  generalize hW7 : W5.alloc (.cells #[.int .i64 px, .int .i64 py] 39) = W7 at *
  refine (MR.out _).mono ?_
  rintro e w7 ⟨rfl, b7⟩
  have PF1 := PF0.next b7
  have q0 := PF1.c0
  have q1 := PF1.c1
  have qz0 := PF1.z 0
  have qz1 := PF1.z 1
  have PF := PF1.set (2 * px - g.ax) (2 * py - g.ay)
  have bf := Below.setCell (Below.setCell (bf0.trans (b7.mono bf0.size)) (by exact Nat.le_refl _) (.int .i64 (2 * px - g.ax)) (p := ⟨W5.heap.size, 0, none⟩)) (by exact Nat.le_refl _) (.int .i64 (2 * py - g.ay)) (p := ⟨W5.heap.size, 1, none⟩)
  clear hW7 PF0 PF1 bf0 b7 MR
  go_upto_region 30 with fail
  generalize hW8 : (w7.setCell ⟨W5.heap.size, 0, none⟩ (.int .i64 (2 * px - g.ax))).setCell ⟨W5.heap.size, 1, none⟩ (.int .i64 (2 * py - g.ay)) = W8 at *
  clear hW8 q0 q1 qz0 qz1 y3 y4 y5 y6
  have F8 := FH.out.next bf
  have hb8 : b2 < W8.heap.size := Nat.lt_of_lt_of_le hb2W bf.size
  have m0 := (bf.cell (p := ⟨b2, o2, none⟩) (by exact hb2W)).trans u0
  have m1 := (bf.cell (p := ⟨b2, o2 + 1, none⟩) (by exact hb2W)).trans u1
  generalize hN5' : W5.heap.size = N5 at *
  obtain ⟨n52, n25, n53, n35⟩ := hN5
  have s5 := PF.lt
  have dw : Below W8.heap.size W8 W8.drew := (Below.refl _ W8).drew
  have FD := Lib.hid (F8.next dw)
  have ltd : b2 < W8.drew.heap.size := hb8
  have v0 := (dw.cell (p := ⟨b2, o2, none⟩) (by exact hb8)).trans m0
  have v1 := (dw.cell (p := ⟨b2, o2 + 1, none⟩) (by exact hb8)).trans m1
  have f0 := F8.frm.c0
  have f1 := F8.frm.c1
  have G0 := PF.next dw
  have l0 := PF.c0
  have l1 := PF.c1
  clear FV2 F8 FH bf PF p0 p1 u0 u1
  go_region_held3 (fun w' => w'.cell? ⟨N3, 0, none⟩ = some (.int .i64 px) ∧ w'.cell? ⟨N3, 1, none⟩ = some (.int .i64 py) ∧ w'.cell? ⟨N5, 0, none⟩ = some (.int .i64 (2 * px - g.ax)) ∧ w'.cell? ⟨N5, 1, none⟩ = some (.int .i64 (2 * py - g.ay))) (first | (simp [go_sem, *]; done) | (exact ⟨by assumption, by assumption, by assumption, by assumption⟩))
    (first
      | (go_at_call 62; (with_reducible refine (PR0.out _ ltd v0 v1).mono ?_); rintro e w1x ⟨rfl, b1x⟩; have F1 := Lib.hid (FD.out.next b1x); have lt1 := Nat.lt_of_lt_of_le ltd b1x.size; have t1_0 := (b1x.cell (p := ⟨b2, o2, none⟩) (by exact ltd)).trans v0; have t1_1 := (b1x.cell (p := ⟨b2, o2 + 1, none⟩) (by exact ltd)).trans v1; have ff1a := F1.out.frm.c0; have ff1b := F1.out.frm.c1; have gg1 := G0.next b1x; have G1 := gg1; have ga1 := gg1.c0; have gb1 := gg1.c1; obtain ⟨r0, r1, r2, r3, r4, r5, r6, r7, r8, r9, r10, r11⟩ := SegAt.of_block F1.out.res; simp only [Nat.zero_add] at r1 r2 r3 r4 r5 r6 r7 r8 r9 r10 r11; have rz0 := F1.out.res.z 0; have rz1 := F1.out.res.z 1; have rz2 := F1.out.res.z 2; have rz3 := F1.out.res.z 3; have rz4 := F1.out.res.z 4; have rz5 := F1.out.res.z 5; have rz6 := F1.out.res.z 6; have rz7 := F1.out.res.z 7; have rz8 := F1.out.res.z 8; have rz9 := F1.out.res.z 9; have rz10 := F1.out.res.z 10; have rz11 := F1.out.res.z 11; clear b1x))
  all_goals
    go_wp2_with fail
    exact seg_done Tryz.results37 (segS 4 (px + x0) (py + x1) (2 * px - g.ax) (2 * py - g.ay) 0 0) F1.out.res hNle F1.out.bel rfl
set_option maxHeartbeats 8000000 in
set_option maxRecDepth 100000 in
theorem one_Tso (c : Nat) (aa : Option Addr) (ac : Nat) (zs : List Int) (px py : Int) (a : Option Addr) (l : List Seg) (cap was : Nat) (w : World) (hc99 : cntL c ≠ 99) (hz : zs.length = 2) (hin : ∀ i, In32 (nA zs i)) (hI : IntsK .i64 aa zs w) (hA : RdS a l w) (hl : l.length ≤ 100000000) (hcap : capL c = 84) (h97 : 97 ≤ c) (hp : In32 px ∧ In32 py) (hne : l ≠ []) (hlast : inB (l.getLastD zeroS)) (hwas : ¬ (was = 81 ∨ was = 84)) :
    Calls Tryz.prog 37 #[.agg #[.int .u8 (c : Int), .slice aa 2 ac], .agg #[.int .i64 px, .int .i64 py], .slice a l.length cap, .int .u8 (was : Int)] w fun e w' => e = .returned (oneS ⟨c, zs⟩ (px, py) l was).val ∧ Below w.heap.size w w' := by
  have hc256 : c < 256 := by unfold cntL at hc99; repeat (first | (split at hc99; omega) | omega)
  have CA := Lib.hid (fun w => rcap_any c hc256 w)
  rw [hcap] at CA
  have hfr : fromL ⟨c, zs⟩ (px, py) = (px, py) := if_pos h97
  have ix := hp.1
  have iy := hp.2
  have iz := z32
  have eG : oneS ⟨c, zs⟩ (px, py) l was = segS 4 (px + nA zs 0) (py + nA zs 1) px py 0 0 := by unfold oneS; rw [hfr, hcap]; simp only [if_neg hwas]; first | rfl | (simp only [pairL, Int.zero_add]; rfl)
  rw [eG]
  clear eG hfr
  obtain ⟨b2, o2, rfl, hb2, hd⟩ := hI.pos (j := 0) (by omega)
  have hd' : ∀ i, i < 2 → w.cell? ⟨b2, o2 + i, none⟩ = some (.int .i64 (nA zs i)) := fun i hi => hd i (by omega)
  have d0 : w.cell? ⟨b2, o2, none⟩ = some (.int .i64 (nA zs 0)) := hd' 0 (by decide)
  have i0 := hin 0
  have d1 : w.cell? ⟨b2, o2 + 1, none⟩ = some (.int .i64 (nA zs 1)) := hd' 1 (by decide)
  have i1 := hin 1
  generalize nA zs 0 = x0 at *
  generalize nA zs 1 = x1 at *
  clear hd hd'
  have hpos : 0 < l.length := List.length_pos_iff.2 hne
  obtain ⟨b, off, rfl, hb, hc⟩ := hA.pos hpos
  have hS := hc (l.length - 1) (by omega)
  have hlst : l.getD (l.length - 1) zeroS = l.getLastD zeroS := by rw [List.getLastD_eq_getLast?, List.getLast?_eq_getElem?]; rfl
  rw [hlst] at hS
  obtain ⟨k0, k1, k2, k3, k4, k5, k6, k7, k8, k9, k10, k11⟩ := hS
  have e1 : IntKind.i64.wrap ((l.length : Int) - 1) = ((l.length - 1 : Nat) : Int) := by rw [IntWalk.i64_in _ (by omega)]; omega
  have hiI : ((l.length - 1 : Nat) : Int) < (l.length : Int) := by omega
  have hgt : (0 : Int) < (l.length : Int) := by omega
  obtain ⟨_, _, ja, jb, jc, jd, _⟩ := hlast
  generalize l.getLastD zeroS = g at *
  generalize hn : l.length - 1 = n at *
  generalize hL : l.length = L at *
  have hb21 : b < w.heap.size + 1 := by omega
  have hb22 : b < w.heap.size + 1 + 1 := by omega
  have hb23 : b < w.heap.size + 1 + 1 + 1 := by omega
  have hb24 : b < w.heap.size + 1 + 1 + 1 + 1 := by omega
  have hb25 : b < w.heap.size + 1 + 1 + 1 + 1 + 1 := by omega
  clear hc hlst hn hL hne hpos hcap
  clear hA
  clear hI hz hin hp
  clear hc99
  have FV := Five.mk' w (.cells #[.int .u8 (c : Int), .slice (some ⟨b2, o2, none⟩) 2 ac] 52) px py px py g
  have h97I : (97 : Int) ≤ (c : Int) := by omega
  go_enter Tryz.func37, Tryz.ntmps37
  go_wp2_with fail
  refine (CA.out _).mono ?_
  rintro e w1 ⟨rfl, rfl⟩
  have w1b : ((was : Int) == 81) = false := by rw [beq_eq_false_iff_ne]; omega
  have w2b : ((was : Int) == 84) = false := by rw [beq_eq_false_iff_ne]; omega
  go_upto_region 27 with fail
  have FV2 : Five w w.heap.size (w.heap.size + 1) (w.heap.size + 1 + 1) (w.heap.size + 1 + 1 + 1) (w.heap.size + 1 + 1 + 1 + 1) px py px py g (((((w.alloc (.cells #[.int .u8 (c : Int), .slice (some ⟨b2, o2, none⟩) 2 ac] 52)).alloc (.cells #[.int .i64 px, .int .i64 py] 39)).alloc (.cells #[.int .i64 0, .int .i64 0, .int .i64 0, .int .i64 0, .int .i64 0, .int .i64 0, .int .i64 0, .int .i64 0, .int .i64 0, .int .i64 0, .bool false, .bool false] 42)).alloc (.cells #[.int .i64 px, .int .i64 py] 39)).alloc (.cells #[.int .i64 g.kind, .int .i64 g.tx, .int .i64 g.ty, .int .i64 g.ax, .int .i64 g.ay, .int .i64 g.cx, .int .i64 g.cy, .int .i64 g.rx, .int .i64 g.ry, .int .i64 g.turn, .bool g.lg, .bool g.sw] 42)) := FV
  clear FV
  generalize hW5 : (((((w.alloc (.cells #[.int .u8 (c : Int), .slice (some ⟨b2, o2, none⟩) 2 ac] 52)).alloc (.cells #[.int .i64 px, .int .i64 py] 39)).alloc (.cells #[.int .i64 0, .int .i64 0, .int .i64 0, .int .i64 0, .int .i64 0, .int .i64 0, .int .i64 0, .int .i64 0, .int .i64 0, .int .i64 0, .bool false, .bool false] 42)).alloc (.cells #[.int .i64 px, .int .i64 py] 39)).alloc (.cells #[.int .i64 g.kind, .int .i64 g.tx, .int .i64 g.ty, .int .i64 g.ax, .int .i64 g.ay, .int .i64 g.cx, .int .i64 g.cy, .int .i64 g.rx, .int .i64 g.ry, .int .i64 g.turn, .bool g.lg, .bool g.sw] 42)) = W5 at *
  generalize hN0 : w.heap.size = N0 at *
  generalize hN1 : N0 + 1 = N1 at *
  generalize hN2 : N1 + 1 = N2 at *
  generalize hN3 : N2 + 1 = N3 at *
  generalize hN4 : N3 + 1 = N4 at *
  have FH := Lib.hid FV2
  have bel : Below w.heap.size w W5 := FV2.bel
  have n23 : N2 ≠ N3 := by omega
  have n32 : N3 ≠ N2 := by omega
  have n21 : N2 ≠ N1 := by omega
  have n12 : N1 ≠ N2 := by omega
  have hNle : w.heap.size ≤ N2 := by omega
  have s1 := FV2.at'.lt
  have s2 := FV2.res.lt
  have s3 := FV2.frm.lt
  have s4 := FV2.lst.lt
  have hb2N : b2 < w.heap.size := by omega
  have nb : b2 ≠ N2 := by omega
  have nb' : N2 ≠ b2 := by omega
  have hb2W : b2 < W5.heap.size := Nat.lt_of_lt_of_le hb2N bel.size
  have u0 := (bel.cell (p := ⟨b2, o2, none⟩) (by exact hb2N)).trans d0
  have u1 := (bel.cell (p := ⟨b2, o2 + 1, none⟩) (by exact hb2N)).trans d1
  have PR0 := Lib.hid (show ∀ W, b2 < W.heap.size → W.cell? ⟨b2, o2, none⟩ = some (.int .i64 x0) → W.cell? ⟨b2, o2 + 1, none⟩ = some (.int .i64 x1) → Calls Tryz.prog 62 #[.agg #[.int .i64 px, .int .i64 py], .slice (some ⟨b2, o2, none⟩) 2 ac, .int .i64 0] W fun e w' => e = .returned (.agg #[.int .i64 (px + x0), .int .i64 (py + x1)]) ∧ Below W.heap.size W w' from fun W hb h0 h1 => rpair_any px py b2 o2 2 ac 0 1 x0 x1 W hb rfl (by decide) (by decide) h0 h1 (in_sum ix i0).i64 (in_sum iy i1).i64)
  have p0 := FH.out.at'.c0
  have p1 := FH.out.at'.c1
  have hN5 : W5.heap.size ≠ N2 ∧ N2 ≠ W5.heap.size ∧ W5.heap.size ≠ N3 ∧ N3 ≠ W5.heap.size := by omega
  have PF := PtAt.new W5 px py
  have bf := (Below.refl W5.heap.size W5).alloc (Nat.le_refl _) (.cells #[.int .i64 px, .int .i64 py] 39)
  go_upto_region 30 with fail
  generalize hW8 : W5.alloc (.cells #[.int .i64 px, .int .i64 py] 39) = W8 at *
  clear hW8
  have F8 := FH.out.next bf
  have hb8 : b2 < W8.heap.size := Nat.lt_of_lt_of_le hb2W bf.size
  have m0 := (bf.cell (p := ⟨b2, o2, none⟩) (by exact hb2W)).trans u0
  have m1 := (bf.cell (p := ⟨b2, o2 + 1, none⟩) (by exact hb2W)).trans u1
  generalize hN5' : W5.heap.size = N5 at *
  obtain ⟨n52, n25, n53, n35⟩ := hN5
  have s5 := PF.lt
  have dw : Below W8.heap.size W8 W8.drew := (Below.refl _ W8).drew
  have FD := Lib.hid (F8.next dw)
  have ltd : b2 < W8.drew.heap.size := hb8
  have v0 := (dw.cell (p := ⟨b2, o2, none⟩) (by exact hb8)).trans m0
  have v1 := (dw.cell (p := ⟨b2, o2 + 1, none⟩) (by exact hb8)).trans m1
  have f0 := F8.frm.c0
  have f1 := F8.frm.c1
  have G0 := PF.next dw
  have l0 := PF.c0
  have l1 := PF.c1
  clear FV2 F8 FH bf PF p0 p1 u0 u1
  go_region_held3 (fun w' => w'.cell? ⟨N3, 0, none⟩ = some (.int .i64 px) ∧ w'.cell? ⟨N3, 1, none⟩ = some (.int .i64 py) ∧ w'.cell? ⟨N5, 0, none⟩ = some (.int .i64 (px)) ∧ w'.cell? ⟨N5, 1, none⟩ = some (.int .i64 (py))) (first | (simp [go_sem, *]; done) | (exact ⟨by assumption, by assumption, by assumption, by assumption⟩))
    (first
      | (go_at_call 62; (with_reducible refine (PR0.out _ ltd v0 v1).mono ?_); rintro e w1x ⟨rfl, b1x⟩; have F1 := Lib.hid (FD.out.next b1x); have lt1 := Nat.lt_of_lt_of_le ltd b1x.size; have t1_0 := (b1x.cell (p := ⟨b2, o2, none⟩) (by exact ltd)).trans v0; have t1_1 := (b1x.cell (p := ⟨b2, o2 + 1, none⟩) (by exact ltd)).trans v1; have ff1a := F1.out.frm.c0; have ff1b := F1.out.frm.c1; have gg1 := G0.next b1x; have G1 := gg1; have ga1 := gg1.c0; have gb1 := gg1.c1; obtain ⟨r0, r1, r2, r3, r4, r5, r6, r7, r8, r9, r10, r11⟩ := SegAt.of_block F1.out.res; simp only [Nat.zero_add] at r1 r2 r3 r4 r5 r6 r7 r8 r9 r10 r11; have rz0 := F1.out.res.z 0; have rz1 := F1.out.res.z 1; have rz2 := F1.out.res.z 2; have rz3 := F1.out.res.z 3; have rz4 := F1.out.res.z 4; have rz5 := F1.out.res.z 5; have rz6 := F1.out.res.z 6; have rz7 := F1.out.res.z 7; have rz8 := F1.out.res.z 8; have rz9 := F1.out.res.z 9; have rz10 := F1.out.res.z 10; have rz11 := F1.out.res.z 11; clear b1x))
  all_goals
    go_wp2_with fail
    exact seg_done Tryz.results37 (segS 4 (px + x0) (py + x1) px py 0 0) F1.out.res hNle F1.out.bel rfl
set_option maxHeartbeats 8000000 in
set_option maxRecDepth 100000 in
theorem one_Tbq (c : Nat) (aa : Option Addr) (ac : Nat) (zs : List Int) (px py : Int) (a : Option Addr) (l : List Seg) (cap was : Nat) (w : World) (_hc99 : cntL c ≠ 99) (hz : zs.length = 2) (hin : ∀ i, In32 (nA zs i)) (hI : IntsK .i64 aa zs w) (hA : RdS a l w) (hl : l.length ≤ 100000000) (hcap : capL c = 84) (h97 : ¬ 97 ≤ c) (hp : In32 px ∧ In32 py) (hne : l ≠ []) (hlast : inB (l.getLastD zeroS)) (hwas : was = 81) :
    Calls Tryz.prog 37 #[.agg #[.int .u8 (c : Int), .slice aa 2 ac], .agg #[.int .i64 px, .int .i64 py], .slice a l.length cap, .int .u8 (was : Int)] w fun e w' => e = .returned (oneS ⟨c, zs⟩ (px, py) l was).val ∧ Below w.heap.size w w' := by
  have hc256 : c < 256 := by omega
  have CA := Lib.hid (fun w => rcap_any c hc256 w)
  rw [hcap] at CA
  have hfr : fromL ⟨c, zs⟩ (px, py) = (0, 0) := if_neg h97
  have ix := hp.1
  have iy := hp.2
  have iz := z32
  have eG : oneS ⟨c, zs⟩ (px, py) l was = segS 4 (nA zs 0) (nA zs 1) (2 * px - (l.getLastD zeroS).ax) (2 * py - (l.getLastD zeroS).ay) 0 0 := by unfold oneS; rw [hfr, hcap]; simp only [if_pos (Or.inl hwas)]; first | rfl | (simp only [pairL, Int.zero_add]; rfl)
  rw [eG]
  clear eG hfr
  obtain ⟨b2, o2, rfl, hb2, hd⟩ := hI.pos (j := 0) (by omega)
  have hd' : ∀ i, i < 2 → w.cell? ⟨b2, o2 + i, none⟩ = some (.int .i64 (nA zs i)) := fun i hi => hd i (by omega)
  have d0 : w.cell? ⟨b2, o2, none⟩ = some (.int .i64 (nA zs 0)) := hd' 0 (by decide)
  have i0 := hin 0
  have d1 : w.cell? ⟨b2, o2 + 1, none⟩ = some (.int .i64 (nA zs 1)) := hd' 1 (by decide)
  have i1 := hin 1
  generalize nA zs 0 = x0 at *
  generalize nA zs 1 = x1 at *
  clear hd hd'
  have hpos : 0 < l.length := List.length_pos_iff.2 hne
  obtain ⟨b, off, rfl, hb, hc⟩ := hA.pos hpos
  have hS := hc (l.length - 1) (by omega)
  have hlst : l.getD (l.length - 1) zeroS = l.getLastD zeroS := by rw [List.getLastD_eq_getLast?, List.getLast?_eq_getElem?]; rfl
  rw [hlst] at hS
  obtain ⟨k0, k1, k2, k3, k4, k5, k6, k7, k8, k9, k10, k11⟩ := hS
  have e1 : IntKind.i64.wrap ((l.length : Int) - 1) = ((l.length - 1 : Nat) : Int) := by rw [IntWalk.i64_in _ (by omega)]; omega
  have hiI : ((l.length - 1 : Nat) : Int) < (l.length : Int) := by omega
  have hgt : (0 : Int) < (l.length : Int) := by omega
  obtain ⟨_, _, ja, jb, jc, jd, _⟩ := hlast
  generalize l.getLastD zeroS = g at *
  generalize hn : l.length - 1 = n at *
  generalize hL : l.length = L at *
  have hb21 : b < w.heap.size + 1 := by omega
  have hb22 : b < w.heap.size + 1 + 1 := by omega
  have hb23 : b < w.heap.size + 1 + 1 + 1 := by omega
  have hb24 : b < w.heap.size + 1 + 1 + 1 + 1 := by omega
  have hb25 : b < w.heap.size + 1 + 1 + 1 + 1 + 1 := by omega
  clear hc hlst hn hL hne hpos hcap
  clear hA
  clear hI hz hin hp
  clear _hc99
  have FV := Five.mk' w (.cells #[.int .u8 (c : Int), .slice (some ⟨b2, o2, none⟩) 2 ac] 52) px py 0 0 g
  have h97I : ¬ (97 : Int) ≤ (c : Int) := by omega
  go_enter Tryz.func37, Tryz.ntmps37
  go_wp2_with fail
  refine (CA.out _).mono ?_
  rintro e w1 ⟨rfl, rfl⟩
  subst hwas
  go_upto_region 27 with fail
  have FV2 : Five w w.heap.size (w.heap.size + 1) (w.heap.size + 1 + 1) (w.heap.size + 1 + 1 + 1) (w.heap.size + 1 + 1 + 1 + 1) px py 0 0 g (((((w.alloc (.cells #[.int .u8 (c : Int), .slice (some ⟨b2, o2, none⟩) 2 ac] 52)).alloc (.cells #[.int .i64 px, .int .i64 py] 39)).alloc (.cells #[.int .i64 0, .int .i64 0, .int .i64 0, .int .i64 0, .int .i64 0, .int .i64 0, .int .i64 0, .int .i64 0, .int .i64 0, .int .i64 0, .bool false, .bool false] 42)).alloc (.cells #[.int .i64 0, .int .i64 0] 39)).alloc (.cells #[.int .i64 g.kind, .int .i64 g.tx, .int .i64 g.ty, .int .i64 g.ax, .int .i64 g.ay, .int .i64 g.cx, .int .i64 g.cy, .int .i64 g.rx, .int .i64 g.ry, .int .i64 g.turn, .bool g.lg, .bool g.sw] 42)) := FV
  clear FV
  generalize hW5 : (((((w.alloc (.cells #[.int .u8 (c : Int), .slice (some ⟨b2, o2, none⟩) 2 ac] 52)).alloc (.cells #[.int .i64 px, .int .i64 py] 39)).alloc (.cells #[.int .i64 0, .int .i64 0, .int .i64 0, .int .i64 0, .int .i64 0, .int .i64 0, .int .i64 0, .int .i64 0, .int .i64 0, .int .i64 0, .bool false, .bool false] 42)).alloc (.cells #[.int .i64 0, .int .i64 0] 39)).alloc (.cells #[.int .i64 g.kind, .int .i64 g.tx, .int .i64 g.ty, .int .i64 g.ax, .int .i64 g.ay, .int .i64 g.cx, .int .i64 g.cy, .int .i64 g.rx, .int .i64 g.ry, .int .i64 g.turn, .bool g.lg, .bool g.sw] 42)) = W5 at *
  generalize hN0 : w.heap.size = N0 at *
  generalize hN1 : N0 + 1 = N1 at *
  generalize hN2 : N1 + 1 = N2 at *
  generalize hN3 : N2 + 1 = N3 at *
  generalize hN4 : N3 + 1 = N4 at *
  have FH := Lib.hid FV2
  have bel : Below w.heap.size w W5 := FV2.bel
  have n23 : N2 ≠ N3 := by omega
  have n32 : N3 ≠ N2 := by omega
  have n21 : N2 ≠ N1 := by omega
  have n12 : N1 ≠ N2 := by omega
  have hNle : w.heap.size ≤ N2 := by omega
  have s1 := FV2.at'.lt
  have s2 := FV2.res.lt
  have s3 := FV2.frm.lt
  have s4 := FV2.lst.lt
  have hb2N : b2 < w.heap.size := by omega
  have nb : b2 ≠ N2 := by omega
  have nb' : N2 ≠ b2 := by omega
  have hb2W : b2 < W5.heap.size := Nat.lt_of_lt_of_le hb2N bel.size
  have u0 := (bel.cell (p := ⟨b2, o2, none⟩) (by exact hb2N)).trans d0
  have u1 := (bel.cell (p := ⟨b2, o2 + 1, none⟩) (by exact hb2N)).trans d1
  have PR0 := Lib.hid (show ∀ W, b2 < W.heap.size → W.cell? ⟨b2, o2, none⟩ = some (.int .i64 x0) → W.cell? ⟨b2, o2 + 1, none⟩ = some (.int .i64 x1) → Calls Tryz.prog 62 #[.agg #[.int .i64 0, .int .i64 0], .slice (some ⟨b2, o2, none⟩) 2 ac, .int .i64 0] W fun e w' => e = .returned (.agg #[.int .i64 (x0), .int .i64 (x1)]) ∧ Below W.heap.size W w' from fun W hb h0 h1 => by have h := rpair_any 0 0 b2 o2 2 ac 0 1 x0 x1 W hb rfl (by decide) (by decide) h0 h1 (in_sum iz i0).i64 (in_sum iz i1).i64; simp only [Int.zero_add] at h; exact h)
  have p0 := FH.out.at'.c0
  have p1 := FH.out.at'.c1
  have hN5 : W5.heap.size ≠ N2 ∧ N2 ≠ W5.heap.size ∧ W5.heap.size ≠ N3 ∧ N3 ≠ W5.heap.size := by omega
  have MR := Lib.hid (show ∀ W, Calls Tryz.prog 63 #[.agg #[.int .i64 px, .int .i64 py], .agg #[.int .i64 g.ax, .int .i64 g.ay]] W fun e w' => e = .returned (.agg #[.int .i64 (2 * px - g.ax), .int .i64 (2 * py - g.ay)]) ∧ Below W.heap.size W w' from fun W => rmirror_any px py g.ax g.ay W ix iy ja jb)
  obtain ⟨_, _, _, y3, y4, y5, y6, _⟩ := SegAt.of_block FH.out.lst
  simp only [Nat.zero_add] at y3 y4 y5 y6
  have PF0 := PtAt.new W5 px py
  have bf0 := (Below.refl W5.heap.size W5).alloc (Nat.le_refl _) (.cells #[.int .i64 px, .int .i64 py] 39)
  go_wp2_with fail
  generalize hW7 : W5.alloc (.cells #[.int .i64 px, .int .i64 py] 39) = W7 at *
  refine (MR.out _).mono ?_
  rintro e w7 ⟨rfl, b7⟩
  have PF1 := PF0.next b7
  have q0 := PF1.c0
  have q1 := PF1.c1
  have qz0 := PF1.z 0
  have qz1 := PF1.z 1
  have PF := PF1.set (2 * px - g.ax) (2 * py - g.ay)
  have bf := Below.setCell (Below.setCell (bf0.trans (b7.mono bf0.size)) (by exact Nat.le_refl _) (.int .i64 (2 * px - g.ax)) (p := ⟨W5.heap.size, 0, none⟩)) (by exact Nat.le_refl _) (.int .i64 (2 * py - g.ay)) (p := ⟨W5.heap.size, 1, none⟩)
  clear hW7 PF0 PF1 bf0 b7 MR
  go_upto_region 30 with fail
  generalize hW8 : (w7.setCell ⟨W5.heap.size, 0, none⟩ (.int .i64 (2 * px - g.ax))).setCell ⟨W5.heap.size, 1, none⟩ (.int .i64 (2 * py - g.ay)) = W8 at *
  clear hW8 q0 q1 qz0 qz1 y3 y4 y5 y6
  have F8 := FH.out.next bf
  have hb8 : b2 < W8.heap.size := Nat.lt_of_lt_of_le hb2W bf.size
  have m0 := (bf.cell (p := ⟨b2, o2, none⟩) (by exact hb2W)).trans u0
  have m1 := (bf.cell (p := ⟨b2, o2 + 1, none⟩) (by exact hb2W)).trans u1
  generalize hN5' : W5.heap.size = N5 at *
  obtain ⟨n52, n25, n53, n35⟩ := hN5
  have s5 := PF.lt
  have dw : Below W8.heap.size W8 W8.drew := (Below.refl _ W8).drew
  have FD := Lib.hid (F8.next dw)
  have ltd : b2 < W8.drew.heap.size := hb8
  have v0 := (dw.cell (p := ⟨b2, o2, none⟩) (by exact hb8)).trans m0
  have v1 := (dw.cell (p := ⟨b2, o2 + 1, none⟩) (by exact hb8)).trans m1
  have f0 := F8.frm.c0
  have f1 := F8.frm.c1
  have G0 := PF.next dw
  have l0 := PF.c0
  have l1 := PF.c1
  clear FV2 F8 FH bf PF p0 p1 u0 u1
  go_region_held3 (fun w' => w'.cell? ⟨N3, 0, none⟩ = some (.int .i64 0) ∧ w'.cell? ⟨N3, 1, none⟩ = some (.int .i64 0) ∧ w'.cell? ⟨N5, 0, none⟩ = some (.int .i64 (2 * px - g.ax)) ∧ w'.cell? ⟨N5, 1, none⟩ = some (.int .i64 (2 * py - g.ay))) (first | (simp [go_sem, *]; done) | (exact ⟨by assumption, by assumption, by assumption, by assumption⟩))
    (first
      | (go_at_call 62; (with_reducible refine (PR0.out _ ltd v0 v1).mono ?_); rintro e w1x ⟨rfl, b1x⟩; have F1 := Lib.hid (FD.out.next b1x); have lt1 := Nat.lt_of_lt_of_le ltd b1x.size; have t1_0 := (b1x.cell (p := ⟨b2, o2, none⟩) (by exact ltd)).trans v0; have t1_1 := (b1x.cell (p := ⟨b2, o2 + 1, none⟩) (by exact ltd)).trans v1; have ff1a := F1.out.frm.c0; have ff1b := F1.out.frm.c1; have gg1 := G0.next b1x; have G1 := gg1; have ga1 := gg1.c0; have gb1 := gg1.c1; obtain ⟨r0, r1, r2, r3, r4, r5, r6, r7, r8, r9, r10, r11⟩ := SegAt.of_block F1.out.res; simp only [Nat.zero_add] at r1 r2 r3 r4 r5 r6 r7 r8 r9 r10 r11; have rz0 := F1.out.res.z 0; have rz1 := F1.out.res.z 1; have rz2 := F1.out.res.z 2; have rz3 := F1.out.res.z 3; have rz4 := F1.out.res.z 4; have rz5 := F1.out.res.z 5; have rz6 := F1.out.res.z 6; have rz7 := F1.out.res.z 7; have rz8 := F1.out.res.z 8; have rz9 := F1.out.res.z 9; have rz10 := F1.out.res.z 10; have rz11 := F1.out.res.z 11; clear b1x))
  all_goals
    go_wp2_with fail
    exact seg_done Tryz.results37 (segS 4 (x0) (x1) (2 * px - g.ax) (2 * py - g.ay) 0 0) F1.out.res hNle F1.out.bel rfl
set_option maxHeartbeats 8000000 in
set_option maxRecDepth 100000 in
theorem one_Tbt (c : Nat) (aa : Option Addr) (ac : Nat) (zs : List Int) (px py : Int) (a : Option Addr) (l : List Seg) (cap was : Nat) (w : World) (_hc99 : cntL c ≠ 99) (hz : zs.length = 2) (hin : ∀ i, In32 (nA zs i)) (hI : IntsK .i64 aa zs w) (hA : RdS a l w) (hl : l.length ≤ 100000000) (hcap : capL c = 84) (h97 : ¬ 97 ≤ c) (hp : In32 px ∧ In32 py) (hne : l ≠ []) (hlast : inB (l.getLastD zeroS)) (hwas : was = 84) :
    Calls Tryz.prog 37 #[.agg #[.int .u8 (c : Int), .slice aa 2 ac], .agg #[.int .i64 px, .int .i64 py], .slice a l.length cap, .int .u8 (was : Int)] w fun e w' => e = .returned (oneS ⟨c, zs⟩ (px, py) l was).val ∧ Below w.heap.size w w' := by
  have hc256 : c < 256 := by omega
  have CA := Lib.hid (fun w => rcap_any c hc256 w)
  rw [hcap] at CA
  have hfr : fromL ⟨c, zs⟩ (px, py) = (0, 0) := if_neg h97
  have ix := hp.1
  have iy := hp.2
  have iz := z32
  have eG : oneS ⟨c, zs⟩ (px, py) l was = segS 4 (nA zs 0) (nA zs 1) (2 * px - (l.getLastD zeroS).ax) (2 * py - (l.getLastD zeroS).ay) 0 0 := by unfold oneS; rw [hfr, hcap]; simp only [if_pos (Or.inr hwas)]; first | rfl | (simp only [pairL, Int.zero_add]; rfl)
  rw [eG]
  clear eG hfr
  obtain ⟨b2, o2, rfl, hb2, hd⟩ := hI.pos (j := 0) (by omega)
  have hd' : ∀ i, i < 2 → w.cell? ⟨b2, o2 + i, none⟩ = some (.int .i64 (nA zs i)) := fun i hi => hd i (by omega)
  have d0 : w.cell? ⟨b2, o2, none⟩ = some (.int .i64 (nA zs 0)) := hd' 0 (by decide)
  have i0 := hin 0
  have d1 : w.cell? ⟨b2, o2 + 1, none⟩ = some (.int .i64 (nA zs 1)) := hd' 1 (by decide)
  have i1 := hin 1
  generalize nA zs 0 = x0 at *
  generalize nA zs 1 = x1 at *
  clear hd hd'
  have hpos : 0 < l.length := List.length_pos_iff.2 hne
  obtain ⟨b, off, rfl, hb, hc⟩ := hA.pos hpos
  have hS := hc (l.length - 1) (by omega)
  have hlst : l.getD (l.length - 1) zeroS = l.getLastD zeroS := by rw [List.getLastD_eq_getLast?, List.getLast?_eq_getElem?]; rfl
  rw [hlst] at hS
  obtain ⟨k0, k1, k2, k3, k4, k5, k6, k7, k8, k9, k10, k11⟩ := hS
  have e1 : IntKind.i64.wrap ((l.length : Int) - 1) = ((l.length - 1 : Nat) : Int) := by rw [IntWalk.i64_in _ (by omega)]; omega
  have hiI : ((l.length - 1 : Nat) : Int) < (l.length : Int) := by omega
  have hgt : (0 : Int) < (l.length : Int) := by omega
  obtain ⟨_, _, ja, jb, jc, jd, _⟩ := hlast
  generalize l.getLastD zeroS = g at *
  generalize hn : l.length - 1 = n at *
  generalize hL : l.length = L at *
  have hb21 : b < w.heap.size + 1 := by omega
  have hb22 : b < w.heap.size + 1 + 1 := by omega
  have hb23 : b < w.heap.size + 1 + 1 + 1 := by omega
  have hb24 : b < w.heap.size + 1 + 1 + 1 + 1 := by omega
  have hb25 : b < w.heap.size + 1 + 1 + 1 + 1 + 1 := by omega
  clear hc hlst hn hL hne hpos hcap
  clear hA
  clear hI hz hin hp
  clear _hc99
  have FV := Five.mk' w (.cells #[.int .u8 (c : Int), .slice (some ⟨b2, o2, none⟩) 2 ac] 52) px py 0 0 g
  have h97I : ¬ (97 : Int) ≤ (c : Int) := by omega
  go_enter Tryz.func37, Tryz.ntmps37
  go_wp2_with fail
  refine (CA.out _).mono ?_
  rintro e w1 ⟨rfl, rfl⟩
  subst hwas
  go_upto_region 27 with fail
  have FV2 : Five w w.heap.size (w.heap.size + 1) (w.heap.size + 1 + 1) (w.heap.size + 1 + 1 + 1) (w.heap.size + 1 + 1 + 1 + 1) px py 0 0 g (((((w.alloc (.cells #[.int .u8 (c : Int), .slice (some ⟨b2, o2, none⟩) 2 ac] 52)).alloc (.cells #[.int .i64 px, .int .i64 py] 39)).alloc (.cells #[.int .i64 0, .int .i64 0, .int .i64 0, .int .i64 0, .int .i64 0, .int .i64 0, .int .i64 0, .int .i64 0, .int .i64 0, .int .i64 0, .bool false, .bool false] 42)).alloc (.cells #[.int .i64 0, .int .i64 0] 39)).alloc (.cells #[.int .i64 g.kind, .int .i64 g.tx, .int .i64 g.ty, .int .i64 g.ax, .int .i64 g.ay, .int .i64 g.cx, .int .i64 g.cy, .int .i64 g.rx, .int .i64 g.ry, .int .i64 g.turn, .bool g.lg, .bool g.sw] 42)) := FV
  clear FV
  generalize hW5 : (((((w.alloc (.cells #[.int .u8 (c : Int), .slice (some ⟨b2, o2, none⟩) 2 ac] 52)).alloc (.cells #[.int .i64 px, .int .i64 py] 39)).alloc (.cells #[.int .i64 0, .int .i64 0, .int .i64 0, .int .i64 0, .int .i64 0, .int .i64 0, .int .i64 0, .int .i64 0, .int .i64 0, .int .i64 0, .bool false, .bool false] 42)).alloc (.cells #[.int .i64 0, .int .i64 0] 39)).alloc (.cells #[.int .i64 g.kind, .int .i64 g.tx, .int .i64 g.ty, .int .i64 g.ax, .int .i64 g.ay, .int .i64 g.cx, .int .i64 g.cy, .int .i64 g.rx, .int .i64 g.ry, .int .i64 g.turn, .bool g.lg, .bool g.sw] 42)) = W5 at *
  generalize hN0 : w.heap.size = N0 at *
  generalize hN1 : N0 + 1 = N1 at *
  generalize hN2 : N1 + 1 = N2 at *
  generalize hN3 : N2 + 1 = N3 at *
  generalize hN4 : N3 + 1 = N4 at *
  have FH := Lib.hid FV2
  have bel : Below w.heap.size w W5 := FV2.bel
  have n23 : N2 ≠ N3 := by omega
  have n32 : N3 ≠ N2 := by omega
  have n21 : N2 ≠ N1 := by omega
  have n12 : N1 ≠ N2 := by omega
  have hNle : w.heap.size ≤ N2 := by omega
  have s1 := FV2.at'.lt
  have s2 := FV2.res.lt
  have s3 := FV2.frm.lt
  have s4 := FV2.lst.lt
  have hb2N : b2 < w.heap.size := by omega
  have nb : b2 ≠ N2 := by omega
  have nb' : N2 ≠ b2 := by omega
  have hb2W : b2 < W5.heap.size := Nat.lt_of_lt_of_le hb2N bel.size
  have u0 := (bel.cell (p := ⟨b2, o2, none⟩) (by exact hb2N)).trans d0
  have u1 := (bel.cell (p := ⟨b2, o2 + 1, none⟩) (by exact hb2N)).trans d1
  have PR0 := Lib.hid (show ∀ W, b2 < W.heap.size → W.cell? ⟨b2, o2, none⟩ = some (.int .i64 x0) → W.cell? ⟨b2, o2 + 1, none⟩ = some (.int .i64 x1) → Calls Tryz.prog 62 #[.agg #[.int .i64 0, .int .i64 0], .slice (some ⟨b2, o2, none⟩) 2 ac, .int .i64 0] W fun e w' => e = .returned (.agg #[.int .i64 (x0), .int .i64 (x1)]) ∧ Below W.heap.size W w' from fun W hb h0 h1 => by have h := rpair_any 0 0 b2 o2 2 ac 0 1 x0 x1 W hb rfl (by decide) (by decide) h0 h1 (in_sum iz i0).i64 (in_sum iz i1).i64; simp only [Int.zero_add] at h; exact h)
  have p0 := FH.out.at'.c0
  have p1 := FH.out.at'.c1
  have hN5 : W5.heap.size ≠ N2 ∧ N2 ≠ W5.heap.size ∧ W5.heap.size ≠ N3 ∧ N3 ≠ W5.heap.size := by omega
  have MR := Lib.hid (show ∀ W, Calls Tryz.prog 63 #[.agg #[.int .i64 px, .int .i64 py], .agg #[.int .i64 g.ax, .int .i64 g.ay]] W fun e w' => e = .returned (.agg #[.int .i64 (2 * px - g.ax), .int .i64 (2 * py - g.ay)]) ∧ Below W.heap.size W w' from fun W => rmirror_any px py g.ax g.ay W ix iy ja jb)
  obtain ⟨_, _, _, y3, y4, y5, y6, _⟩ := SegAt.of_block FH.out.lst
  simp only [Nat.zero_add] at y3 y4 y5 y6
  have PF0 := PtAt.new W5 px py
  have bf0 := (Below.refl W5.heap.size W5).alloc (Nat.le_refl _) (.cells #[.int .i64 px, .int .i64 py] 39)
  go_wp2_with fail
  generalize hW7 : W5.alloc (.cells #[.int .i64 px, .int .i64 py] 39) = W7 at *
  refine (MR.out _).mono ?_
  rintro e w7 ⟨rfl, b7⟩
  have PF1 := PF0.next b7
  have q0 := PF1.c0
  have q1 := PF1.c1
  have qz0 := PF1.z 0
  have qz1 := PF1.z 1
  have PF := PF1.set (2 * px - g.ax) (2 * py - g.ay)
  have bf := Below.setCell (Below.setCell (bf0.trans (b7.mono bf0.size)) (by exact Nat.le_refl _) (.int .i64 (2 * px - g.ax)) (p := ⟨W5.heap.size, 0, none⟩)) (by exact Nat.le_refl _) (.int .i64 (2 * py - g.ay)) (p := ⟨W5.heap.size, 1, none⟩)
  clear hW7 PF0 PF1 bf0 b7 MR
  go_upto_region 30 with fail
  generalize hW8 : (w7.setCell ⟨W5.heap.size, 0, none⟩ (.int .i64 (2 * px - g.ax))).setCell ⟨W5.heap.size, 1, none⟩ (.int .i64 (2 * py - g.ay)) = W8 at *
  clear hW8 q0 q1 qz0 qz1 y3 y4 y5 y6
  have F8 := FH.out.next bf
  have hb8 : b2 < W8.heap.size := Nat.lt_of_lt_of_le hb2W bf.size
  have m0 := (bf.cell (p := ⟨b2, o2, none⟩) (by exact hb2W)).trans u0
  have m1 := (bf.cell (p := ⟨b2, o2 + 1, none⟩) (by exact hb2W)).trans u1
  generalize hN5' : W5.heap.size = N5 at *
  obtain ⟨n52, n25, n53, n35⟩ := hN5
  have s5 := PF.lt
  have dw : Below W8.heap.size W8 W8.drew := (Below.refl _ W8).drew
  have FD := Lib.hid (F8.next dw)
  have ltd : b2 < W8.drew.heap.size := hb8
  have v0 := (dw.cell (p := ⟨b2, o2, none⟩) (by exact hb8)).trans m0
  have v1 := (dw.cell (p := ⟨b2, o2 + 1, none⟩) (by exact hb8)).trans m1
  have f0 := F8.frm.c0
  have f1 := F8.frm.c1
  have G0 := PF.next dw
  have l0 := PF.c0
  have l1 := PF.c1
  clear FV2 F8 FH bf PF p0 p1 u0 u1
  go_region_held3 (fun w' => w'.cell? ⟨N3, 0, none⟩ = some (.int .i64 0) ∧ w'.cell? ⟨N3, 1, none⟩ = some (.int .i64 0) ∧ w'.cell? ⟨N5, 0, none⟩ = some (.int .i64 (2 * px - g.ax)) ∧ w'.cell? ⟨N5, 1, none⟩ = some (.int .i64 (2 * py - g.ay))) (first | (simp [go_sem, *]; done) | (exact ⟨by assumption, by assumption, by assumption, by assumption⟩))
    (first
      | (go_at_call 62; (with_reducible refine (PR0.out _ ltd v0 v1).mono ?_); rintro e w1x ⟨rfl, b1x⟩; have F1 := Lib.hid (FD.out.next b1x); have lt1 := Nat.lt_of_lt_of_le ltd b1x.size; have t1_0 := (b1x.cell (p := ⟨b2, o2, none⟩) (by exact ltd)).trans v0; have t1_1 := (b1x.cell (p := ⟨b2, o2 + 1, none⟩) (by exact ltd)).trans v1; have ff1a := F1.out.frm.c0; have ff1b := F1.out.frm.c1; have gg1 := G0.next b1x; have G1 := gg1; have ga1 := gg1.c0; have gb1 := gg1.c1; obtain ⟨r0, r1, r2, r3, r4, r5, r6, r7, r8, r9, r10, r11⟩ := SegAt.of_block F1.out.res; simp only [Nat.zero_add] at r1 r2 r3 r4 r5 r6 r7 r8 r9 r10 r11; have rz0 := F1.out.res.z 0; have rz1 := F1.out.res.z 1; have rz2 := F1.out.res.z 2; have rz3 := F1.out.res.z 3; have rz4 := F1.out.res.z 4; have rz5 := F1.out.res.z 5; have rz6 := F1.out.res.z 6; have rz7 := F1.out.res.z 7; have rz8 := F1.out.res.z 8; have rz9 := F1.out.res.z 9; have rz10 := F1.out.res.z 10; have rz11 := F1.out.res.z 11; clear b1x))
  all_goals
    go_wp2_with fail
    exact seg_done Tryz.results37 (segS 4 (x0) (x1) (2 * px - g.ax) (2 * py - g.ay) 0 0) F1.out.res hNle F1.out.bel rfl
set_option maxHeartbeats 8000000 in
set_option maxRecDepth 100000 in
theorem one_Tbo (c : Nat) (aa : Option Addr) (ac : Nat) (zs : List Int) (px py : Int) (a : Option Addr) (l : List Seg) (cap was : Nat) (w : World) (_hc99 : cntL c ≠ 99) (hz : zs.length = 2) (hin : ∀ i, In32 (nA zs i)) (hI : IntsK .i64 aa zs w) (hA : RdS a l w) (hl : l.length ≤ 100000000) (hcap : capL c = 84) (h97 : ¬ 97 ≤ c) (hp : In32 px ∧ In32 py) (hne : l ≠ []) (hlast : inB (l.getLastD zeroS)) (hwas : ¬ (was = 81 ∨ was = 84)) :
    Calls Tryz.prog 37 #[.agg #[.int .u8 (c : Int), .slice aa 2 ac], .agg #[.int .i64 px, .int .i64 py], .slice a l.length cap, .int .u8 (was : Int)] w fun e w' => e = .returned (oneS ⟨c, zs⟩ (px, py) l was).val ∧ Below w.heap.size w w' := by
  have hc256 : c < 256 := by omega
  have CA := Lib.hid (fun w => rcap_any c hc256 w)
  rw [hcap] at CA
  have hfr : fromL ⟨c, zs⟩ (px, py) = (0, 0) := if_neg h97
  have ix := hp.1
  have iy := hp.2
  have iz := z32
  have eG : oneS ⟨c, zs⟩ (px, py) l was = segS 4 (nA zs 0) (nA zs 1) px py 0 0 := by unfold oneS; rw [hfr, hcap]; simp only [if_neg hwas]; first | rfl | (simp only [pairL, Int.zero_add]; rfl)
  rw [eG]
  clear eG hfr
  obtain ⟨b2, o2, rfl, hb2, hd⟩ := hI.pos (j := 0) (by omega)
  have hd' : ∀ i, i < 2 → w.cell? ⟨b2, o2 + i, none⟩ = some (.int .i64 (nA zs i)) := fun i hi => hd i (by omega)
  have d0 : w.cell? ⟨b2, o2, none⟩ = some (.int .i64 (nA zs 0)) := hd' 0 (by decide)
  have i0 := hin 0
  have d1 : w.cell? ⟨b2, o2 + 1, none⟩ = some (.int .i64 (nA zs 1)) := hd' 1 (by decide)
  have i1 := hin 1
  generalize nA zs 0 = x0 at *
  generalize nA zs 1 = x1 at *
  clear hd hd'
  have hpos : 0 < l.length := List.length_pos_iff.2 hne
  obtain ⟨b, off, rfl, hb, hc⟩ := hA.pos hpos
  have hS := hc (l.length - 1) (by omega)
  have hlst : l.getD (l.length - 1) zeroS = l.getLastD zeroS := by rw [List.getLastD_eq_getLast?, List.getLast?_eq_getElem?]; rfl
  rw [hlst] at hS
  obtain ⟨k0, k1, k2, k3, k4, k5, k6, k7, k8, k9, k10, k11⟩ := hS
  have e1 : IntKind.i64.wrap ((l.length : Int) - 1) = ((l.length - 1 : Nat) : Int) := by rw [IntWalk.i64_in _ (by omega)]; omega
  have hiI : ((l.length - 1 : Nat) : Int) < (l.length : Int) := by omega
  have hgt : (0 : Int) < (l.length : Int) := by omega
  obtain ⟨_, _, ja, jb, jc, jd, _⟩ := hlast
  generalize l.getLastD zeroS = g at *
  generalize hn : l.length - 1 = n at *
  generalize hL : l.length = L at *
  have hb21 : b < w.heap.size + 1 := by omega
  have hb22 : b < w.heap.size + 1 + 1 := by omega
  have hb23 : b < w.heap.size + 1 + 1 + 1 := by omega
  have hb24 : b < w.heap.size + 1 + 1 + 1 + 1 := by omega
  have hb25 : b < w.heap.size + 1 + 1 + 1 + 1 + 1 := by omega
  clear hc hlst hn hL hne hpos hcap
  clear hA
  clear hI hz hin hp
  clear _hc99
  have FV := Five.mk' w (.cells #[.int .u8 (c : Int), .slice (some ⟨b2, o2, none⟩) 2 ac] 52) px py 0 0 g
  have h97I : ¬ (97 : Int) ≤ (c : Int) := by omega
  go_enter Tryz.func37, Tryz.ntmps37
  go_wp2_with fail
  refine (CA.out _).mono ?_
  rintro e w1 ⟨rfl, rfl⟩
  have w1b : ((was : Int) == 81) = false := by rw [beq_eq_false_iff_ne]; omega
  have w2b : ((was : Int) == 84) = false := by rw [beq_eq_false_iff_ne]; omega
  go_upto_region 27 with fail
  have FV2 : Five w w.heap.size (w.heap.size + 1) (w.heap.size + 1 + 1) (w.heap.size + 1 + 1 + 1) (w.heap.size + 1 + 1 + 1 + 1) px py 0 0 g (((((w.alloc (.cells #[.int .u8 (c : Int), .slice (some ⟨b2, o2, none⟩) 2 ac] 52)).alloc (.cells #[.int .i64 px, .int .i64 py] 39)).alloc (.cells #[.int .i64 0, .int .i64 0, .int .i64 0, .int .i64 0, .int .i64 0, .int .i64 0, .int .i64 0, .int .i64 0, .int .i64 0, .int .i64 0, .bool false, .bool false] 42)).alloc (.cells #[.int .i64 0, .int .i64 0] 39)).alloc (.cells #[.int .i64 g.kind, .int .i64 g.tx, .int .i64 g.ty, .int .i64 g.ax, .int .i64 g.ay, .int .i64 g.cx, .int .i64 g.cy, .int .i64 g.rx, .int .i64 g.ry, .int .i64 g.turn, .bool g.lg, .bool g.sw] 42)) := FV
  clear FV
  generalize hW5 : (((((w.alloc (.cells #[.int .u8 (c : Int), .slice (some ⟨b2, o2, none⟩) 2 ac] 52)).alloc (.cells #[.int .i64 px, .int .i64 py] 39)).alloc (.cells #[.int .i64 0, .int .i64 0, .int .i64 0, .int .i64 0, .int .i64 0, .int .i64 0, .int .i64 0, .int .i64 0, .int .i64 0, .int .i64 0, .bool false, .bool false] 42)).alloc (.cells #[.int .i64 0, .int .i64 0] 39)).alloc (.cells #[.int .i64 g.kind, .int .i64 g.tx, .int .i64 g.ty, .int .i64 g.ax, .int .i64 g.ay, .int .i64 g.cx, .int .i64 g.cy, .int .i64 g.rx, .int .i64 g.ry, .int .i64 g.turn, .bool g.lg, .bool g.sw] 42)) = W5 at *
  generalize hN0 : w.heap.size = N0 at *
  generalize hN1 : N0 + 1 = N1 at *
  generalize hN2 : N1 + 1 = N2 at *
  generalize hN3 : N2 + 1 = N3 at *
  generalize hN4 : N3 + 1 = N4 at *
  have FH := Lib.hid FV2
  have bel : Below w.heap.size w W5 := FV2.bel
  have n23 : N2 ≠ N3 := by omega
  have n32 : N3 ≠ N2 := by omega
  have n21 : N2 ≠ N1 := by omega
  have n12 : N1 ≠ N2 := by omega
  have hNle : w.heap.size ≤ N2 := by omega
  have s1 := FV2.at'.lt
  have s2 := FV2.res.lt
  have s3 := FV2.frm.lt
  have s4 := FV2.lst.lt
  have hb2N : b2 < w.heap.size := by omega
  have nb : b2 ≠ N2 := by omega
  have nb' : N2 ≠ b2 := by omega
  have hb2W : b2 < W5.heap.size := Nat.lt_of_lt_of_le hb2N bel.size
  have u0 := (bel.cell (p := ⟨b2, o2, none⟩) (by exact hb2N)).trans d0
  have u1 := (bel.cell (p := ⟨b2, o2 + 1, none⟩) (by exact hb2N)).trans d1
  have PR0 := Lib.hid (show ∀ W, b2 < W.heap.size → W.cell? ⟨b2, o2, none⟩ = some (.int .i64 x0) → W.cell? ⟨b2, o2 + 1, none⟩ = some (.int .i64 x1) → Calls Tryz.prog 62 #[.agg #[.int .i64 0, .int .i64 0], .slice (some ⟨b2, o2, none⟩) 2 ac, .int .i64 0] W fun e w' => e = .returned (.agg #[.int .i64 (x0), .int .i64 (x1)]) ∧ Below W.heap.size W w' from fun W hb h0 h1 => by have h := rpair_any 0 0 b2 o2 2 ac 0 1 x0 x1 W hb rfl (by decide) (by decide) h0 h1 (in_sum iz i0).i64 (in_sum iz i1).i64; simp only [Int.zero_add] at h; exact h)
  have p0 := FH.out.at'.c0
  have p1 := FH.out.at'.c1
  have hN5 : W5.heap.size ≠ N2 ∧ N2 ≠ W5.heap.size ∧ W5.heap.size ≠ N3 ∧ N3 ≠ W5.heap.size := by omega
  have PF := PtAt.new W5 px py
  have bf := (Below.refl W5.heap.size W5).alloc (Nat.le_refl _) (.cells #[.int .i64 px, .int .i64 py] 39)
  go_upto_region 30 with fail
  generalize hW8 : W5.alloc (.cells #[.int .i64 px, .int .i64 py] 39) = W8 at *
  clear hW8
  have F8 := FH.out.next bf
  have hb8 : b2 < W8.heap.size := Nat.lt_of_lt_of_le hb2W bf.size
  have m0 := (bf.cell (p := ⟨b2, o2, none⟩) (by exact hb2W)).trans u0
  have m1 := (bf.cell (p := ⟨b2, o2 + 1, none⟩) (by exact hb2W)).trans u1
  generalize hN5' : W5.heap.size = N5 at *
  obtain ⟨n52, n25, n53, n35⟩ := hN5
  have s5 := PF.lt
  have dw : Below W8.heap.size W8 W8.drew := (Below.refl _ W8).drew
  have FD := Lib.hid (F8.next dw)
  have ltd : b2 < W8.drew.heap.size := hb8
  have v0 := (dw.cell (p := ⟨b2, o2, none⟩) (by exact hb8)).trans m0
  have v1 := (dw.cell (p := ⟨b2, o2 + 1, none⟩) (by exact hb8)).trans m1
  have f0 := F8.frm.c0
  have f1 := F8.frm.c1
  have G0 := PF.next dw
  have l0 := PF.c0
  have l1 := PF.c1
  clear FV2 F8 FH bf PF p0 p1 u0 u1
  go_region_held3 (fun w' => w'.cell? ⟨N3, 0, none⟩ = some (.int .i64 0) ∧ w'.cell? ⟨N3, 1, none⟩ = some (.int .i64 0) ∧ w'.cell? ⟨N5, 0, none⟩ = some (.int .i64 (px)) ∧ w'.cell? ⟨N5, 1, none⟩ = some (.int .i64 (py))) (first | (simp [go_sem, *]; done) | (exact ⟨by assumption, by assumption, by assumption, by assumption⟩))
    (first
      | (go_at_call 62; (with_reducible refine (PR0.out _ ltd v0 v1).mono ?_); rintro e w1x ⟨rfl, b1x⟩; have F1 := Lib.hid (FD.out.next b1x); have lt1 := Nat.lt_of_lt_of_le ltd b1x.size; have t1_0 := (b1x.cell (p := ⟨b2, o2, none⟩) (by exact ltd)).trans v0; have t1_1 := (b1x.cell (p := ⟨b2, o2 + 1, none⟩) (by exact ltd)).trans v1; have ff1a := F1.out.frm.c0; have ff1b := F1.out.frm.c1; have gg1 := G0.next b1x; have G1 := gg1; have ga1 := gg1.c0; have gb1 := gg1.c1; obtain ⟨r0, r1, r2, r3, r4, r5, r6, r7, r8, r9, r10, r11⟩ := SegAt.of_block F1.out.res; simp only [Nat.zero_add] at r1 r2 r3 r4 r5 r6 r7 r8 r9 r10 r11; have rz0 := F1.out.res.z 0; have rz1 := F1.out.res.z 1; have rz2 := F1.out.res.z 2; have rz3 := F1.out.res.z 3; have rz4 := F1.out.res.z 4; have rz5 := F1.out.res.z 5; have rz6 := F1.out.res.z 6; have rz7 := F1.out.res.z 7; have rz8 := F1.out.res.z 8; have rz9 := F1.out.res.z 9; have rz10 := F1.out.res.z 10; have rz11 := F1.out.res.z 11; clear b1x))
  all_goals
    go_wp2_with fail
    exact seg_done Tryz.results37 (segS 4 (x0) (x1) px py 0 0) F1.out.res hNle F1.out.bel rfl
end Go.Proofs.YtgiibcnakiggaaaGreatDoor
