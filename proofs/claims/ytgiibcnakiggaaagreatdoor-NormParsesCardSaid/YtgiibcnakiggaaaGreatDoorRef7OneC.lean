/-
  The document's segment of one command: Ref7OneC. (Typed by a program.)
-/
import Derived.Test.YtgiibcnakiggaaaGreatDoorRef7One
namespace Go.Proofs.YtgiibcnakiggaaaGreatDoor
open Go.RowKit Go.Shelf

set_option maxHeartbeats 8000000 in
set_option maxRecDepth 100000 in
theorem one_Cs (c : Nat) (aa : Option Addr) (ac : Nat) (zs : List Int) (px py : Int) (a : Option Addr) (l : List Seg) (cap was : Nat) (w : World) (hc99 : cntL c ≠ 99) (hz : zs.length = 6) (hin : ∀ i, In32 (nA zs i)) (hI : IntsK .i64 aa zs w) (hA : RdS a l w) (hl : l.length ≤ 100000000) (hcap : capL c = 67) (h97 : 97 ≤ c) (hp : In32 px ∧ In32 py) (hne : l ≠ []) (hlast : inB (l.getLastD zeroS)) :
    Calls Tryz.prog 37 #[.agg #[.int .u8 (c : Int), .slice aa 6 ac], .agg #[.int .i64 px, .int .i64 py], .slice a l.length cap, .int .u8 (was : Int)] w fun e w' => e = .returned (oneS ⟨c, zs⟩ (px, py) l was).val ∧ Below w.heap.size w w' := by
  have hc256 : c < 256 := by unfold cntL at hc99; repeat (first | (split at hc99; omega) | omega)
  have CA := Lib.hid (fun w => rcap_any c hc256 w)
  rw [hcap] at CA
  have hfr : fromL ⟨c, zs⟩ (px, py) = (px, py) := if_pos h97
  have ix := hp.1
  have iy := hp.2
  have iz := z32
  have eG : oneS ⟨c, zs⟩ (px, py) l was = segS 3 (px + nA zs 4) (py + nA zs 5) (px + nA zs 0) (py + nA zs 1) (px + nA zs 2) (py + nA zs 3) := by unfold oneS; rw [hfr, hcap]; first | rfl | (simp only [pairL, Int.zero_add]; rfl)
  rw [eG]
  clear eG hfr
  obtain ⟨b2, o2, rfl, hb2, hd⟩ := hI.pos (j := 0) (by omega)
  have hd' : ∀ i, i < 6 → w.cell? ⟨b2, o2 + i, none⟩ = some (.int .i64 (nA zs i)) := fun i hi => hd i (by omega)
  have d0 : w.cell? ⟨b2, o2, none⟩ = some (.int .i64 (nA zs 0)) := hd' 0 (by decide)
  have i0 := hin 0
  have d1 : w.cell? ⟨b2, o2 + 1, none⟩ = some (.int .i64 (nA zs 1)) := hd' 1 (by decide)
  have i1 := hin 1
  have d2 : w.cell? ⟨b2, o2 + 2, none⟩ = some (.int .i64 (nA zs 2)) := hd' 2 (by decide)
  have i2 := hin 2
  have d3 : w.cell? ⟨b2, o2 + 3, none⟩ = some (.int .i64 (nA zs 3)) := hd' 3 (by decide)
  have i3 := hin 3
  have d4 : w.cell? ⟨b2, o2 + 4, none⟩ = some (.int .i64 (nA zs 4)) := hd' 4 (by decide)
  have i4 := hin 4
  have d5 : w.cell? ⟨b2, o2 + 5, none⟩ = some (.int .i64 (nA zs 5)) := hd' 5 (by decide)
  have i5 := hin 5
  generalize nA zs 0 = x0 at *
  generalize nA zs 1 = x1 at *
  generalize nA zs 2 = x2 at *
  generalize nA zs 3 = x3 at *
  generalize nA zs 4 = x4 at *
  generalize nA zs 5 = x5 at *
  clear hd hd'
  have hpos : 0 < l.length := List.length_pos_iff.2 hne
  obtain ⟨b, off, rfl, hb, hc⟩ := hA.pos hpos
  have hS := hc (l.length - 1) (by omega)
  have hlst : l.getD (l.length - 1) zeroS = l.getLastD zeroS := by rw [List.getLastD_eq_getLast?, List.getLast?_eq_getElem?]; rfl
  rw [hlst] at hS
  obtain ⟨k0, k1, k2, k3, k4, k5, k6, k7, k8, k9, k10, k11⟩ := hS
  have e1 : IntKind.i64.wrap ((l.length : Int) - 1) = ((l.length - 1 : Nat) : Int) := by rw [IntWalk.i64_in _ (by omega)]; omega
  have hiI : ((l.length - 1 : Nat) : Int) < (l.length : Int) := by omega
  have hgt : (0 : Int) < (l.length : Int) := by omega
  obtain ⟨_, _, ja, jb, jc, jd, _⟩ := hlast
  generalize l.getLastD zeroS = g at *
  generalize hn : l.length - 1 = n at *
  generalize hL : l.length = L at *
  have hb21 : b < w.heap.size + 1 := by omega
  have hb22 : b < w.heap.size + 1 + 1 := by omega
  have hb23 : b < w.heap.size + 1 + 1 + 1 := by omega
  have hb24 : b < w.heap.size + 1 + 1 + 1 + 1 := by omega
  have hb25 : b < w.heap.size + 1 + 1 + 1 + 1 + 1 := by omega
  clear hc hlst hn hL hne hpos hcap
  clear hA
  clear hI hz hin hp
  clear hc99
  have FV := Five.mk' w (.cells #[.int .u8 (c : Int), .slice (some ⟨b2, o2, none⟩) 6 ac] 52) px py px py g
  have h97I : (97 : Int) ≤ (c : Int) := by omega
  go_enter Tryz.func37, Tryz.ntmps37
  go_wp2_with fail
  refine (CA.out _).mono ?_
  rintro e w1 ⟨rfl, rfl⟩
  go_upto_region 18 with fail
  have FV2 : Five w w.heap.size (w.heap.size + 1) (w.heap.size + 1 + 1) (w.heap.size + 1 + 1 + 1) (w.heap.size + 1 + 1 + 1 + 1) px py px py g (((((w.alloc (.cells #[.int .u8 (c : Int), .slice (some ⟨b2, o2, none⟩) 6 ac] 52)).alloc (.cells #[.int .i64 px, .int .i64 py] 39)).alloc (.cells #[.int .i64 0, .int .i64 0, .int .i64 0, .int .i64 0, .int .i64 0, .int .i64 0, .int .i64 0, .int .i64 0, .int .i64 0, .int .i64 0, .bool false, .bool false] 42)).alloc (.cells #[.int .i64 px, .int .i64 py] 39)).alloc (.cells #[.int .i64 g.kind, .int .i64 g.tx, .int .i64 g.ty, .int .i64 g.ax, .int .i64 g.ay, .int .i64 g.cx, .int .i64 g.cy, .int .i64 g.rx, .int .i64 g.ry, .int .i64 g.turn, .bool g.lg, .bool g.sw] 42)) := FV
  clear FV
  generalize hW5 : (((((w.alloc (.cells #[.int .u8 (c : Int), .slice (some ⟨b2, o2, none⟩) 6 ac] 52)).alloc (.cells #[.int .i64 px, .int .i64 py] 39)).alloc (.cells #[.int .i64 0, .int .i64 0, .int .i64 0, .int .i64 0, .int .i64 0, .int .i64 0, .int .i64 0, .int .i64 0, .int .i64 0, .int .i64 0, .bool false, .bool false] 42)).alloc (.cells #[.int .i64 px, .int .i64 py] 39)).alloc (.cells #[.int .i64 g.kind, .int .i64 g.tx, .int .i64 g.ty, .int .i64 g.ax, .int .i64 g.ay, .int .i64 g.cx, .int .i64 g.cy, .int .i64 g.rx, .int .i64 g.ry, .int .i64 g.turn, .bool g.lg, .bool g.sw] 42)) = W5 at *
  generalize hN0 : w.heap.size = N0 at *
  generalize hN1 : N0 + 1 = N1 at *
  generalize hN2 : N1 + 1 = N2 at *
  generalize hN3 : N2 + 1 = N3 at *
  generalize hN4 : N3 + 1 = N4 at *
  have FH := Lib.hid FV2
  have bel : Below w.heap.size w W5 := FV2.bel
  have n23 : N2 ≠ N3 := by omega
  have n32 : N3 ≠ N2 := by omega
  have n21 : N2 ≠ N1 := by omega
  have n12 : N1 ≠ N2 := by omega
  have hNle : w.heap.size ≤ N2 := by omega
  have s1 := FV2.at'.lt
  have s2 := FV2.res.lt
  have s3 := FV2.frm.lt
  have s4 := FV2.lst.lt
  have hb2N : b2 < w.heap.size := by omega
  have nb : b2 ≠ N2 := by omega
  have nb' : N2 ≠ b2 := by omega
  have hb2W : b2 < W5.heap.size := Nat.lt_of_lt_of_le hb2N bel.size
  have u0 := (bel.cell (p := ⟨b2, o2, none⟩) (by exact hb2N)).trans d0
  have u1 := (bel.cell (p := ⟨b2, o2 + 1, none⟩) (by exact hb2N)).trans d1
  have u2 := (bel.cell (p := ⟨b2, o2 + 2, none⟩) (by exact hb2N)).trans d2
  have u3 := (bel.cell (p := ⟨b2, o2 + 3, none⟩) (by exact hb2N)).trans d3
  have u4 := (bel.cell (p := ⟨b2, o2 + 4, none⟩) (by exact hb2N)).trans d4
  have u5 := (bel.cell (p := ⟨b2, o2 + 5, none⟩) (by exact hb2N)).trans d5
  have PR0 := Lib.hid (show ∀ W, b2 < W.heap.size → W.cell? ⟨b2, o2, none⟩ = some (.int .i64 x0) → W.cell? ⟨b2, o2 + 1, none⟩ = some (.int .i64 x1) → Calls Tryz.prog 62 #[.agg #[.int .i64 px, .int .i64 py], .slice (some ⟨b2, o2, none⟩) 6 ac, .int .i64 0] W fun e w' => e = .returned (.agg #[.int .i64 (px + x0), .int .i64 (py + x1)]) ∧ Below W.heap.size W w' from fun W hb h0 h1 => rpair_any px py b2 o2 6 ac 0 1 x0 x1 W hb rfl (by decide) (by decide) h0 h1 (in_sum ix i0).i64 (in_sum iy i1).i64)
  have PR2 := Lib.hid (show ∀ W, b2 < W.heap.size → W.cell? ⟨b2, o2 + 2, none⟩ = some (.int .i64 x2) → W.cell? ⟨b2, o2 + 3, none⟩ = some (.int .i64 x3) → Calls Tryz.prog 62 #[.agg #[.int .i64 px, .int .i64 py], .slice (some ⟨b2, o2, none⟩) 6 ac, .int .i64 2] W fun e w' => e = .returned (.agg #[.int .i64 (px + x2), .int .i64 (py + x3)]) ∧ Below W.heap.size W w' from fun W hb h0 h1 => rpair_any px py b2 o2 6 ac 2 3 x2 x3 W hb rfl (by decide) (by decide) h0 h1 (in_sum ix i2).i64 (in_sum iy i3).i64)
  have PR4 := Lib.hid (show ∀ W, b2 < W.heap.size → W.cell? ⟨b2, o2 + 4, none⟩ = some (.int .i64 x4) → W.cell? ⟨b2, o2 + 5, none⟩ = some (.int .i64 x5) → Calls Tryz.prog 62 #[.agg #[.int .i64 px, .int .i64 py], .slice (some ⟨b2, o2, none⟩) 6 ac, .int .i64 4] W fun e w' => e = .returned (.agg #[.int .i64 (px + x4), .int .i64 (py + x5)]) ∧ Below W.heap.size W w' from fun W hb h0 h1 => rpair_any px py b2 o2 6 ac 4 5 x4 x5 W hb rfl (by decide) (by decide) h0 h1 (in_sum ix i4).i64 (in_sum iy i5).i64)
  clear FV2
  have dw : Below W5.heap.size W5 W5.drew := (Below.refl _ W5).drew
  have FD := Lib.hid (FH.out.next dw)
  have ltd : b2 < W5.drew.heap.size := hb2W
  have v0 := (dw.cell (p := ⟨b2, o2, none⟩) (by exact hb2W)).trans u0
  have v1 := (dw.cell (p := ⟨b2, o2 + 1, none⟩) (by exact hb2W)).trans u1
  have v2 := (dw.cell (p := ⟨b2, o2 + 2, none⟩) (by exact hb2W)).trans u2
  have v3 := (dw.cell (p := ⟨b2, o2 + 3, none⟩) (by exact hb2W)).trans u3
  have v4 := (dw.cell (p := ⟨b2, o2 + 4, none⟩) (by exact hb2W)).trans u4
  have v5 := (dw.cell (p := ⟨b2, o2 + 5, none⟩) (by exact hb2W)).trans u5
  have f0 := FH.out.frm.c0
  have f1 := FH.out.frm.c1
  go_region_held3 (fun w' => w'.cell? ⟨N3, 0, none⟩ = some (.int .i64 px) ∧ w'.cell? ⟨N3, 1, none⟩ = some (.int .i64 py)) (first | (simp [go_sem, *]; done) | (exact ⟨by assumption, by assumption⟩))
    (first
      | (go_at_call 62; (with_reducible refine (PR0.out _ ltd v0 v1).mono ?_); rintro e w1x ⟨rfl, b1x⟩; have F1 := Lib.hid (FD.out.next b1x); have lt1 := Nat.lt_of_lt_of_le ltd b1x.size; have t1_0 := (b1x.cell (p := ⟨b2, o2, none⟩) (by exact ltd)).trans v0; have t1_1 := (b1x.cell (p := ⟨b2, o2 + 1, none⟩) (by exact ltd)).trans v1; have t1_2 := (b1x.cell (p := ⟨b2, o2 + 2, none⟩) (by exact ltd)).trans v2; have t1_3 := (b1x.cell (p := ⟨b2, o2 + 3, none⟩) (by exact ltd)).trans v3; have t1_4 := (b1x.cell (p := ⟨b2, o2 + 4, none⟩) (by exact ltd)).trans v4; have t1_5 := (b1x.cell (p := ⟨b2, o2 + 5, none⟩) (by exact ltd)).trans v5; have ff1a := F1.out.frm.c0; have ff1b := F1.out.frm.c1; clear b1x)
      | (go_at_call 62; (with_reducible refine (PR2.out _ lt1 t1_2 t1_3).mono ?_); rintro e w2x ⟨rfl, b2x⟩; have F2 := Lib.hid (F1.out.next b2x); have lt2 := Nat.lt_of_lt_of_le lt1 b2x.size; have t2_0 := (b2x.cell (p := ⟨b2, o2, none⟩) (by exact lt1)).trans t1_0; have t2_1 := (b2x.cell (p := ⟨b2, o2 + 1, none⟩) (by exact lt1)).trans t1_1; have t2_2 := (b2x.cell (p := ⟨b2, o2 + 2, none⟩) (by exact lt1)).trans t1_2; have t2_3 := (b2x.cell (p := ⟨b2, o2 + 3, none⟩) (by exact lt1)).trans t1_3; have t2_4 := (b2x.cell (p := ⟨b2, o2 + 4, none⟩) (by exact lt1)).trans t1_4; have t2_5 := (b2x.cell (p := ⟨b2, o2 + 5, none⟩) (by exact lt1)).trans t1_5; have ff2a := F2.out.frm.c0; have ff2b := F2.out.frm.c1; clear b2x)
      | (go_at_call 62; (with_reducible refine (PR4.out _ lt2 t2_4 t2_5).mono ?_); rintro e w3x ⟨rfl, b3x⟩; have F3 := Lib.hid (F2.out.next b3x); have lt3 := Nat.lt_of_lt_of_le lt2 b3x.size; have t3_0 := (b3x.cell (p := ⟨b2, o2, none⟩) (by exact lt2)).trans t2_0; have t3_1 := (b3x.cell (p := ⟨b2, o2 + 1, none⟩) (by exact lt2)).trans t2_1; have t3_2 := (b3x.cell (p := ⟨b2, o2 + 2, none⟩) (by exact lt2)).trans t2_2; have t3_3 := (b3x.cell (p := ⟨b2, o2 + 3, none⟩) (by exact lt2)).trans t2_3; have t3_4 := (b3x.cell (p := ⟨b2, o2 + 4, none⟩) (by exact lt2)).trans t2_4; have t3_5 := (b3x.cell (p := ⟨b2, o2 + 5, none⟩) (by exact lt2)).trans t2_5; have ff3a := F3.out.frm.c0; have ff3b := F3.out.frm.c1; obtain ⟨r0, r1, r2, r3, r4, r5, r6, r7, r8, r9, r10, r11⟩ := SegAt.of_block F3.out.res; simp only [Nat.zero_add] at r1 r2 r3 r4 r5 r6 r7 r8 r9 r10 r11; have rz0 := F3.out.res.z 0; have rz1 := F3.out.res.z 1; have rz2 := F3.out.res.z 2; have rz3 := F3.out.res.z 3; have rz4 := F3.out.res.z 4; have rz5 := F3.out.res.z 5; have rz6 := F3.out.res.z 6; have rz7 := F3.out.res.z 7; have rz8 := F3.out.res.z 8; have rz9 := F3.out.res.z 9; have rz10 := F3.out.res.z 10; have rz11 := F3.out.res.z 11; clear b3x))
  all_goals
    go_wp2_with fail
    exact seg_done Tryz.results37 (segS 3 (px + x4) (py + x5) (px + x0) (py + x1) (px + x2) (py + x3)) F3.out.res hNle F3.out.bel rfl
set_option maxHeartbeats 8000000 in
set_option maxRecDepth 100000 in
theorem one_Cb (c : Nat) (aa : Option Addr) (ac : Nat) (zs : List Int) (px py : Int) (a : Option Addr) (l : List Seg) (cap was : Nat) (w : World) (_hc99 : cntL c ≠ 99) (hz : zs.length = 6) (hin : ∀ i, In32 (nA zs i)) (hI : IntsK .i64 aa zs w) (hA : RdS a l w) (hl : l.length ≤ 100000000) (hcap : capL c = 67) (h97 : ¬ 97 ≤ c) (hp : In32 px ∧ In32 py) (hne : l ≠ []) (hlast : inB (l.getLastD zeroS)) :
    Calls Tryz.prog 37 #[.agg #[.int .u8 (c : Int), .slice aa 6 ac], .agg #[.int .i64 px, .int .i64 py], .slice a l.length cap, .int .u8 (was : Int)] w fun e w' => e = .returned (oneS ⟨c, zs⟩ (px, py) l was).val ∧ Below w.heap.size w w' := by
  have hc256 : c < 256 := by omega
  have CA := Lib.hid (fun w => rcap_any c hc256 w)
  rw [hcap] at CA
  have hfr : fromL ⟨c, zs⟩ (px, py) = (0, 0) := if_neg h97
  have ix := hp.1
  have iy := hp.2
  have iz := z32
  have eG : oneS ⟨c, zs⟩ (px, py) l was = segS 3 (nA zs 4) (nA zs 5) (nA zs 0) (nA zs 1) (nA zs 2) (nA zs 3) := by unfold oneS; rw [hfr, hcap]; first | rfl | (simp only [pairL, Int.zero_add]; rfl)
  rw [eG]
  clear eG hfr
  obtain ⟨b2, o2, rfl, hb2, hd⟩ := hI.pos (j := 0) (by omega)
  have hd' : ∀ i, i < 6 → w.cell? ⟨b2, o2 + i, none⟩ = some (.int .i64 (nA zs i)) := fun i hi => hd i (by omega)
  have d0 : w.cell? ⟨b2, o2, none⟩ = some (.int .i64 (nA zs 0)) := hd' 0 (by decide)
  have i0 := hin 0
  have d1 : w.cell? ⟨b2, o2 + 1, none⟩ = some (.int .i64 (nA zs 1)) := hd' 1 (by decide)
  have i1 := hin 1
  have d2 : w.cell? ⟨b2, o2 + 2, none⟩ = some (.int .i64 (nA zs 2)) := hd' 2 (by decide)
  have i2 := hin 2
  have d3 : w.cell? ⟨b2, o2 + 3, none⟩ = some (.int .i64 (nA zs 3)) := hd' 3 (by decide)
  have i3 := hin 3
  have d4 : w.cell? ⟨b2, o2 + 4, none⟩ = some (.int .i64 (nA zs 4)) := hd' 4 (by decide)
  have i4 := hin 4
  have d5 : w.cell? ⟨b2, o2 + 5, none⟩ = some (.int .i64 (nA zs 5)) := hd' 5 (by decide)
  have i5 := hin 5
  generalize nA zs 0 = x0 at *
  generalize nA zs 1 = x1 at *
  generalize nA zs 2 = x2 at *
  generalize nA zs 3 = x3 at *
  generalize nA zs 4 = x4 at *
  generalize nA zs 5 = x5 at *
  clear hd hd'
  have hpos : 0 < l.length := List.length_pos_iff.2 hne
  obtain ⟨b, off, rfl, hb, hc⟩ := hA.pos hpos
  have hS := hc (l.length - 1) (by omega)
  have hlst : l.getD (l.length - 1) zeroS = l.getLastD zeroS := by rw [List.getLastD_eq_getLast?, List.getLast?_eq_getElem?]; rfl
  rw [hlst] at hS
  obtain ⟨k0, k1, k2, k3, k4, k5, k6, k7, k8, k9, k10, k11⟩ := hS
  have e1 : IntKind.i64.wrap ((l.length : Int) - 1) = ((l.length - 1 : Nat) : Int) := by rw [IntWalk.i64_in _ (by omega)]; omega
  have hiI : ((l.length - 1 : Nat) : Int) < (l.length : Int) := by omega
  have hgt : (0 : Int) < (l.length : Int) := by omega
  obtain ⟨_, _, ja, jb, jc, jd, _⟩ := hlast
  generalize l.getLastD zeroS = g at *
  generalize hn : l.length - 1 = n at *
  generalize hL : l.length = L at *
  have hb21 : b < w.heap.size + 1 := by omega
  have hb22 : b < w.heap.size + 1 + 1 := by omega
  have hb23 : b < w.heap.size + 1 + 1 + 1 := by omega
  have hb24 : b < w.heap.size + 1 + 1 + 1 + 1 := by omega
  have hb25 : b < w.heap.size + 1 + 1 + 1 + 1 + 1 := by omega
  clear hc hlst hn hL hne hpos hcap
  clear hA
  clear hI hz hin hp
  clear _hc99
  have FV := Five.mk' w (.cells #[.int .u8 (c : Int), .slice (some ⟨b2, o2, none⟩) 6 ac] 52) px py 0 0 g
  have h97I : ¬ (97 : Int) ≤ (c : Int) := by omega
  go_enter Tryz.func37, Tryz.ntmps37
  go_wp2_with fail
  refine (CA.out _).mono ?_
  rintro e w1 ⟨rfl, rfl⟩
  go_upto_region 18 with fail
  have FV2 : Five w w.heap.size (w.heap.size + 1) (w.heap.size + 1 + 1) (w.heap.size + 1 + 1 + 1) (w.heap.size + 1 + 1 + 1 + 1) px py 0 0 g (((((w.alloc (.cells #[.int .u8 (c : Int), .slice (some ⟨b2, o2, none⟩) 6 ac] 52)).alloc (.cells #[.int .i64 px, .int .i64 py] 39)).alloc (.cells #[.int .i64 0, .int .i64 0, .int .i64 0, .int .i64 0, .int .i64 0, .int .i64 0, .int .i64 0, .int .i64 0, .int .i64 0, .int .i64 0, .bool false, .bool false] 42)).alloc (.cells #[.int .i64 0, .int .i64 0] 39)).alloc (.cells #[.int .i64 g.kind, .int .i64 g.tx, .int .i64 g.ty, .int .i64 g.ax, .int .i64 g.ay, .int .i64 g.cx, .int .i64 g.cy, .int .i64 g.rx, .int .i64 g.ry, .int .i64 g.turn, .bool g.lg, .bool g.sw] 42)) := FV
  clear FV
  generalize hW5 : (((((w.alloc (.cells #[.int .u8 (c : Int), .slice (some ⟨b2, o2, none⟩) 6 ac] 52)).alloc (.cells #[.int .i64 px, .int .i64 py] 39)).alloc (.cells #[.int .i64 0, .int .i64 0, .int .i64 0, .int .i64 0, .int .i64 0, .int .i64 0, .int .i64 0, .int .i64 0, .int .i64 0, .int .i64 0, .bool false, .bool false] 42)).alloc (.cells #[.int .i64 0, .int .i64 0] 39)).alloc (.cells #[.int .i64 g.kind, .int .i64 g.tx, .int .i64 g.ty, .int .i64 g.ax, .int .i64 g.ay, .int .i64 g.cx, .int .i64 g.cy, .int .i64 g.rx, .int .i64 g.ry, .int .i64 g.turn, .bool g.lg, .bool g.sw] 42)) = W5 at *
  generalize hN0 : w.heap.size = N0 at *
  generalize hN1 : N0 + 1 = N1 at *
  generalize hN2 : N1 + 1 = N2 at *
  generalize hN3 : N2 + 1 = N3 at *
  generalize hN4 : N3 + 1 = N4 at *
  have FH := Lib.hid FV2
  have bel : Below w.heap.size w W5 := FV2.bel
  have n23 : N2 ≠ N3 := by omega
  have n32 : N3 ≠ N2 := by omega
  have n21 : N2 ≠ N1 := by omega
  have n12 : N1 ≠ N2 := by omega
  have hNle : w.heap.size ≤ N2 := by omega
  have s1 := FV2.at'.lt
  have s2 := FV2.res.lt
  have s3 := FV2.frm.lt
  have s4 := FV2.lst.lt
  have hb2N : b2 < w.heap.size := by omega
  have nb : b2 ≠ N2 := by omega
  have nb' : N2 ≠ b2 := by omega
  have hb2W : b2 < W5.heap.size := Nat.lt_of_lt_of_le hb2N bel.size
  have u0 := (bel.cell (p := ⟨b2, o2, none⟩) (by exact hb2N)).trans d0
  have u1 := (bel.cell (p := ⟨b2, o2 + 1, none⟩) (by exact hb2N)).trans d1
  have u2 := (bel.cell (p := ⟨b2, o2 + 2, none⟩) (by exact hb2N)).trans d2
  have u3 := (bel.cell (p := ⟨b2, o2 + 3, none⟩) (by exact hb2N)).trans d3
  have u4 := (bel.cell (p := ⟨b2, o2 + 4, none⟩) (by exact hb2N)).trans d4
  have u5 := (bel.cell (p := ⟨b2, o2 + 5, none⟩) (by exact hb2N)).trans d5
  have PR0 := Lib.hid (show ∀ W, b2 < W.heap.size → W.cell? ⟨b2, o2, none⟩ = some (.int .i64 x0) → W.cell? ⟨b2, o2 + 1, none⟩ = some (.int .i64 x1) → Calls Tryz.prog 62 #[.agg #[.int .i64 0, .int .i64 0], .slice (some ⟨b2, o2, none⟩) 6 ac, .int .i64 0] W fun e w' => e = .returned (.agg #[.int .i64 (x0), .int .i64 (x1)]) ∧ Below W.heap.size W w' from fun W hb h0 h1 => by have h := rpair_any 0 0 b2 o2 6 ac 0 1 x0 x1 W hb rfl (by decide) (by decide) h0 h1 (in_sum iz i0).i64 (in_sum iz i1).i64; simp only [Int.zero_add] at h; exact h)
  have PR2 := Lib.hid (show ∀ W, b2 < W.heap.size → W.cell? ⟨b2, o2 + 2, none⟩ = some (.int .i64 x2) → W.cell? ⟨b2, o2 + 3, none⟩ = some (.int .i64 x3) → Calls Tryz.prog 62 #[.agg #[.int .i64 0, .int .i64 0], .slice (some ⟨b2, o2, none⟩) 6 ac, .int .i64 2] W fun e w' => e = .returned (.agg #[.int .i64 (x2), .int .i64 (x3)]) ∧ Below W.heap.size W w' from fun W hb h0 h1 => by have h := rpair_any 0 0 b2 o2 6 ac 2 3 x2 x3 W hb rfl (by decide) (by decide) h0 h1 (in_sum iz i2).i64 (in_sum iz i3).i64; simp only [Int.zero_add] at h; exact h)
  have PR4 := Lib.hid (show ∀ W, b2 < W.heap.size → W.cell? ⟨b2, o2 + 4, none⟩ = some (.int .i64 x4) → W.cell? ⟨b2, o2 + 5, none⟩ = some (.int .i64 x5) → Calls Tryz.prog 62 #[.agg #[.int .i64 0, .int .i64 0], .slice (some ⟨b2, o2, none⟩) 6 ac, .int .i64 4] W fun e w' => e = .returned (.agg #[.int .i64 (x4), .int .i64 (x5)]) ∧ Below W.heap.size W w' from fun W hb h0 h1 => by have h := rpair_any 0 0 b2 o2 6 ac 4 5 x4 x5 W hb rfl (by decide) (by decide) h0 h1 (in_sum iz i4).i64 (in_sum iz i5).i64; simp only [Int.zero_add] at h; exact h)
  clear FV2
  have dw : Below W5.heap.size W5 W5.drew := (Below.refl _ W5).drew
  have FD := Lib.hid (FH.out.next dw)
  have ltd : b2 < W5.drew.heap.size := hb2W
  have v0 := (dw.cell (p := ⟨b2, o2, none⟩) (by exact hb2W)).trans u0
  have v1 := (dw.cell (p := ⟨b2, o2 + 1, none⟩) (by exact hb2W)).trans u1
  have v2 := (dw.cell (p := ⟨b2, o2 + 2, none⟩) (by exact hb2W)).trans u2
  have v3 := (dw.cell (p := ⟨b2, o2 + 3, none⟩) (by exact hb2W)).trans u3
  have v4 := (dw.cell (p := ⟨b2, o2 + 4, none⟩) (by exact hb2W)).trans u4
  have v5 := (dw.cell (p := ⟨b2, o2 + 5, none⟩) (by exact hb2W)).trans u5
  have f0 := FH.out.frm.c0
  have f1 := FH.out.frm.c1
  go_region_held3 (fun w' => w'.cell? ⟨N3, 0, none⟩ = some (.int .i64 0) ∧ w'.cell? ⟨N3, 1, none⟩ = some (.int .i64 0)) (first | (simp [go_sem, *]; done) | (exact ⟨by assumption, by assumption⟩))
    (first
      | (go_at_call 62; (with_reducible refine (PR0.out _ ltd v0 v1).mono ?_); rintro e w1x ⟨rfl, b1x⟩; have F1 := Lib.hid (FD.out.next b1x); have lt1 := Nat.lt_of_lt_of_le ltd b1x.size; have t1_0 := (b1x.cell (p := ⟨b2, o2, none⟩) (by exact ltd)).trans v0; have t1_1 := (b1x.cell (p := ⟨b2, o2 + 1, none⟩) (by exact ltd)).trans v1; have t1_2 := (b1x.cell (p := ⟨b2, o2 + 2, none⟩) (by exact ltd)).trans v2; have t1_3 := (b1x.cell (p := ⟨b2, o2 + 3, none⟩) (by exact ltd)).trans v3; have t1_4 := (b1x.cell (p := ⟨b2, o2 + 4, none⟩) (by exact ltd)).trans v4; have t1_5 := (b1x.cell (p := ⟨b2, o2 + 5, none⟩) (by exact ltd)).trans v5; have ff1a := F1.out.frm.c0; have ff1b := F1.out.frm.c1; clear b1x)
      | (go_at_call 62; (with_reducible refine (PR2.out _ lt1 t1_2 t1_3).mono ?_); rintro e w2x ⟨rfl, b2x⟩; have F2 := Lib.hid (F1.out.next b2x); have lt2 := Nat.lt_of_lt_of_le lt1 b2x.size; have t2_0 := (b2x.cell (p := ⟨b2, o2, none⟩) (by exact lt1)).trans t1_0; have t2_1 := (b2x.cell (p := ⟨b2, o2 + 1, none⟩) (by exact lt1)).trans t1_1; have t2_2 := (b2x.cell (p := ⟨b2, o2 + 2, none⟩) (by exact lt1)).trans t1_2; have t2_3 := (b2x.cell (p := ⟨b2, o2 + 3, none⟩) (by exact lt1)).trans t1_3; have t2_4 := (b2x.cell (p := ⟨b2, o2 + 4, none⟩) (by exact lt1)).trans t1_4; have t2_5 := (b2x.cell (p := ⟨b2, o2 + 5, none⟩) (by exact lt1)).trans t1_5; have ff2a := F2.out.frm.c0; have ff2b := F2.out.frm.c1; clear b2x)
      | (go_at_call 62; (with_reducible refine (PR4.out _ lt2 t2_4 t2_5).mono ?_); rintro e w3x ⟨rfl, b3x⟩; have F3 := Lib.hid (F2.out.next b3x); have lt3 := Nat.lt_of_lt_of_le lt2 b3x.size; have t3_0 := (b3x.cell (p := ⟨b2, o2, none⟩) (by exact lt2)).trans t2_0; have t3_1 := (b3x.cell (p := ⟨b2, o2 + 1, none⟩) (by exact lt2)).trans t2_1; have t3_2 := (b3x.cell (p := ⟨b2, o2 + 2, none⟩) (by exact lt2)).trans t2_2; have t3_3 := (b3x.cell (p := ⟨b2, o2 + 3, none⟩) (by exact lt2)).trans t2_3; have t3_4 := (b3x.cell (p := ⟨b2, o2 + 4, none⟩) (by exact lt2)).trans t2_4; have t3_5 := (b3x.cell (p := ⟨b2, o2 + 5, none⟩) (by exact lt2)).trans t2_5; have ff3a := F3.out.frm.c0; have ff3b := F3.out.frm.c1; obtain ⟨r0, r1, r2, r3, r4, r5, r6, r7, r8, r9, r10, r11⟩ := SegAt.of_block F3.out.res; simp only [Nat.zero_add] at r1 r2 r3 r4 r5 r6 r7 r8 r9 r10 r11; have rz0 := F3.out.res.z 0; have rz1 := F3.out.res.z 1; have rz2 := F3.out.res.z 2; have rz3 := F3.out.res.z 3; have rz4 := F3.out.res.z 4; have rz5 := F3.out.res.z 5; have rz6 := F3.out.res.z 6; have rz7 := F3.out.res.z 7; have rz8 := F3.out.res.z 8; have rz9 := F3.out.res.z 9; have rz10 := F3.out.res.z 10; have rz11 := F3.out.res.z 11; clear b3x))
  all_goals
    go_wp2_with fail
    exact seg_done Tryz.results37 (segS 3 (x4) (x5) (x0) (x1) (x2) (x3)) F3.out.res hNle F3.out.bel rfl
set_option maxHeartbeats 8000000 in
set_option maxRecDepth 100000 in
theorem one_Qs (c : Nat) (aa : Option Addr) (ac : Nat) (zs : List Int) (px py : Int) (a : Option Addr) (l : List Seg) (cap was : Nat) (w : World) (hc99 : cntL c ≠ 99) (hz : zs.length = 4) (hin : ∀ i, In32 (nA zs i)) (hI : IntsK .i64 aa zs w) (hA : RdS a l w) (hl : l.length ≤ 100000000) (hcap : capL c = 81) (h97 : 97 ≤ c) (hp : In32 px ∧ In32 py) (hne : l ≠ []) (hlast : inB (l.getLastD zeroS)) :
    Calls Tryz.prog 37 #[.agg #[.int .u8 (c : Int), .slice aa 4 ac], .agg #[.int .i64 px, .int .i64 py], .slice a l.length cap, .int .u8 (was : Int)] w fun e w' => e = .returned (oneS ⟨c, zs⟩ (px, py) l was).val ∧ Below w.heap.size w w' := by
  have hc256 : c < 256 := by unfold cntL at hc99; repeat (first | (split at hc99; omega) | omega)
  have CA := Lib.hid (fun w => rcap_any c hc256 w)
  rw [hcap] at CA
  have hfr : fromL ⟨c, zs⟩ (px, py) = (px, py) := if_pos h97
  have ix := hp.1
  have iy := hp.2
  have iz := z32
  have eG : oneS ⟨c, zs⟩ (px, py) l was = segS 4 (px + nA zs 2) (py + nA zs 3) (px + nA zs 0) (py + nA zs 1) 0 0 := by unfold oneS; rw [hfr, hcap]; first | rfl | (simp only [pairL, Int.zero_add]; rfl)
  rw [eG]
  clear eG hfr
  obtain ⟨b2, o2, rfl, hb2, hd⟩ := hI.pos (j := 0) (by omega)
  have hd' : ∀ i, i < 4 → w.cell? ⟨b2, o2 + i, none⟩ = some (.int .i64 (nA zs i)) := fun i hi => hd i (by omega)
  have d0 : w.cell? ⟨b2, o2, none⟩ = some (.int .i64 (nA zs 0)) := hd' 0 (by decide)
  have i0 := hin 0
  have d1 : w.cell? ⟨b2, o2 + 1, none⟩ = some (.int .i64 (nA zs 1)) := hd' 1 (by decide)
  have i1 := hin 1
  have d2 : w.cell? ⟨b2, o2 + 2, none⟩ = some (.int .i64 (nA zs 2)) := hd' 2 (by decide)
  have i2 := hin 2
  have d3 : w.cell? ⟨b2, o2 + 3, none⟩ = some (.int .i64 (nA zs 3)) := hd' 3 (by decide)
  have i3 := hin 3
  generalize nA zs 0 = x0 at *
  generalize nA zs 1 = x1 at *
  generalize nA zs 2 = x2 at *
  generalize nA zs 3 = x3 at *
  clear hd hd'
  have hpos : 0 < l.length := List.length_pos_iff.2 hne
  obtain ⟨b, off, rfl, hb, hc⟩ := hA.pos hpos
  have hS := hc (l.length - 1) (by omega)
  have hlst : l.getD (l.length - 1) zeroS = l.getLastD zeroS := by rw [List.getLastD_eq_getLast?, List.getLast?_eq_getElem?]; rfl
  rw [hlst] at hS
  obtain ⟨k0, k1, k2, k3, k4, k5, k6, k7, k8, k9, k10, k11⟩ := hS
  have e1 : IntKind.i64.wrap ((l.length : Int) - 1) = ((l.length - 1 : Nat) : Int) := by rw [IntWalk.i64_in _ (by omega)]; omega
  have hiI : ((l.length - 1 : Nat) : Int) < (l.length : Int) := by omega
  have hgt : (0 : Int) < (l.length : Int) := by omega
  obtain ⟨_, _, ja, jb, jc, jd, _⟩ := hlast
  generalize l.getLastD zeroS = g at *
  generalize hn : l.length - 1 = n at *
  generalize hL : l.length = L at *
  have hb21 : b < w.heap.size + 1 := by omega
  have hb22 : b < w.heap.size + 1 + 1 := by omega
  have hb23 : b < w.heap.size + 1 + 1 + 1 := by omega
  have hb24 : b < w.heap.size + 1 + 1 + 1 + 1 := by omega
  have hb25 : b < w.heap.size + 1 + 1 + 1 + 1 + 1 := by omega
  clear hc hlst hn hL hne hpos hcap
  clear hA
  clear hI hz hin hp
  clear hc99
  have FV := Five.mk' w (.cells #[.int .u8 (c : Int), .slice (some ⟨b2, o2, none⟩) 4 ac] 52) px py px py g
  have h97I : (97 : Int) ≤ (c : Int) := by omega
  go_enter Tryz.func37, Tryz.ntmps37
  go_wp2_with fail
  refine (CA.out _).mono ?_
  rintro e w1 ⟨rfl, rfl⟩
  go_upto_region 25 with fail
  have FV2 : Five w w.heap.size (w.heap.size + 1) (w.heap.size + 1 + 1) (w.heap.size + 1 + 1 + 1) (w.heap.size + 1 + 1 + 1 + 1) px py px py g (((((w.alloc (.cells #[.int .u8 (c : Int), .slice (some ⟨b2, o2, none⟩) 4 ac] 52)).alloc (.cells #[.int .i64 px, .int .i64 py] 39)).alloc (.cells #[.int .i64 0, .int .i64 0, .int .i64 0, .int .i64 0, .int .i64 0, .int .i64 0, .int .i64 0, .int .i64 0, .int .i64 0, .int .i64 0, .bool false, .bool false] 42)).alloc (.cells #[.int .i64 px, .int .i64 py] 39)).alloc (.cells #[.int .i64 g.kind, .int .i64 g.tx, .int .i64 g.ty, .int .i64 g.ax, .int .i64 g.ay, .int .i64 g.cx, .int .i64 g.cy, .int .i64 g.rx, .int .i64 g.ry, .int .i64 g.turn, .bool g.lg, .bool g.sw] 42)) := FV
  clear FV
  generalize hW5 : (((((w.alloc (.cells #[.int .u8 (c : Int), .slice (some ⟨b2, o2, none⟩) 4 ac] 52)).alloc (.cells #[.int .i64 px, .int .i64 py] 39)).alloc (.cells #[.int .i64 0, .int .i64 0, .int .i64 0, .int .i64 0, .int .i64 0, .int .i64 0, .int .i64 0, .int .i64 0, .int .i64 0, .int .i64 0, .bool false, .bool false] 42)).alloc (.cells #[.int .i64 px, .int .i64 py] 39)).alloc (.cells #[.int .i64 g.kind, .int .i64 g.tx, .int .i64 g.ty, .int .i64 g.ax, .int .i64 g.ay, .int .i64 g.cx, .int .i64 g.cy, .int .i64 g.rx, .int .i64 g.ry, .int .i64 g.turn, .bool g.lg, .bool g.sw] 42)) = W5 at *
  generalize hN0 : w.heap.size = N0 at *
  generalize hN1 : N0 + 1 = N1 at *
  generalize hN2 : N1 + 1 = N2 at *
  generalize hN3 : N2 + 1 = N3 at *
  generalize hN4 : N3 + 1 = N4 at *
  have FH := Lib.hid FV2
  have bel : Below w.heap.size w W5 := FV2.bel
  have n23 : N2 ≠ N3 := by omega
  have n32 : N3 ≠ N2 := by omega
  have n21 : N2 ≠ N1 := by omega
  have n12 : N1 ≠ N2 := by omega
  have hNle : w.heap.size ≤ N2 := by omega
  have s1 := FV2.at'.lt
  have s2 := FV2.res.lt
  have s3 := FV2.frm.lt
  have s4 := FV2.lst.lt
  have hb2N : b2 < w.heap.size := by omega
  have nb : b2 ≠ N2 := by omega
  have nb' : N2 ≠ b2 := by omega
  have hb2W : b2 < W5.heap.size := Nat.lt_of_lt_of_le hb2N bel.size
  have u0 := (bel.cell (p := ⟨b2, o2, none⟩) (by exact hb2N)).trans d0
  have u1 := (bel.cell (p := ⟨b2, o2 + 1, none⟩) (by exact hb2N)).trans d1
  have u2 := (bel.cell (p := ⟨b2, o2 + 2, none⟩) (by exact hb2N)).trans d2
  have u3 := (bel.cell (p := ⟨b2, o2 + 3, none⟩) (by exact hb2N)).trans d3
  have PR0 := Lib.hid (show ∀ W, b2 < W.heap.size → W.cell? ⟨b2, o2, none⟩ = some (.int .i64 x0) → W.cell? ⟨b2, o2 + 1, none⟩ = some (.int .i64 x1) → Calls Tryz.prog 62 #[.agg #[.int .i64 px, .int .i64 py], .slice (some ⟨b2, o2, none⟩) 4 ac, .int .i64 0] W fun e w' => e = .returned (.agg #[.int .i64 (px + x0), .int .i64 (py + x1)]) ∧ Below W.heap.size W w' from fun W hb h0 h1 => rpair_any px py b2 o2 4 ac 0 1 x0 x1 W hb rfl (by decide) (by decide) h0 h1 (in_sum ix i0).i64 (in_sum iy i1).i64)
  have PR2 := Lib.hid (show ∀ W, b2 < W.heap.size → W.cell? ⟨b2, o2 + 2, none⟩ = some (.int .i64 x2) → W.cell? ⟨b2, o2 + 3, none⟩ = some (.int .i64 x3) → Calls Tryz.prog 62 #[.agg #[.int .i64 px, .int .i64 py], .slice (some ⟨b2, o2, none⟩) 4 ac, .int .i64 2] W fun e w' => e = .returned (.agg #[.int .i64 (px + x2), .int .i64 (py + x3)]) ∧ Below W.heap.size W w' from fun W hb h0 h1 => rpair_any px py b2 o2 4 ac 2 3 x2 x3 W hb rfl (by decide) (by decide) h0 h1 (in_sum ix i2).i64 (in_sum iy i3).i64)
  clear FV2
  have dw : Below W5.heap.size W5 W5.drew := (Below.refl _ W5).drew
  have FD := Lib.hid (FH.out.next dw)
  have ltd : b2 < W5.drew.heap.size := hb2W
  have v0 := (dw.cell (p := ⟨b2, o2, none⟩) (by exact hb2W)).trans u0
  have v1 := (dw.cell (p := ⟨b2, o2 + 1, none⟩) (by exact hb2W)).trans u1
  have v2 := (dw.cell (p := ⟨b2, o2 + 2, none⟩) (by exact hb2W)).trans u2
  have v3 := (dw.cell (p := ⟨b2, o2 + 3, none⟩) (by exact hb2W)).trans u3
  have f0 := FH.out.frm.c0
  have f1 := FH.out.frm.c1
  go_region_held3 (fun w' => w'.cell? ⟨N3, 0, none⟩ = some (.int .i64 px) ∧ w'.cell? ⟨N3, 1, none⟩ = some (.int .i64 py)) (first | (simp [go_sem, *]; done) | (exact ⟨by assumption, by assumption⟩))
    (first
      | (go_at_call 62; (with_reducible refine (PR0.out _ ltd v0 v1).mono ?_); rintro e w1x ⟨rfl, b1x⟩; have F1 := Lib.hid (FD.out.next b1x); have lt1 := Nat.lt_of_lt_of_le ltd b1x.size; have t1_0 := (b1x.cell (p := ⟨b2, o2, none⟩) (by exact ltd)).trans v0; have t1_1 := (b1x.cell (p := ⟨b2, o2 + 1, none⟩) (by exact ltd)).trans v1; have t1_2 := (b1x.cell (p := ⟨b2, o2 + 2, none⟩) (by exact ltd)).trans v2; have t1_3 := (b1x.cell (p := ⟨b2, o2 + 3, none⟩) (by exact ltd)).trans v3; have ff1a := F1.out.frm.c0; have ff1b := F1.out.frm.c1; clear b1x)
      | (go_at_call 62; (with_reducible refine (PR2.out _ lt1 t1_2 t1_3).mono ?_); rintro e w2x ⟨rfl, b2x⟩; have F2 := Lib.hid (F1.out.next b2x); have lt2 := Nat.lt_of_lt_of_le lt1 b2x.size; have t2_0 := (b2x.cell (p := ⟨b2, o2, none⟩) (by exact lt1)).trans t1_0; have t2_1 := (b2x.cell (p := ⟨b2, o2 + 1, none⟩) (by exact lt1)).trans t1_1; have t2_2 := (b2x.cell (p := ⟨b2, o2 + 2, none⟩) (by exact lt1)).trans t1_2; have t2_3 := (b2x.cell (p := ⟨b2, o2 + 3, none⟩) (by exact lt1)).trans t1_3; have ff2a := F2.out.frm.c0; have ff2b := F2.out.frm.c1; obtain ⟨r0, r1, r2, r3, r4, r5, r6, r7, r8, r9, r10, r11⟩ := SegAt.of_block F2.out.res; simp only [Nat.zero_add] at r1 r2 r3 r4 r5 r6 r7 r8 r9 r10 r11; have rz0 := F2.out.res.z 0; have rz1 := F2.out.res.z 1; have rz2 := F2.out.res.z 2; have rz3 := F2.out.res.z 3; have rz4 := F2.out.res.z 4; have rz5 := F2.out.res.z 5; have rz6 := F2.out.res.z 6; have rz7 := F2.out.res.z 7; have rz8 := F2.out.res.z 8; have rz9 := F2.out.res.z 9; have rz10 := F2.out.res.z 10; have rz11 := F2.out.res.z 11; clear b2x))
  all_goals
    go_wp2_with fail
    exact seg_done Tryz.results37 (segS 4 (px + x2) (py + x3) (px + x0) (py + x1) 0 0) F2.out.res hNle F2.out.bel rfl
set_option maxHeartbeats 8000000 in
set_option maxRecDepth 100000 in
theorem one_Qb (c : Nat) (aa : Option Addr) (ac : Nat) (zs : List Int) (px py : Int) (a : Option Addr) (l : List Seg) (cap was : Nat) (w : World) (_hc99 : cntL c ≠ 99) (hz : zs.length = 4) (hin : ∀ i, In32 (nA zs i)) (hI : IntsK .i64 aa zs w) (hA : RdS a l w) (hl : l.length ≤ 100000000) (hcap : capL c = 81) (h97 : ¬ 97 ≤ c) (hp : In32 px ∧ In32 py) (hne : l ≠ []) (hlast : inB (l.getLastD zeroS)) :
    Calls Tryz.prog 37 #[.agg #[.int .u8 (c : Int), .slice aa 4 ac], .agg #[.int .i64 px, .int .i64 py], .slice a l.length cap, .int .u8 (was : Int)] w fun e w' => e = .returned (oneS ⟨c, zs⟩ (px, py) l was).val ∧ Below w.heap.size w w' := by
  have hc256 : c < 256 := by omega
  have CA := Lib.hid (fun w => rcap_any c hc256 w)
  rw [hcap] at CA
  have hfr : fromL ⟨c, zs⟩ (px, py) = (0, 0) := if_neg h97
  have ix := hp.1
  have iy := hp.2
  have iz := z32
  have eG : oneS ⟨c, zs⟩ (px, py) l was = segS 4 (nA zs 2) (nA zs 3) (nA zs 0) (nA zs 1) 0 0 := by unfold oneS; rw [hfr, hcap]; first | rfl | (simp only [pairL, Int.zero_add]; rfl)
  rw [eG]
  clear eG hfr
  obtain ⟨b2, o2, rfl, hb2, hd⟩ := hI.pos (j := 0) (by omega)
  have hd' : ∀ i, i < 4 → w.cell? ⟨b2, o2 + i, none⟩ = some (.int .i64 (nA zs i)) := fun i hi => hd i (by omega)
  have d0 : w.cell? ⟨b2, o2, none⟩ = some (.int .i64 (nA zs 0)) := hd' 0 (by decide)
  have i0 := hin 0
  have d1 : w.cell? ⟨b2, o2 + 1, none⟩ = some (.int .i64 (nA zs 1)) := hd' 1 (by decide)
  have i1 := hin 1
  have d2 : w.cell? ⟨b2, o2 + 2, none⟩ = some (.int .i64 (nA zs 2)) := hd' 2 (by decide)
  have i2 := hin 2
  have d3 : w.cell? ⟨b2, o2 + 3, none⟩ = some (.int .i64 (nA zs 3)) := hd' 3 (by decide)
  have i3 := hin 3
  generalize nA zs 0 = x0 at *
  generalize nA zs 1 = x1 at *
  generalize nA zs 2 = x2 at *
  generalize nA zs 3 = x3 at *
  clear hd hd'
  have hpos : 0 < l.length := List.length_pos_iff.2 hne
  obtain ⟨b, off, rfl, hb, hc⟩ := hA.pos hpos
  have hS := hc (l.length - 1) (by omega)
  have hlst : l.getD (l.length - 1) zeroS = l.getLastD zeroS := by rw [List.getLastD_eq_getLast?, List.getLast?_eq_getElem?]; rfl
  rw [hlst] at hS
  obtain ⟨k0, k1, k2, k3, k4, k5, k6, k7, k8, k9, k10, k11⟩ := hS
  have e1 : IntKind.i64.wrap ((l.length : Int) - 1) = ((l.length - 1 : Nat) : Int) := by rw [IntWalk.i64_in _ (by omega)]; omega
  have hiI : ((l.length - 1 : Nat) : Int) < (l.length : Int) := by omega
  have hgt : (0 : Int) < (l.length : Int) := by omega
  obtain ⟨_, _, ja, jb, jc, jd, _⟩ := hlast
  generalize l.getLastD zeroS = g at *
  generalize hn : l.length - 1 = n at *
  generalize hL : l.length = L at *
  have hb21 : b < w.heap.size + 1 := by omega
  have hb22 : b < w.heap.size + 1 + 1 := by omega
  have hb23 : b < w.heap.size + 1 + 1 + 1 := by omega
  have hb24 : b < w.heap.size + 1 + 1 + 1 + 1 := by omega
  have hb25 : b < w.heap.size + 1 + 1 + 1 + 1 + 1 := by omega
  clear hc hlst hn hL hne hpos hcap
  clear hA
  clear hI hz hin hp
  clear _hc99
  have FV := Five.mk' w (.cells #[.int .u8 (c : Int), .slice (some ⟨b2, o2, none⟩) 4 ac] 52) px py 0 0 g
  have h97I : ¬ (97 : Int) ≤ (c : Int) := by omega
  go_enter Tryz.func37, Tryz.ntmps37
  go_wp2_with fail
  refine (CA.out _).mono ?_
  rintro e w1 ⟨rfl, rfl⟩
  go_upto_region 25 with fail
  have FV2 : Five w w.heap.size (w.heap.size + 1) (w.heap.size + 1 + 1) (w.heap.size + 1 + 1 + 1) (w.heap.size + 1 + 1 + 1 + 1) px py 0 0 g (((((w.alloc (.cells #[.int .u8 (c : Int), .slice (some ⟨b2, o2, none⟩) 4 ac] 52)).alloc (.cells #[.int .i64 px, .int .i64 py] 39)).alloc (.cells #[.int .i64 0, .int .i64 0, .int .i64 0, .int .i64 0, .int .i64 0, .int .i64 0, .int .i64 0, .int .i64 0, .int .i64 0, .int .i64 0, .bool false, .bool false] 42)).alloc (.cells #[.int .i64 0, .int .i64 0] 39)).alloc (.cells #[.int .i64 g.kind, .int .i64 g.tx, .int .i64 g.ty, .int .i64 g.ax, .int .i64 g.ay, .int .i64 g.cx, .int .i64 g.cy, .int .i64 g.rx, .int .i64 g.ry, .int .i64 g.turn, .bool g.lg, .bool g.sw] 42)) := FV
  clear FV
  generalize hW5 : (((((w.alloc (.cells #[.int .u8 (c : Int), .slice (some ⟨b2, o2, none⟩) 4 ac] 52)).alloc (.cells #[.int .i64 px, .int .i64 py] 39)).alloc (.cells #[.int .i64 0, .int .i64 0, .int .i64 0, .int .i64 0, .int .i64 0, .int .i64 0, .int .i64 0, .int .i64 0, .int .i64 0, .int .i64 0, .bool false, .bool false] 42)).alloc (.cells #[.int .i64 0, .int .i64 0] 39)).alloc (.cells #[.int .i64 g.kind, .int .i64 g.tx, .int .i64 g.ty, .int .i64 g.ax, .int .i64 g.ay, .int .i64 g.cx, .int .i64 g.cy, .int .i64 g.rx, .int .i64 g.ry, .int .i64 g.turn, .bool g.lg, .bool g.sw] 42)) = W5 at *
  generalize hN0 : w.heap.size = N0 at *
  generalize hN1 : N0 + 1 = N1 at *
  generalize hN2 : N1 + 1 = N2 at *
  generalize hN3 : N2 + 1 = N3 at *
  generalize hN4 : N3 + 1 = N4 at *
  have FH := Lib.hid FV2
  have bel : Below w.heap.size w W5 := FV2.bel
  have n23 : N2 ≠ N3 := by omega
  have n32 : N3 ≠ N2 := by omega
  have n21 : N2 ≠ N1 := by omega
  have n12 : N1 ≠ N2 := by omega
  have hNle : w.heap.size ≤ N2 := by omega
  have s1 := FV2.at'.lt
  have s2 := FV2.res.lt
  have s3 := FV2.frm.lt
  have s4 := FV2.lst.lt
  have hb2N : b2 < w.heap.size := by omega
  have nb : b2 ≠ N2 := by omega
  have nb' : N2 ≠ b2 := by omega
  have hb2W : b2 < W5.heap.size := Nat.lt_of_lt_of_le hb2N bel.size
  have u0 := (bel.cell (p := ⟨b2, o2, none⟩) (by exact hb2N)).trans d0
  have u1 := (bel.cell (p := ⟨b2, o2 + 1, none⟩) (by exact hb2N)).trans d1
  have u2 := (bel.cell (p := ⟨b2, o2 + 2, none⟩) (by exact hb2N)).trans d2
  have u3 := (bel.cell (p := ⟨b2, o2 + 3, none⟩) (by exact hb2N)).trans d3
  have PR0 := Lib.hid (show ∀ W, b2 < W.heap.size → W.cell? ⟨b2, o2, none⟩ = some (.int .i64 x0) → W.cell? ⟨b2, o2 + 1, none⟩ = some (.int .i64 x1) → Calls Tryz.prog 62 #[.agg #[.int .i64 0, .int .i64 0], .slice (some ⟨b2, o2, none⟩) 4 ac, .int .i64 0] W fun e w' => e = .returned (.agg #[.int .i64 (x0), .int .i64 (x1)]) ∧ Below W.heap.size W w' from fun W hb h0 h1 => by have h := rpair_any 0 0 b2 o2 4 ac 0 1 x0 x1 W hb rfl (by decide) (by decide) h0 h1 (in_sum iz i0).i64 (in_sum iz i1).i64; simp only [Int.zero_add] at h; exact h)
  have PR2 := Lib.hid (show ∀ W, b2 < W.heap.size → W.cell? ⟨b2, o2 + 2, none⟩ = some (.int .i64 x2) → W.cell? ⟨b2, o2 + 3, none⟩ = some (.int .i64 x3) → Calls Tryz.prog 62 #[.agg #[.int .i64 0, .int .i64 0], .slice (some ⟨b2, o2, none⟩) 4 ac, .int .i64 2] W fun e w' => e = .returned (.agg #[.int .i64 (x2), .int .i64 (x3)]) ∧ Below W.heap.size W w' from fun W hb h0 h1 => by have h := rpair_any 0 0 b2 o2 4 ac 2 3 x2 x3 W hb rfl (by decide) (by decide) h0 h1 (in_sum iz i2).i64 (in_sum iz i3).i64; simp only [Int.zero_add] at h; exact h)
  clear FV2
  have dw : Below W5.heap.size W5 W5.drew := (Below.refl _ W5).drew
  have FD := Lib.hid (FH.out.next dw)
  have ltd : b2 < W5.drew.heap.size := hb2W
  have v0 := (dw.cell (p := ⟨b2, o2, none⟩) (by exact hb2W)).trans u0
  have v1 := (dw.cell (p := ⟨b2, o2 + 1, none⟩) (by exact hb2W)).trans u1
  have v2 := (dw.cell (p := ⟨b2, o2 + 2, none⟩) (by exact hb2W)).trans u2
  have v3 := (dw.cell (p := ⟨b2, o2 + 3, none⟩) (by exact hb2W)).trans u3
  have f0 := FH.out.frm.c0
  have f1 := FH.out.frm.c1
  go_region_held3 (fun w' => w'.cell? ⟨N3, 0, none⟩ = some (.int .i64 0) ∧ w'.cell? ⟨N3, 1, none⟩ = some (.int .i64 0)) (first | (simp [go_sem, *]; done) | (exact ⟨by assumption, by assumption⟩))
    (first
      | (go_at_call 62; (with_reducible refine (PR0.out _ ltd v0 v1).mono ?_); rintro e w1x ⟨rfl, b1x⟩; have F1 := Lib.hid (FD.out.next b1x); have lt1 := Nat.lt_of_lt_of_le ltd b1x.size; have t1_0 := (b1x.cell (p := ⟨b2, o2, none⟩) (by exact ltd)).trans v0; have t1_1 := (b1x.cell (p := ⟨b2, o2 + 1, none⟩) (by exact ltd)).trans v1; have t1_2 := (b1x.cell (p := ⟨b2, o2 + 2, none⟩) (by exact ltd)).trans v2; have t1_3 := (b1x.cell (p := ⟨b2, o2 + 3, none⟩) (by exact ltd)).trans v3; have ff1a := F1.out.frm.c0; have ff1b := F1.out.frm.c1; clear b1x)
      | (go_at_call 62; (with_reducible refine (PR2.out _ lt1 t1_2 t1_3).mono ?_); rintro e w2x ⟨rfl, b2x⟩; have F2 := Lib.hid (F1.out.next b2x); have lt2 := Nat.lt_of_lt_of_le lt1 b2x.size; have t2_0 := (b2x.cell (p := ⟨b2, o2, none⟩) (by exact lt1)).trans t1_0; have t2_1 := (b2x.cell (p := ⟨b2, o2 + 1, none⟩) (by exact lt1)).trans t1_1; have t2_2 := (b2x.cell (p := ⟨b2, o2 + 2, none⟩) (by exact lt1)).trans t1_2; have t2_3 := (b2x.cell (p := ⟨b2, o2 + 3, none⟩) (by exact lt1)).trans t1_3; have ff2a := F2.out.frm.c0; have ff2b := F2.out.frm.c1; obtain ⟨r0, r1, r2, r3, r4, r5, r6, r7, r8, r9, r10, r11⟩ := SegAt.of_block F2.out.res; simp only [Nat.zero_add] at r1 r2 r3 r4 r5 r6 r7 r8 r9 r10 r11; have rz0 := F2.out.res.z 0; have rz1 := F2.out.res.z 1; have rz2 := F2.out.res.z 2; have rz3 := F2.out.res.z 3; have rz4 := F2.out.res.z 4; have rz5 := F2.out.res.z 5; have rz6 := F2.out.res.z 6; have rz7 := F2.out.res.z 7; have rz8 := F2.out.res.z 8; have rz9 := F2.out.res.z 9; have rz10 := F2.out.res.z 10; have rz11 := F2.out.res.z 11; clear b2x))
  all_goals
    go_wp2_with fail
    exact seg_done Tryz.results37 (segS 4 (x2) (x3) (x0) (x1) 0 0) F2.out.res hNle F2.out.bel rfl
set_option maxHeartbeats 8000000 in
set_option maxRecDepth 100000 in
theorem one_As (c : Nat) (aa : Option Addr) (ac : Nat) (zs : List Int) (px py : Int) (a : Option Addr) (l : List Seg) (cap was : Nat) (w : World) (hc99 : cntL c ≠ 99) (hz : zs.length = 7) (hin : ∀ i, In32 (nA zs i)) (hI : IntsK .i64 aa zs w) (hA : RdS a l w) (hl : l.length ≤ 100000000) (hcap : capL c = 65) (h97 : 97 ≤ c) (hp : In32 px ∧ In32 py) (hne : l ≠ []) (hlast : inB (l.getLastD zeroS)) :
    Calls Tryz.prog 37 #[.agg #[.int .u8 (c : Int), .slice aa 7 ac], .agg #[.int .i64 px, .int .i64 py], .slice a l.length cap, .int .u8 (was : Int)] w fun e w' => e = .returned (oneS ⟨c, zs⟩ (px, py) l was).val ∧ Below w.heap.size w w' := by
  have hc256 : c < 256 := by unfold cntL at hc99; repeat (first | (split at hc99; omega) | omega)
  have CA := Lib.hid (fun w => rcap_any c hc256 w)
  rw [hcap] at CA
  have hfr : fromL ⟨c, zs⟩ (px, py) = (px, py) := if_pos h97
  have ix := hp.1
  have iy := hp.2
  have iz := z32
  have eG : oneS ⟨c, zs⟩ (px, py) l was = ⟨5, px + nA zs 5, py + nA zs 6, 0, 0, 0, 0, nA zs 0, nA zs 1, nA zs 2, nA zs 3 == 1, nA zs 4 == 1⟩ := by unfold oneS; rw [hfr, hcap]; first | rfl | (simp only [pairL, Int.zero_add]; rfl)
  rw [eG]
  clear eG hfr
  obtain ⟨b2, o2, rfl, hb2, hd⟩ := hI.pos (j := 0) (by omega)
  have hd' : ∀ i, i < 7 → w.cell? ⟨b2, o2 + i, none⟩ = some (.int .i64 (nA zs i)) := fun i hi => hd i (by omega)
  have d0 : w.cell? ⟨b2, o2, none⟩ = some (.int .i64 (nA zs 0)) := hd' 0 (by decide)
  have i0 := hin 0
  have d1 : w.cell? ⟨b2, o2 + 1, none⟩ = some (.int .i64 (nA zs 1)) := hd' 1 (by decide)
  have i1 := hin 1
  have d2 : w.cell? ⟨b2, o2 + 2, none⟩ = some (.int .i64 (nA zs 2)) := hd' 2 (by decide)
  have i2 := hin 2
  have d3 : w.cell? ⟨b2, o2 + 3, none⟩ = some (.int .i64 (nA zs 3)) := hd' 3 (by decide)
  have i3 := hin 3
  have d4 : w.cell? ⟨b2, o2 + 4, none⟩ = some (.int .i64 (nA zs 4)) := hd' 4 (by decide)
  have i4 := hin 4
  have d5 : w.cell? ⟨b2, o2 + 5, none⟩ = some (.int .i64 (nA zs 5)) := hd' 5 (by decide)
  have i5 := hin 5
  have d6 : w.cell? ⟨b2, o2 + 6, none⟩ = some (.int .i64 (nA zs 6)) := hd' 6 (by decide)
  have i6 := hin 6
  generalize nA zs 0 = x0 at *
  generalize nA zs 1 = x1 at *
  generalize nA zs 2 = x2 at *
  generalize nA zs 3 = x3 at *
  generalize nA zs 4 = x4 at *
  generalize nA zs 5 = x5 at *
  generalize nA zs 6 = x6 at *
  clear hd hd'
  have hpos : 0 < l.length := List.length_pos_iff.2 hne
  obtain ⟨b, off, rfl, hb, hc⟩ := hA.pos hpos
  have hS := hc (l.length - 1) (by omega)
  have hlst : l.getD (l.length - 1) zeroS = l.getLastD zeroS := by rw [List.getLastD_eq_getLast?, List.getLast?_eq_getElem?]; rfl
  rw [hlst] at hS
  obtain ⟨k0, k1, k2, k3, k4, k5, k6, k7, k8, k9, k10, k11⟩ := hS
  have e1 : IntKind.i64.wrap ((l.length : Int) - 1) = ((l.length - 1 : Nat) : Int) := by rw [IntWalk.i64_in _ (by omega)]; omega
  have hiI : ((l.length - 1 : Nat) : Int) < (l.length : Int) := by omega
  have hgt : (0 : Int) < (l.length : Int) := by omega
  obtain ⟨_, _, ja, jb, jc, jd, _⟩ := hlast
  generalize l.getLastD zeroS = g at *
  generalize hn : l.length - 1 = n at *
  generalize hL : l.length = L at *
  have hb21 : b < w.heap.size + 1 := by omega
  have hb22 : b < w.heap.size + 1 + 1 := by omega
  have hb23 : b < w.heap.size + 1 + 1 + 1 := by omega
  have hb24 : b < w.heap.size + 1 + 1 + 1 + 1 := by omega
  have hb25 : b < w.heap.size + 1 + 1 + 1 + 1 + 1 := by omega
  clear hc hlst hn hL hne hpos hcap
  clear hA
  clear hI hz hin hp
  clear hc99
  have FV := Five.mk' w (.cells #[.int .u8 (c : Int), .slice (some ⟨b2, o2, none⟩) 7 ac] 52) px py px py g
  have h97I : (97 : Int) ≤ (c : Int) := by omega
  go_enter Tryz.func37, Tryz.ntmps37
  go_wp2_with fail
  refine (CA.out _).mono ?_
  rintro e w1 ⟨rfl, rfl⟩
  go_upto_region 32 with fail
  have FV2 : Five w w.heap.size (w.heap.size + 1) (w.heap.size + 1 + 1) (w.heap.size + 1 + 1 + 1) (w.heap.size + 1 + 1 + 1 + 1) px py px py g (((((w.alloc (.cells #[.int .u8 (c : Int), .slice (some ⟨b2, o2, none⟩) 7 ac] 52)).alloc (.cells #[.int .i64 px, .int .i64 py] 39)).alloc (.cells #[.int .i64 0, .int .i64 0, .int .i64 0, .int .i64 0, .int .i64 0, .int .i64 0, .int .i64 0, .int .i64 0, .int .i64 0, .int .i64 0, .bool false, .bool false] 42)).alloc (.cells #[.int .i64 px, .int .i64 py] 39)).alloc (.cells #[.int .i64 g.kind, .int .i64 g.tx, .int .i64 g.ty, .int .i64 g.ax, .int .i64 g.ay, .int .i64 g.cx, .int .i64 g.cy, .int .i64 g.rx, .int .i64 g.ry, .int .i64 g.turn, .bool g.lg, .bool g.sw] 42)) := FV
  clear FV
  generalize hW5 : (((((w.alloc (.cells #[.int .u8 (c : Int), .slice (some ⟨b2, o2, none⟩) 7 ac] 52)).alloc (.cells #[.int .i64 px, .int .i64 py] 39)).alloc (.cells #[.int .i64 0, .int .i64 0, .int .i64 0, .int .i64 0, .int .i64 0, .int .i64 0, .int .i64 0, .int .i64 0, .int .i64 0, .int .i64 0, .bool false, .bool false] 42)).alloc (.cells #[.int .i64 px, .int .i64 py] 39)).alloc (.cells #[.int .i64 g.kind, .int .i64 g.tx, .int .i64 g.ty, .int .i64 g.ax, .int .i64 g.ay, .int .i64 g.cx, .int .i64 g.cy, .int .i64 g.rx, .int .i64 g.ry, .int .i64 g.turn, .bool g.lg, .bool g.sw] 42)) = W5 at *
  generalize hN0 : w.heap.size = N0 at *
  generalize hN1 : N0 + 1 = N1 at *
  generalize hN2 : N1 + 1 = N2 at *
  generalize hN3 : N2 + 1 = N3 at *
  generalize hN4 : N3 + 1 = N4 at *
  have FH := Lib.hid FV2
  have bel : Below w.heap.size w W5 := FV2.bel
  have n23 : N2 ≠ N3 := by omega
  have n32 : N3 ≠ N2 := by omega
  have n21 : N2 ≠ N1 := by omega
  have n12 : N1 ≠ N2 := by omega
  have hNle : w.heap.size ≤ N2 := by omega
  have s1 := FV2.at'.lt
  have s2 := FV2.res.lt
  have s3 := FV2.frm.lt
  have s4 := FV2.lst.lt
  have hb2N : b2 < w.heap.size := by omega
  have nb : b2 ≠ N2 := by omega
  have nb' : N2 ≠ b2 := by omega
  have hb2W : b2 < W5.heap.size := Nat.lt_of_lt_of_le hb2N bel.size
  have u0 := (bel.cell (p := ⟨b2, o2, none⟩) (by exact hb2N)).trans d0
  have u1 := (bel.cell (p := ⟨b2, o2 + 1, none⟩) (by exact hb2N)).trans d1
  have u2 := (bel.cell (p := ⟨b2, o2 + 2, none⟩) (by exact hb2N)).trans d2
  have u3 := (bel.cell (p := ⟨b2, o2 + 3, none⟩) (by exact hb2N)).trans d3
  have u4 := (bel.cell (p := ⟨b2, o2 + 4, none⟩) (by exact hb2N)).trans d4
  have u5 := (bel.cell (p := ⟨b2, o2 + 5, none⟩) (by exact hb2N)).trans d5
  have u6 := (bel.cell (p := ⟨b2, o2 + 6, none⟩) (by exact hb2N)).trans d6
  have PR5 := Lib.hid (show ∀ W, b2 < W.heap.size → W.cell? ⟨b2, o2 + 5, none⟩ = some (.int .i64 x5) → W.cell? ⟨b2, o2 + 6, none⟩ = some (.int .i64 x6) → Calls Tryz.prog 62 #[.agg #[.int .i64 px, .int .i64 py], .slice (some ⟨b2, o2, none⟩) 7 ac, .int .i64 5] W fun e w' => e = .returned (.agg #[.int .i64 (px + x5), .int .i64 (py + x6)]) ∧ Below W.heap.size W w' from fun W hb h0 h1 => rpair_any px py b2 o2 7 ac 5 6 x5 x6 W hb rfl (by decide) (by decide) h0 h1 (in_sum ix i5).i64 (in_sum iy i6).i64)
  clear FV2
  have dw : Below W5.heap.size W5 W5.drew := (Below.refl _ W5).drew
  have FD := Lib.hid (FH.out.next dw)
  have ltd : b2 < W5.drew.heap.size := hb2W
  have v0 := (dw.cell (p := ⟨b2, o2, none⟩) (by exact hb2W)).trans u0
  have v1 := (dw.cell (p := ⟨b2, o2 + 1, none⟩) (by exact hb2W)).trans u1
  have v2 := (dw.cell (p := ⟨b2, o2 + 2, none⟩) (by exact hb2W)).trans u2
  have v3 := (dw.cell (p := ⟨b2, o2 + 3, none⟩) (by exact hb2W)).trans u3
  have v4 := (dw.cell (p := ⟨b2, o2 + 4, none⟩) (by exact hb2W)).trans u4
  have v5 := (dw.cell (p := ⟨b2, o2 + 5, none⟩) (by exact hb2W)).trans u5
  have v6 := (dw.cell (p := ⟨b2, o2 + 6, none⟩) (by exact hb2W)).trans u6
  have f0 := FH.out.frm.c0
  have f1 := FH.out.frm.c1
  go_region_held3 (fun w' => w'.cell? ⟨N3, 0, none⟩ = some (.int .i64 px) ∧ w'.cell? ⟨N3, 1, none⟩ = some (.int .i64 py) ∧ w'.cell? ⟨b2, o2, none⟩ = some (.int .i64 x0) ∧ w'.cell? ⟨b2, o2 + 1, none⟩ = some (.int .i64 x1) ∧ w'.cell? ⟨b2, o2 + 2, none⟩ = some (.int .i64 x2) ∧ w'.cell? ⟨b2, o2 + 3, none⟩ = some (.int .i64 x3) ∧ w'.cell? ⟨b2, o2 + 4, none⟩ = some (.int .i64 x4)) (first | (simp [go_sem, *]; done) | (exact ⟨by assumption, by assumption, by assumption, by assumption, by assumption, by assumption, by assumption⟩))
    (first
      | (go_at_call 62; (with_reducible refine (PR5.out _ ltd v5 v6).mono ?_); rintro e w1x ⟨rfl, b1x⟩; have F1 := Lib.hid (FD.out.next b1x); have lt1 := Nat.lt_of_lt_of_le ltd b1x.size; have t1_0 := (b1x.cell (p := ⟨b2, o2, none⟩) (by exact ltd)).trans v0; have t1_1 := (b1x.cell (p := ⟨b2, o2 + 1, none⟩) (by exact ltd)).trans v1; have t1_2 := (b1x.cell (p := ⟨b2, o2 + 2, none⟩) (by exact ltd)).trans v2; have t1_3 := (b1x.cell (p := ⟨b2, o2 + 3, none⟩) (by exact ltd)).trans v3; have t1_4 := (b1x.cell (p := ⟨b2, o2 + 4, none⟩) (by exact ltd)).trans v4; have t1_5 := (b1x.cell (p := ⟨b2, o2 + 5, none⟩) (by exact ltd)).trans v5; have t1_6 := (b1x.cell (p := ⟨b2, o2 + 6, none⟩) (by exact ltd)).trans v6; have ff1a := F1.out.frm.c0; have ff1b := F1.out.frm.c1; obtain ⟨r0, r1, r2, r3, r4, r5, r6, r7, r8, r9, r10, r11⟩ := SegAt.of_block F1.out.res; simp only [Nat.zero_add] at r1 r2 r3 r4 r5 r6 r7 r8 r9 r10 r11; have rz0 := F1.out.res.z 0; have rz1 := F1.out.res.z 1; have rz2 := F1.out.res.z 2; have rz3 := F1.out.res.z 3; have rz4 := F1.out.res.z 4; have rz5 := F1.out.res.z 5; have rz6 := F1.out.res.z 6; have rz7 := F1.out.res.z 7; have rz8 := F1.out.res.z 8; have rz9 := F1.out.res.z 9; have rz10 := F1.out.res.z 10; have rz11 := F1.out.res.z 11; clear b1x))
  all_goals
    go_wp2_with fail
    exact seg_done Tryz.results37 (⟨5, px + x5, py + x6, 0, 0, 0, 0, x0, x1, x2, x3 == 1, x4 == 1⟩) F1.out.res hNle F1.out.bel rfl
set_option maxHeartbeats 8000000 in
set_option maxRecDepth 100000 in
theorem one_Ab (c : Nat) (aa : Option Addr) (ac : Nat) (zs : List Int) (px py : Int) (a : Option Addr) (l : List Seg) (cap was : Nat) (w : World) (_hc99 : cntL c ≠ 99) (hz : zs.length = 7) (hin : ∀ i, In32 (nA zs i)) (hI : IntsK .i64 aa zs w) (hA : RdS a l w) (hl : l.length ≤ 100000000) (hcap : capL c = 65) (h97 : ¬ 97 ≤ c) (hp : In32 px ∧ In32 py) (hne : l ≠ []) (hlast : inB (l.getLastD zeroS)) :
    Calls Tryz.prog 37 #[.agg #[.int .u8 (c : Int), .slice aa 7 ac], .agg #[.int .i64 px, .int .i64 py], .slice a l.length cap, .int .u8 (was : Int)] w fun e w' => e = .returned (oneS ⟨c, zs⟩ (px, py) l was).val ∧ Below w.heap.size w w' := by
  have hc256 : c < 256 := by omega
  have CA := Lib.hid (fun w => rcap_any c hc256 w)
  rw [hcap] at CA
  have hfr : fromL ⟨c, zs⟩ (px, py) = (0, 0) := if_neg h97
  have ix := hp.1
  have iy := hp.2
  have iz := z32
  have eG : oneS ⟨c, zs⟩ (px, py) l was = ⟨5, nA zs 5, nA zs 6, 0, 0, 0, 0, nA zs 0, nA zs 1, nA zs 2, nA zs 3 == 1, nA zs 4 == 1⟩ := by unfold oneS; rw [hfr, hcap]; first | rfl | (simp only [pairL, Int.zero_add]; rfl)
  rw [eG]
  clear eG hfr
  obtain ⟨b2, o2, rfl, hb2, hd⟩ := hI.pos (j := 0) (by omega)
  have hd' : ∀ i, i < 7 → w.cell? ⟨b2, o2 + i, none⟩ = some (.int .i64 (nA zs i)) := fun i hi => hd i (by omega)
  have d0 : w.cell? ⟨b2, o2, none⟩ = some (.int .i64 (nA zs 0)) := hd' 0 (by decide)
  have i0 := hin 0
  have d1 : w.cell? ⟨b2, o2 + 1, none⟩ = some (.int .i64 (nA zs 1)) := hd' 1 (by decide)
  have i1 := hin 1
  have d2 : w.cell? ⟨b2, o2 + 2, none⟩ = some (.int .i64 (nA zs 2)) := hd' 2 (by decide)
  have i2 := hin 2
  have d3 : w.cell? ⟨b2, o2 + 3, none⟩ = some (.int .i64 (nA zs 3)) := hd' 3 (by decide)
  have i3 := hin 3
  have d4 : w.cell? ⟨b2, o2 + 4, none⟩ = some (.int .i64 (nA zs 4)) := hd' 4 (by decide)
  have i4 := hin 4
  have d5 : w.cell? ⟨b2, o2 + 5, none⟩ = some (.int .i64 (nA zs 5)) := hd' 5 (by decide)
  have i5 := hin 5
  have d6 : w.cell? ⟨b2, o2 + 6, none⟩ = some (.int .i64 (nA zs 6)) := hd' 6 (by decide)
  have i6 := hin 6
  generalize nA zs 0 = x0 at *
  generalize nA zs 1 = x1 at *
  generalize nA zs 2 = x2 at *
  generalize nA zs 3 = x3 at *
  generalize nA zs 4 = x4 at *
  generalize nA zs 5 = x5 at *
  generalize nA zs 6 = x6 at *
  clear hd hd'
  have hpos : 0 < l.length := List.length_pos_iff.2 hne
  obtain ⟨b, off, rfl, hb, hc⟩ := hA.pos hpos
  have hS := hc (l.length - 1) (by omega)
  have hlst : l.getD (l.length - 1) zeroS = l.getLastD zeroS := by rw [List.getLastD_eq_getLast?, List.getLast?_eq_getElem?]; rfl
  rw [hlst] at hS
  obtain ⟨k0, k1, k2, k3, k4, k5, k6, k7, k8, k9, k10, k11⟩ := hS
  have e1 : IntKind.i64.wrap ((l.length : Int) - 1) = ((l.length - 1 : Nat) : Int) := by rw [IntWalk.i64_in _ (by omega)]; omega
  have hiI : ((l.length - 1 : Nat) : Int) < (l.length : Int) := by omega
  have hgt : (0 : Int) < (l.length : Int) := by omega
  obtain ⟨_, _, ja, jb, jc, jd, _⟩ := hlast
  generalize l.getLastD zeroS = g at *
  generalize hn : l.length - 1 = n at *
  generalize hL : l.length = L at *
  have hb21 : b < w.heap.size + 1 := by omega
  have hb22 : b < w.heap.size + 1 + 1 := by omega
  have hb23 : b < w.heap.size + 1 + 1 + 1 := by omega
  have hb24 : b < w.heap.size + 1 + 1 + 1 + 1 := by omega
  have hb25 : b < w.heap.size + 1 + 1 + 1 + 1 + 1 := by omega
  clear hc hlst hn hL hne hpos hcap
  clear hA
  clear hI hz hin hp
  clear _hc99
  have FV := Five.mk' w (.cells #[.int .u8 (c : Int), .slice (some ⟨b2, o2, none⟩) 7 ac] 52) px py 0 0 g
  have h97I : ¬ (97 : Int) ≤ (c : Int) := by omega
  go_enter Tryz.func37, Tryz.ntmps37
  go_wp2_with fail
  refine (CA.out _).mono ?_
  rintro e w1 ⟨rfl, rfl⟩
  go_upto_region 32 with fail
  have FV2 : Five w w.heap.size (w.heap.size + 1) (w.heap.size + 1 + 1) (w.heap.size + 1 + 1 + 1) (w.heap.size + 1 + 1 + 1 + 1) px py 0 0 g (((((w.alloc (.cells #[.int .u8 (c : Int), .slice (some ⟨b2, o2, none⟩) 7 ac] 52)).alloc (.cells #[.int .i64 px, .int .i64 py] 39)).alloc (.cells #[.int .i64 0, .int .i64 0, .int .i64 0, .int .i64 0, .int .i64 0, .int .i64 0, .int .i64 0, .int .i64 0, .int .i64 0, .int .i64 0, .bool false, .bool false] 42)).alloc (.cells #[.int .i64 0, .int .i64 0] 39)).alloc (.cells #[.int .i64 g.kind, .int .i64 g.tx, .int .i64 g.ty, .int .i64 g.ax, .int .i64 g.ay, .int .i64 g.cx, .int .i64 g.cy, .int .i64 g.rx, .int .i64 g.ry, .int .i64 g.turn, .bool g.lg, .bool g.sw] 42)) := FV
  clear FV
  generalize hW5 : (((((w.alloc (.cells #[.int .u8 (c : Int), .slice (some ⟨b2, o2, none⟩) 7 ac] 52)).alloc (.cells #[.int .i64 px, .int .i64 py] 39)).alloc (.cells #[.int .i64 0, .int .i64 0, .int .i64 0, .int .i64 0, .int .i64 0, .int .i64 0, .int .i64 0, .int .i64 0, .int .i64 0, .int .i64 0, .bool false, .bool false] 42)).alloc (.cells #[.int .i64 0, .int .i64 0] 39)).alloc (.cells #[.int .i64 g.kind, .int .i64 g.tx, .int .i64 g.ty, .int .i64 g.ax, .int .i64 g.ay, .int .i64 g.cx, .int .i64 g.cy, .int .i64 g.rx, .int .i64 g.ry, .int .i64 g.turn, .bool g.lg, .bool g.sw] 42)) = W5 at *
  generalize hN0 : w.heap.size = N0 at *
  generalize hN1 : N0 + 1 = N1 at *
  generalize hN2 : N1 + 1 = N2 at *
  generalize hN3 : N2 + 1 = N3 at *
  generalize hN4 : N3 + 1 = N4 at *
  have FH := Lib.hid FV2
  have bel : Below w.heap.size w W5 := FV2.bel
  have n23 : N2 ≠ N3 := by omega
  have n32 : N3 ≠ N2 := by omega
  have n21 : N2 ≠ N1 := by omega
  have n12 : N1 ≠ N2 := by omega
  have hNle : w.heap.size ≤ N2 := by omega
  have s1 := FV2.at'.lt
  have s2 := FV2.res.lt
  have s3 := FV2.frm.lt
  have s4 := FV2.lst.lt
  have hb2N : b2 < w.heap.size := by omega
  have nb : b2 ≠ N2 := by omega
  have nb' : N2 ≠ b2 := by omega
  have hb2W : b2 < W5.heap.size := Nat.lt_of_lt_of_le hb2N bel.size
  have u0 := (bel.cell (p := ⟨b2, o2, none⟩) (by exact hb2N)).trans d0
  have u1 := (bel.cell (p := ⟨b2, o2 + 1, none⟩) (by exact hb2N)).trans d1
  have u2 := (bel.cell (p := ⟨b2, o2 + 2, none⟩) (by exact hb2N)).trans d2
  have u3 := (bel.cell (p := ⟨b2, o2 + 3, none⟩) (by exact hb2N)).trans d3
  have u4 := (bel.cell (p := ⟨b2, o2 + 4, none⟩) (by exact hb2N)).trans d4
  have u5 := (bel.cell (p := ⟨b2, o2 + 5, none⟩) (by exact hb2N)).trans d5
  have u6 := (bel.cell (p := ⟨b2, o2 + 6, none⟩) (by exact hb2N)).trans d6
  have PR5 := Lib.hid (show ∀ W, b2 < W.heap.size → W.cell? ⟨b2, o2 + 5, none⟩ = some (.int .i64 x5) → W.cell? ⟨b2, o2 + 6, none⟩ = some (.int .i64 x6) → Calls Tryz.prog 62 #[.agg #[.int .i64 0, .int .i64 0], .slice (some ⟨b2, o2, none⟩) 7 ac, .int .i64 5] W fun e w' => e = .returned (.agg #[.int .i64 (x5), .int .i64 (x6)]) ∧ Below W.heap.size W w' from fun W hb h0 h1 => by have h := rpair_any 0 0 b2 o2 7 ac 5 6 x5 x6 W hb rfl (by decide) (by decide) h0 h1 (in_sum iz i5).i64 (in_sum iz i6).i64; simp only [Int.zero_add] at h; exact h)
  clear FV2
  have dw : Below W5.heap.size W5 W5.drew := (Below.refl _ W5).drew
  have FD := Lib.hid (FH.out.next dw)
  have ltd : b2 < W5.drew.heap.size := hb2W
  have v0 := (dw.cell (p := ⟨b2, o2, none⟩) (by exact hb2W)).trans u0
  have v1 := (dw.cell (p := ⟨b2, o2 + 1, none⟩) (by exact hb2W)).trans u1
  have v2 := (dw.cell (p := ⟨b2, o2 + 2, none⟩) (by exact hb2W)).trans u2
  have v3 := (dw.cell (p := ⟨b2, o2 + 3, none⟩) (by exact hb2W)).trans u3
  have v4 := (dw.cell (p := ⟨b2, o2 + 4, none⟩) (by exact hb2W)).trans u4
  have v5 := (dw.cell (p := ⟨b2, o2 + 5, none⟩) (by exact hb2W)).trans u5
  have v6 := (dw.cell (p := ⟨b2, o2 + 6, none⟩) (by exact hb2W)).trans u6
  have f0 := FH.out.frm.c0
  have f1 := FH.out.frm.c1
  go_region_held3 (fun w' => w'.cell? ⟨N3, 0, none⟩ = some (.int .i64 0) ∧ w'.cell? ⟨N3, 1, none⟩ = some (.int .i64 0) ∧ w'.cell? ⟨b2, o2, none⟩ = some (.int .i64 x0) ∧ w'.cell? ⟨b2, o2 + 1, none⟩ = some (.int .i64 x1) ∧ w'.cell? ⟨b2, o2 + 2, none⟩ = some (.int .i64 x2) ∧ w'.cell? ⟨b2, o2 + 3, none⟩ = some (.int .i64 x3) ∧ w'.cell? ⟨b2, o2 + 4, none⟩ = some (.int .i64 x4)) (first | (simp [go_sem, *]; done) | (exact ⟨by assumption, by assumption, by assumption, by assumption, by assumption, by assumption, by assumption⟩))
    (first
      | (go_at_call 62; (with_reducible refine (PR5.out _ ltd v5 v6).mono ?_); rintro e w1x ⟨rfl, b1x⟩; have F1 := Lib.hid (FD.out.next b1x); have lt1 := Nat.lt_of_lt_of_le ltd b1x.size; have t1_0 := (b1x.cell (p := ⟨b2, o2, none⟩) (by exact ltd)).trans v0; have t1_1 := (b1x.cell (p := ⟨b2, o2 + 1, none⟩) (by exact ltd)).trans v1; have t1_2 := (b1x.cell (p := ⟨b2, o2 + 2, none⟩) (by exact ltd)).trans v2; have t1_3 := (b1x.cell (p := ⟨b2, o2 + 3, none⟩) (by exact ltd)).trans v3; have t1_4 := (b1x.cell (p := ⟨b2, o2 + 4, none⟩) (by exact ltd)).trans v4; have t1_5 := (b1x.cell (p := ⟨b2, o2 + 5, none⟩) (by exact ltd)).trans v5; have t1_6 := (b1x.cell (p := ⟨b2, o2 + 6, none⟩) (by exact ltd)).trans v6; have ff1a := F1.out.frm.c0; have ff1b := F1.out.frm.c1; obtain ⟨r0, r1, r2, r3, r4, r5, r6, r7, r8, r9, r10, r11⟩ := SegAt.of_block F1.out.res; simp only [Nat.zero_add] at r1 r2 r3 r4 r5 r6 r7 r8 r9 r10 r11; have rz0 := F1.out.res.z 0; have rz1 := F1.out.res.z 1; have rz2 := F1.out.res.z 2; have rz3 := F1.out.res.z 3; have rz4 := F1.out.res.z 4; have rz5 := F1.out.res.z 5; have rz6 := F1.out.res.z 6; have rz7 := F1.out.res.z 7; have rz8 := F1.out.res.z 8; have rz9 := F1.out.res.z 9; have rz10 := F1.out.res.z 10; have rz11 := F1.out.res.z 11; clear b1x))
  all_goals
    go_wp2_with fail
    exact seg_done Tryz.results37 (⟨5, x5, x6, 0, 0, 0, 0, x0, x1, x2, x3 == 1, x4 == 1⟩) F1.out.res hNle F1.out.bel rfl
end Go.Proofs.YtgiibcnakiggaaaGreatDoor
