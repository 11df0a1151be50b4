/-
  The document's segment of one command: Ref7OneB. (Typed by a program.)
-/
import Derived.Test.YtgiibcnakiggaaaGreatDoorRef7One
namespace Go.Proofs.YtgiibcnakiggaaaGreatDoor
open Go.RowKit Go.Shelf

set_option maxHeartbeats 8000000 in
set_option maxRecDepth 100000 in
theorem one_Mse (c : Nat) (aa : Option Addr) (ac : Nat) (zs : List Int) (px py : Int) (a : Option Addr) (l : List Seg) (cap was : Nat) (w : World) (hc99 : cntL c ≠ 99) (hz : zs.length = 2) (hin : ∀ i, In32 (nA zs i)) (hI : IntsK .i64 aa zs w) (hA : RdS a l w) (hl : l.length ≤ 100000000) (hcap : capL c = 77) (h97 : 97 ≤ c) (hp : In32 px ∧ In32 py) (he : l = []) :
    Calls Tryz.prog 37 #[.agg #[.int .u8 (c : Int), .slice aa 2 ac], .agg #[.int .i64 px, .int .i64 py], .slice a l.length cap, .int .u8 (was : Int)] w fun e w' => e = .returned (oneS ⟨c, zs⟩ (px, py) l was).val ∧ Below w.heap.size w w' := by
  have hc256 : c < 256 := by unfold cntL at hc99; repeat (first | (split at hc99; omega) | omega)
  have CA := Lib.hid (fun w => rcap_any c hc256 w)
  rw [hcap] at CA
  have hfr : fromL ⟨c, zs⟩ (px, py) = (px, py) := if_pos h97
  have ix := hp.1
  have iy := hp.2
  have iz := z32
  have eG : oneS ⟨c, zs⟩ (px, py) l was = segS 1 (px + nA zs 0) (py + nA zs 1) 0 0 0 0 := by unfold oneS; rw [hfr, hcap]; first | rfl | (simp only [pairL, Int.zero_add]; rfl)
  rw [eG]
  clear eG hfr
  obtain ⟨b2, o2, rfl, hb2, hd⟩ := hI.pos (j := 0) (by omega)
  have hd' : ∀ i, i < 2 → w.cell? ⟨b2, o2 + i, none⟩ = some (.int .i64 (nA zs i)) := fun i hi => hd i (by omega)
  have d0 : w.cell? ⟨b2, o2, none⟩ = some (.int .i64 (nA zs 0)) := hd' 0 (by decide)
  have i0 := hin 0
  have d1 : w.cell? ⟨b2, o2 + 1, none⟩ = some (.int .i64 (nA zs 1)) := hd' 1 (by decide)
  have i1 := hin 1
  generalize nA zs 0 = x0 at *
  generalize nA zs 1 = x1 at *
  clear hd hd'
  subst he
  clear hcap
  clear hA
  clear hI hz hin hp
  clear hc99
  have FV := Five.mk' w (.cells #[.int .u8 (c : Int), .slice (some ⟨b2, o2, none⟩) 2 ac] 52) px py px py zeroS
  have h97I : (97 : Int) ≤ (c : Int) := by omega
  go_enter Tryz.func37, Tryz.ntmps37
  go_wp2_with fail
  refine (CA.out _).mono ?_
  rintro e w1 ⟨rfl, rfl⟩
  go_upto_region 10 with fail
  have FV2 : Five w w.heap.size (w.heap.size + 1) (w.heap.size + 1 + 1) (w.heap.size + 1 + 1 + 1) (w.heap.size + 1 + 1 + 1 + 1) px py px py zeroS (((((w.alloc (.cells #[.int .u8 (c : Int), .slice (some ⟨b2, o2, none⟩) 2 ac] 52)).alloc (.cells #[.int .i64 px, .int .i64 py] 39)).alloc (.cells #[.int .i64 0, .int .i64 0, .int .i64 0, .int .i64 0, .int .i64 0, .int .i64 0, .int .i64 0, .int .i64 0, .int .i64 0, .int .i64 0, .bool false, .bool false] 42)).alloc (.cells #[.int .i64 px, .int .i64 py] 39)).alloc (.cells #[.int .i64 0, .int .i64 0, .int .i64 0, .int .i64 0, .int .i64 0, .int .i64 0, .int .i64 0, .int .i64 0, .int .i64 0, .int .i64 0, .bool false, .bool false] 42)) := FV
  clear FV
  generalize hW5 : (((((w.alloc (.cells #[.int .u8 (c : Int), .slice (some ⟨b2, o2, none⟩) 2 ac] 52)).alloc (.cells #[.int .i64 px, .int .i64 py] 39)).alloc (.cells #[.int .i64 0, .int .i64 0, .int .i64 0, .int .i64 0, .int .i64 0, .int .i64 0, .int .i64 0, .int .i64 0, .int .i64 0, .int .i64 0, .bool false, .bool false] 42)).alloc (.cells #[.int .i64 px, .int .i64 py] 39)).alloc (.cells #[.int .i64 0, .int .i64 0, .int .i64 0, .int .i64 0, .int .i64 0, .int .i64 0, .int .i64 0, .int .i64 0, .int .i64 0, .int .i64 0, .bool false, .bool false] 42)) = W5 at *
  generalize hN0 : w.heap.size = N0 at *
  generalize hN1 : N0 + 1 = N1 at *
  generalize hN2 : N1 + 1 = N2 at *
  generalize hN3 : N2 + 1 = N3 at *
  generalize hN4 : N3 + 1 = N4 at *
  have FH := Lib.hid FV2
  have bel : Below w.heap.size w W5 := FV2.bel
  have n23 : N2 ≠ N3 := by omega
  have n32 : N3 ≠ N2 := by omega
  have n21 : N2 ≠ N1 := by omega
  have n12 : N1 ≠ N2 := by omega
  have hNle : w.heap.size ≤ N2 := by omega
  have s1 := FV2.at'.lt
  have s2 := FV2.res.lt
  have s3 := FV2.frm.lt
  have s4 := FV2.lst.lt
  have hb2N : b2 < w.heap.size := by omega
  have nb : b2 ≠ N2 := by omega
  have nb' : N2 ≠ b2 := by omega
  have hb2W : b2 < W5.heap.size := Nat.lt_of_lt_of_le hb2N bel.size
  have u0 := (bel.cell (p := ⟨b2, o2, none⟩) (by exact hb2N)).trans d0
  have u1 := (bel.cell (p := ⟨b2, o2 + 1, none⟩) (by exact hb2N)).trans d1
  have PR0 := Lib.hid (show ∀ W, b2 < W.heap.size → W.cell? ⟨b2, o2, none⟩ = some (.int .i64 x0) → W.cell? ⟨b2, o2 + 1, none⟩ = some (.int .i64 x1) → Calls Tryz.prog 62 #[.agg #[.int .i64 px, .int .i64 py], .slice (some ⟨b2, o2, none⟩) 2 ac, .int .i64 0] W fun e w' => e = .returned (.agg #[.int .i64 (px + x0), .int .i64 (py + x1)]) ∧ Below W.heap.size W w' from fun W hb h0 h1 => rpair_any px py b2 o2 2 ac 0 1 x0 x1 W hb rfl (by decide) (by decide) h0 h1 (in_sum ix i0).i64 (in_sum iy i1).i64)
  have f0 := FH.out.frm.c0
  have f1 := FH.out.frm.c1
  clear FV2
  go_wp2_with fail
  refine (PR0.out _ hb2W u0 u1).mono ?_
  rintro e w6 ⟨rfl, b6⟩
  have F6 := Lib.hid (FH.out.next b6)
  obtain ⟨r0, r1, r2, r3, r4, r5, r6, r7, r8, r9, r10, r11⟩ := SegAt.of_block F6.out.res
  simp only [Nat.zero_add] at r1 r2 r3 r4 r5 r6 r7 r8 r9 r10 r11
  have rz0 := F6.out.res.z 0
  have rz1 := F6.out.res.z 1
  have rz2 := F6.out.res.z 2
  have rz3 := F6.out.res.z 3
  have rz4 := F6.out.res.z 4
  have rz5 := F6.out.res.z 5
  have rz6 := F6.out.res.z 6
  have rz7 := F6.out.res.z 7
  have rz8 := F6.out.res.z 8
  have rz9 := F6.out.res.z 9
  have rz10 := F6.out.res.z 10
  have rz11 := F6.out.res.z 11
  clear b6 f0 f1
  go_wp2_with fail
  exact seg_done Tryz.results37 (segS 1 (px + x0) (py + x1) 0 0 0 0) F6.out.res hNle F6.out.bel rfl
set_option maxHeartbeats 8000000 in
set_option maxRecDepth 100000 in
theorem one_Ms (c : Nat) (aa : Option Addr) (ac : Nat) (zs : List Int) (px py : Int) (a : Option Addr) (l : List Seg) (cap was : Nat) (w : World) (hc99 : cntL c ≠ 99) (hz : zs.length = 2) (hin : ∀ i, In32 (nA zs i)) (hI : IntsK .i64 aa zs w) (hA : RdS a l w) (hl : l.length ≤ 100000000) (hcap : capL c = 77) (h97 : 97 ≤ c) (hp : In32 px ∧ In32 py) (hne : l ≠ []) (hlast : inB (l.getLastD zeroS)) :
    Calls Tryz.prog 37 #[.agg #[.int .u8 (c : Int), .slice aa 2 ac], .agg #[.int .i64 px, .int .i64 py], .slice a l.length cap, .int .u8 (was : Int)] w fun e w' => e = .returned (oneS ⟨c, zs⟩ (px, py) l was).val ∧ Below w.heap.size w w' := by
  have hc256 : c < 256 := by unfold cntL at hc99; repeat (first | (split at hc99; omega) | omega)
  have CA := Lib.hid (fun w => rcap_any c hc256 w)
  rw [hcap] at CA
  have hfr : fromL ⟨c, zs⟩ (px, py) = (px, py) := if_pos h97
  have ix := hp.1
  have iy := hp.2
  have iz := z32
  have eG : oneS ⟨c, zs⟩ (px, py) l was = segS 1 (px + nA zs 0) (py + nA zs 1) 0 0 0 0 := by unfold oneS; rw [hfr, hcap]; first | rfl | (simp only [pairL, Int.zero_add]; rfl)
  rw [eG]
  clear eG hfr
  obtain ⟨b2, o2, rfl, hb2, hd⟩ := hI.pos (j := 0) (by omega)
  have hd' : ∀ i, i < 2 → w.cell? ⟨b2, o2 + i, none⟩ = some (.int .i64 (nA zs i)) := fun i hi => hd i (by omega)
  have d0 : w.cell? ⟨b2, o2, none⟩ = some (.int .i64 (nA zs 0)) := hd' 0 (by decide)
  have i0 := hin 0
  have d1 : w.cell? ⟨b2, o2 + 1, none⟩ = some (.int .i64 (nA zs 1)) := hd' 1 (by decide)
  have i1 := hin 1
  generalize nA zs 0 = x0 at *
  generalize nA zs 1 = x1 at *
  clear hd hd'
  have hpos : 0 < l.length := List.length_pos_iff.2 hne
  obtain ⟨b, off, rfl, hb, hc⟩ := hA.pos hpos
  have hS := hc (l.length - 1) (by omega)
  have hlst : l.getD (l.length - 1) zeroS = l.getLastD zeroS := by rw [List.getLastD_eq_getLast?, List.getLast?_eq_getElem?]; rfl
  rw [hlst] at hS
  obtain ⟨k0, k1, k2, k3, k4, k5, k6, k7, k8, k9, k10, k11⟩ := hS
  have e1 : IntKind.i64.wrap ((l.length : Int) - 1) = ((l.length - 1 : Nat) : Int) := by rw [IntWalk.i64_in _ (by omega)]; omega
  have hiI : ((l.length - 1 : Nat) : Int) < (l.length : Int) := by omega
  have hgt : (0 : Int) < (l.length : Int) := by omega
  obtain ⟨_, _, ja, jb, jc, jd, _⟩ := hlast
  generalize l.getLastD zeroS = g at *
  generalize hn : l.length - 1 = n at *
  generalize hL : l.length = L at *
  have hb21 : b < w.heap.size + 1 := by omega
  have hb22 : b < w.heap.size + 1 + 1 := by omega
  have hb23 : b < w.heap.size + 1 + 1 + 1 := by omega
  have hb24 : b < w.heap.size + 1 + 1 + 1 + 1 := by omega
  have hb25 : b < w.heap.size + 1 + 1 + 1 + 1 + 1 := by omega
  clear hc hlst hn hL hne hpos hcap
  clear hA
  clear hI hz hin hp
  clear hc99
  have FV := Five.mk' w (.cells #[.int .u8 (c : Int), .slice (some ⟨b2, o2, none⟩) 2 ac] 52) px py px py g
  have h97I : (97 : Int) ≤ (c : Int) := by omega
  go_enter Tryz.func37, Tryz.ntmps37
  go_wp2_with fail
  refine (CA.out _).mono ?_
  rintro e w1 ⟨rfl, rfl⟩
  go_upto_region 10 with fail
  have FV2 : Five w w.heap.size (w.heap.size + 1) (w.heap.size + 1 + 1) (w.heap.size + 1 + 1 + 1) (w.heap.size + 1 + 1 + 1 + 1) px py px py g (((((w.alloc (.cells #[.int .u8 (c : Int), .slice (some ⟨b2, o2, none⟩) 2 ac] 52)).alloc (.cells #[.int .i64 px, .int .i64 py] 39)).alloc (.cells #[.int .i64 0, .int .i64 0, .int .i64 0, .int .i64 0, .int .i64 0, .int .i64 0, .int .i64 0, .int .i64 0, .int .i64 0, .int .i64 0, .bool false, .bool false] 42)).alloc (.cells #[.int .i64 px, .int .i64 py] 39)).alloc (.cells #[.int .i64 g.kind, .int .i64 g.tx, .int .i64 g.ty, .int .i64 g.ax, .int .i64 g.ay, .int .i64 g.cx, .int .i64 g.cy, .int .i64 g.rx, .int .i64 g.ry, .int .i64 g.turn, .bool g.lg, .bool g.sw] 42)) := FV
  clear FV
  generalize hW5 : (((((w.alloc (.cells #[.int .u8 (c : Int), .slice (some ⟨b2, o2, none⟩) 2 ac] 52)).alloc (.cells #[.int .i64 px, .int .i64 py] 39)).alloc (.cells #[.int .i64 0, .int .i64 0, .int .i64 0, .int .i64 0, .int .i64 0, .int .i64 0, .int .i64 0, .int .i64 0, .int .i64 0, .int .i64 0, .bool false, .bool false] 42)).alloc (.cells #[.int .i64 px, .int .i64 py] 39)).alloc (.cells #[.int .i64 g.kind, .int .i64 g.tx, .int .i64 g.ty, .int .i64 g.ax, .int .i64 g.ay, .int .i64 g.cx, .int .i64 g.cy, .int .i64 g.rx, .int .i64 g.ry, .int .i64 g.turn, .bool g.lg, .bool g.sw] 42)) = W5 at *
  generalize hN0 : w.heap.size = N0 at *
  generalize hN1 : N0 + 1 = N1 at *
  generalize hN2 : N1 + 1 = N2 at *
  generalize hN3 : N2 + 1 = N3 at *
  generalize hN4 : N3 + 1 = N4 at *
  have FH := Lib.hid FV2
  have bel : Below w.heap.size w W5 := FV2.bel
  have n23 : N2 ≠ N3 := by omega
  have n32 : N3 ≠ N2 := by omega
  have n21 : N2 ≠ N1 := by omega
  have n12 : N1 ≠ N2 := by omega
  have hNle : w.heap.size ≤ N2 := by omega
  have s1 := FV2.at'.lt
  have s2 := FV2.res.lt
  have s3 := FV2.frm.lt
  have s4 := FV2.lst.lt
  have hb2N : b2 < w.heap.size := by omega
  have nb : b2 ≠ N2 := by omega
  have nb' : N2 ≠ b2 := by omega
  have hb2W : b2 < W5.heap.size := Nat.lt_of_lt_of_le hb2N bel.size
  have u0 := (bel.cell (p := ⟨b2, o2, none⟩) (by exact hb2N)).trans d0
  have u1 := (bel.cell (p := ⟨b2, o2 + 1, none⟩) (by exact hb2N)).trans d1
  have PR0 := Lib.hid (show ∀ W, b2 < W.heap.size → W.cell? ⟨b2, o2, none⟩ = some (.int .i64 x0) → W.cell? ⟨b2, o2 + 1, none⟩ = some (.int .i64 x1) → Calls Tryz.prog 62 #[.agg #[.int .i64 px, .int .i64 py], .slice (some ⟨b2, o2, none⟩) 2 ac, .int .i64 0] W fun e w' => e = .returned (.agg #[.int .i64 (px + x0), .int .i64 (py + x1)]) ∧ Below W.heap.size W w' from fun W hb h0 h1 => rpair_any px py b2 o2 2 ac 0 1 x0 x1 W hb rfl (by decide) (by decide) h0 h1 (in_sum ix i0).i64 (in_sum iy i1).i64)
  have f0 := FH.out.frm.c0
  have f1 := FH.out.frm.c1
  clear FV2
  go_wp2_with fail
  refine (PR0.out _ hb2W u0 u1).mono ?_
  rintro e w6 ⟨rfl, b6⟩
  have F6 := Lib.hid (FH.out.next b6)
  obtain ⟨r0, r1, r2, r3, r4, r5, r6, r7, r8, r9, r10, r11⟩ := SegAt.of_block F6.out.res
  simp only [Nat.zero_add] at r1 r2 r3 r4 r5 r6 r7 r8 r9 r10 r11
  have rz0 := F6.out.res.z 0
  have rz1 := F6.out.res.z 1
  have rz2 := F6.out.res.z 2
  have rz3 := F6.out.res.z 3
  have rz4 := F6.out.res.z 4
  have rz5 := F6.out.res.z 5
  have rz6 := F6.out.res.z 6
  have rz7 := F6.out.res.z 7
  have rz8 := F6.out.res.z 8
  have rz9 := F6.out.res.z 9
  have rz10 := F6.out.res.z 10
  have rz11 := F6.out.res.z 11
  clear b6 f0 f1
  go_wp2_with fail
  exact seg_done Tryz.results37 (segS 1 (px + x0) (py + x1) 0 0 0 0) F6.out.res hNle F6.out.bel rfl
set_option maxHeartbeats 8000000 in
set_option maxRecDepth 100000 in
theorem one_Mbe (c : Nat) (aa : Option Addr) (ac : Nat) (zs : List Int) (px py : Int) (a : Option Addr) (l : List Seg) (cap was : Nat) (w : World) (_hc99 : cntL c ≠ 99) (hz : zs.length = 2) (hin : ∀ i, In32 (nA zs i)) (hI : IntsK .i64 aa zs w) (hA : RdS a l w) (hl : l.length ≤ 100000000) (hcap : capL c = 77) (h97 : ¬ 97 ≤ c) (hp : In32 px ∧ In32 py) (he : l = []) :
    Calls Tryz.prog 37 #[.agg #[.int .u8 (c : Int), .slice aa 2 ac], .agg #[.int .i64 px, .int .i64 py], .slice a l.length cap, .int .u8 (was : Int)] w fun e w' => e = .returned (oneS ⟨c, zs⟩ (px, py) l was).val ∧ Below w.heap.size w w' := by
  have hc256 : c < 256 := by omega
  have CA := Lib.hid (fun w => rcap_any c hc256 w)
  rw [hcap] at CA
  have hfr : fromL ⟨c, zs⟩ (px, py) = (0, 0) := if_neg h97
  have ix := hp.1
  have iy := hp.2
  have iz := z32
  have eG : oneS ⟨c, zs⟩ (px, py) l was = segS 1 (nA zs 0) (nA zs 1) 0 0 0 0 := by unfold oneS; rw [hfr, hcap]; first | rfl | (simp only [pairL, Int.zero_add]; rfl)
  rw [eG]
  clear eG hfr
  obtain ⟨b2, o2, rfl, hb2, hd⟩ := hI.pos (j := 0) (by omega)
  have hd' : ∀ i, i < 2 → w.cell? ⟨b2, o2 + i, none⟩ = some (.int .i64 (nA zs i)) := fun i hi => hd i (by omega)
  have d0 : w.cell? ⟨b2, o2, none⟩ = some (.int .i64 (nA zs 0)) := hd' 0 (by decide)
  have i0 := hin 0
  have d1 : w.cell? ⟨b2, o2 + 1, none⟩ = some (.int .i64 (nA zs 1)) := hd' 1 (by decide)
  have i1 := hin 1
  generalize nA zs 0 = x0 at *
  generalize nA zs 1 = x1 at *
  clear hd hd'
  subst he
  clear hcap
  clear hA
  clear hI hz hin hp
  clear _hc99
  have FV := Five.mk' w (.cells #[.int .u8 (c : Int), .slice (some ⟨b2, o2, none⟩) 2 ac] 52) px py 0 0 zeroS
  have h97I : ¬ (97 : Int) ≤ (c : Int) := by omega
  go_enter Tryz.func37, Tryz.ntmps37
  go_wp2_with fail
  refine (CA.out _).mono ?_
  rintro e w1 ⟨rfl, rfl⟩
  go_upto_region 10 with fail
  have FV2 : Five w w.heap.size (w.heap.size + 1) (w.heap.size + 1 + 1) (w.heap.size + 1 + 1 + 1) (w.heap.size + 1 + 1 + 1 + 1) px py 0 0 zeroS (((((w.alloc (.cells #[.int .u8 (c : Int), .slice (some ⟨b2, o2, none⟩) 2 ac] 52)).alloc (.cells #[.int .i64 px, .int .i64 py] 39)).alloc (.cells #[.int .i64 0, .int .i64 0, .int .i64 0, .int .i64 0, .int .i64 0, .int .i64 0, .int .i64 0, .int .i64 0, .int .i64 0, .int .i64 0, .bool false, .bool false] 42)).alloc (.cells #[.int .i64 0, .int .i64 0] 39)).alloc (.cells #[.int .i64 0, .int .i64 0, .int .i64 0, .int .i64 0, .int .i64 0, .int .i64 0, .int .i64 0, .int .i64 0, .int .i64 0, .int .i64 0, .bool false, .bool false] 42)) := FV
  clear FV
  generalize hW5 : (((((w.alloc (.cells #[.int .u8 (c : Int), .slice (some ⟨b2, o2, none⟩) 2 ac] 52)).alloc (.cells #[.int .i64 px, .int .i64 py] 39)).alloc (.cells #[.int .i64 0, .int .i64 0, .int .i64 0, .int .i64 0, .int .i64 0, .int .i64 0, .int .i64 0, .int .i64 0, .int .i64 0, .int .i64 0, .bool false, .bool false] 42)).alloc (.cells #[.int .i64 0, .int .i64 0] 39)).alloc (.cells #[.int .i64 0, .int .i64 0, .int .i64 0, .int .i64 0, .int .i64 0, .int .i64 0, .int .i64 0, .int .i64 0, .int .i64 0, .int .i64 0, .bool false, .bool false] 42)) = W5 at *
  generalize hN0 : w.heap.size = N0 at *
  generalize hN1 : N0 + 1 = N1 at *
  generalize hN2 : N1 + 1 = N2 at *
  generalize hN3 : N2 + 1 = N3 at *
  generalize hN4 : N3 + 1 = N4 at *
  have FH := Lib.hid FV2
  have bel : Below w.heap.size w W5 := FV2.bel
  have n23 : N2 ≠ N3 := by omega
  have n32 : N3 ≠ N2 := by omega
  have n21 : N2 ≠ N1 := by omega
  have n12 : N1 ≠ N2 := by omega
  have hNle : w.heap.size ≤ N2 := by omega
  have s1 := FV2.at'.lt
  have s2 := FV2.res.lt
  have s3 := FV2.frm.lt
  have s4 := FV2.lst.lt
  have hb2N : b2 < w.heap.size := by omega
  have nb : b2 ≠ N2 := by omega
  have nb' : N2 ≠ b2 := by omega
  have hb2W : b2 < W5.heap.size := Nat.lt_of_lt_of_le hb2N bel.size
  have u0 := (bel.cell (p := ⟨b2, o2, none⟩) (by exact hb2N)).trans d0
  have u1 := (bel.cell (p := ⟨b2, o2 + 1, none⟩) (by exact hb2N)).trans d1
  have PR0 := Lib.hid (show ∀ W, b2 < W.heap.size → W.cell? ⟨b2, o2, none⟩ = some (.int .i64 x0) → W.cell? ⟨b2, o2 + 1, none⟩ = some (.int .i64 x1) → Calls Tryz.prog 62 #[.agg #[.int .i64 0, .int .i64 0], .slice (some ⟨b2, o2, none⟩) 2 ac, .int .i64 0] W fun e w' => e = .returned (.agg #[.int .i64 (x0), .int .i64 (x1)]) ∧ Below W.heap.size W w' from fun W hb h0 h1 => by have h := rpair_any 0 0 b2 o2 2 ac 0 1 x0 x1 W hb rfl (by decide) (by decide) h0 h1 (in_sum iz i0).i64 (in_sum iz i1).i64; simp only [Int.zero_add] at h; exact h)
  have f0 := FH.out.frm.c0
  have f1 := FH.out.frm.c1
  clear FV2
  go_wp2_with fail
  refine (PR0.out _ hb2W u0 u1).mono ?_
  rintro e w6 ⟨rfl, b6⟩
  have F6 := Lib.hid (FH.out.next b6)
  obtain ⟨r0, r1, r2, r3, r4, r5, r6, r7, r8, r9, r10, r11⟩ := SegAt.of_block F6.out.res
  simp only [Nat.zero_add] at r1 r2 r3 r4 r5 r6 r7 r8 r9 r10 r11
  have rz0 := F6.out.res.z 0
  have rz1 := F6.out.res.z 1
  have rz2 := F6.out.res.z 2
  have rz3 := F6.out.res.z 3
  have rz4 := F6.out.res.z 4
  have rz5 := F6.out.res.z 5
  have rz6 := F6.out.res.z 6
  have rz7 := F6.out.res.z 7
  have rz8 := F6.out.res.z 8
  have rz9 := F6.out.res.z 9
  have rz10 := F6.out.res.z 10
  have rz11 := F6.out.res.z 11
  clear b6 f0 f1
  go_wp2_with fail
  exact seg_done Tryz.results37 (segS 1 (x0) (x1) 0 0 0 0) F6.out.res hNle F6.out.bel rfl
set_option maxHeartbeats 8000000 in
set_option maxRecDepth 100000 in
theorem one_Mb (c : Nat) (aa : Option Addr) (ac : Nat) (zs : List Int) (px py : Int) (a : Option Addr) (l : List Seg) (cap was : Nat) (w : World) (_hc99 : cntL c ≠ 99) (hz : zs.length = 2) (hin : ∀ i, In32 (nA zs i)) (hI : IntsK .i64 aa zs w) (hA : RdS a l w) (hl : l.length ≤ 100000000) (hcap : capL c = 77) (h97 : ¬ 97 ≤ c) (hp : In32 px ∧ In32 py) (hne : l ≠ []) (hlast : inB (l.getLastD zeroS)) :
    Calls Tryz.prog 37 #[.agg #[.int .u8 (c : Int), .slice aa 2 ac], .agg #[.int .i64 px, .int .i64 py], .slice a l.length cap, .int .u8 (was : Int)] w fun e w' => e = .returned (oneS ⟨c, zs⟩ (px, py) l was).val ∧ Below w.heap.size w w' := by
  have hc256 : c < 256 := by omega
  have CA := Lib.hid (fun w => rcap_any c hc256 w)
  rw [hcap] at CA
  have hfr : fromL ⟨c, zs⟩ (px, py) = (0, 0) := if_neg h97
  have ix := hp.1
  have iy := hp.2
  have iz := z32
  have eG : oneS ⟨c, zs⟩ (px, py) l was = segS 1 (nA zs 0) (nA zs 1) 0 0 0 0 := by unfold oneS; rw [hfr, hcap]; first | rfl | (simp only [pairL, Int.zero_add]; rfl)
  rw [eG]
  clear eG hfr
  obtain ⟨b2, o2, rfl, hb2, hd⟩ := hI.pos (j := 0) (by omega)
  have hd' : ∀ i, i < 2 → w.cell? ⟨b2, o2 + i, none⟩ = some (.int .i64 (nA zs i)) := fun i hi => hd i (by omega)
  have d0 : w.cell? ⟨b2, o2, none⟩ = some (.int .i64 (nA zs 0)) := hd' 0 (by decide)
  have i0 := hin 0
  have d1 : w.cell? ⟨b2, o2 + 1, none⟩ = some (.int .i64 (nA zs 1)) := hd' 1 (by decide)
  have i1 := hin 1
  generalize nA zs 0 = x0 at *
  generalize nA zs 1 = x1 at *
  clear hd hd'
  have hpos : 0 < l.length := List.length_pos_iff.2 hne
  obtain ⟨b, off, rfl, hb, hc⟩ := hA.pos hpos
  have hS := hc (l.length - 1) (by omega)
  have hlst : l.getD (l.length - 1) zeroS = l.getLastD zeroS := by rw [List.getLastD_eq_getLast?, List.getLast?_eq_getElem?]; rfl
  rw [hlst] at hS
  obtain ⟨k0, k1, k2, k3, k4, k5, k6, k7, k8, k9, k10, k11⟩ := hS
  have e1 : IntKind.i64.wrap ((l.length : Int) - 1) = ((l.length - 1 : Nat) : Int) := by rw [IntWalk.i64_in _ (by omega)]; omega
  have hiI : ((l.length - 1 : Nat) : Int) < (l.length : Int) := by omega
  have hgt : (0 : Int) < (l.length : Int) := by omega
  obtain ⟨_, _, ja, jb, jc, jd, _⟩ := hlast
  generalize l.getLastD zeroS = g at *
  generalize hn : l.length - 1 = n at *
  generalize hL : l.length = L at *
  have hb21 : b < w.heap.size + 1 := by omega
  have hb22 : b < w.heap.size + 1 + 1 := by omega
  have hb23 : b < w.heap.size + 1 + 1 + 1 := by omega
  have hb24 : b < w.heap.size + 1 + 1 + 1 + 1 := by omega
  have hb25 : b < w.heap.size + 1 + 1 + 1 + 1 + 1 := by omega
  clear hc hlst hn hL hne hpos hcap
  clear hA
  clear hI hz hin hp
  clear _hc99
  have FV := Five.mk' w (.cells #[.int .u8 (c : Int), .slice (some ⟨b2, o2, none⟩) 2 ac] 52) px py 0 0 g
  have h97I : ¬ (97 : Int) ≤ (c : Int) := by omega
  go_enter Tryz.func37, Tryz.ntmps37
  go_wp2_with fail
  refine (CA.out _).mono ?_
  rintro e w1 ⟨rfl, rfl⟩
  go_upto_region 10 with fail
  have FV2 : Five w w.heap.size (w.heap.size + 1) (w.heap.size + 1 + 1) (w.heap.size + 1 + 1 + 1) (w.heap.size + 1 + 1 + 1 + 1) px py 0 0 g (((((w.alloc (.cells #[.int .u8 (c : Int), .slice (some ⟨b2, o2, none⟩) 2 ac] 52)).alloc (.cells #[.int .i64 px, .int .i64 py] 39)).alloc (.cells #[.int .i64 0, .int .i64 0, .int .i64 0, .int .i64 0, .int .i64 0, .int .i64 0, .int .i64 0, .int .i64 0, .int .i64 0, .int .i64 0, .bool false, .bool false] 42)).alloc (.cells #[.int .i64 0, .int .i64 0] 39)).alloc (.cells #[.int .i64 g.kind, .int .i64 g.tx, .int .i64 g.ty, .int .i64 g.ax, .int .i64 g.ay, .int .i64 g.cx, .int .i64 g.cy, .int .i64 g.rx, .int .i64 g.ry, .int .i64 g.turn, .bool g.lg, .bool g.sw] 42)) := FV
  clear FV
  generalize hW5 : (((((w.alloc (.cells #[.int .u8 (c : Int), .slice (some ⟨b2, o2, none⟩) 2 ac] 52)).alloc (.cells #[.int .i64 px, .int .i64 py] 39)).alloc (.cells #[.int .i64 0, .int .i64 0, .int .i64 0, .int .i64 0, .int .i64 0, .int .i64 0, .int .i64 0, .int .i64 0, .int .i64 0, .int .i64 0, .bool false, .bool false] 42)).alloc (.cells #[.int .i64 0, .int .i64 0] 39)).alloc (.cells #[.int .i64 g.kind, .int .i64 g.tx, .int .i64 g.ty, .int .i64 g.ax, .int .i64 g.ay, .int .i64 g.cx, .int .i64 g.cy, .int .i64 g.rx, .int .i64 g.ry, .int .i64 g.turn, .bool g.lg, .bool g.sw] 42)) = W5 at *
  generalize hN0 : w.heap.size = N0 at *
  generalize hN1 : N0 + 1 = N1 at *
  generalize hN2 : N1 + 1 = N2 at *
  generalize hN3 : N2 + 1 = N3 at *
  generalize hN4 : N3 + 1 = N4 at *
  have FH := Lib.hid FV2
  have bel : Below w.heap.size w W5 := FV2.bel
  have n23 : N2 ≠ N3 := by omega
  have n32 : N3 ≠ N2 := by omega
  have n21 : N2 ≠ N1 := by omega
  have n12 : N1 ≠ N2 := by omega
  have hNle : w.heap.size ≤ N2 := by omega
  have s1 := FV2.at'.lt
  have s2 := FV2.res.lt
  have s3 := FV2.frm.lt
  have s4 := FV2.lst.lt
  have hb2N : b2 < w.heap.size := by omega
  have nb : b2 ≠ N2 := by omega
  have nb' : N2 ≠ b2 := by omega
  have hb2W : b2 < W5.heap.size := Nat.lt_of_lt_of_le hb2N bel.size
  have u0 := (bel.cell (p := ⟨b2, o2, none⟩) (by exact hb2N)).trans d0
  have u1 := (bel.cell (p := ⟨b2, o2 + 1, none⟩) (by exact hb2N)).trans d1
  have PR0 := Lib.hid (show ∀ W, b2 < W.heap.size → W.cell? ⟨b2, o2, none⟩ = some (.int .i64 x0) → W.cell? ⟨b2, o2 + 1, none⟩ = some (.int .i64 x1) → Calls Tryz.prog 62 #[.agg #[.int .i64 0, .int .i64 0], .slice (some ⟨b2, o2, none⟩) 2 ac, .int .i64 0] W fun e w' => e = .returned (.agg #[.int .i64 (x0), .int .i64 (x1)]) ∧ Below W.heap.size W w' from fun W hb h0 h1 => by have h := rpair_any 0 0 b2 o2 2 ac 0 1 x0 x1 W hb rfl (by decide) (by decide) h0 h1 (in_sum iz i0).i64 (in_sum iz i1).i64; simp only [Int.zero_add] at h; exact h)
  have f0 := FH.out.frm.c0
  have f1 := FH.out.frm.c1
  clear FV2
  go_wp2_with fail
  refine (PR0.out _ hb2W u0 u1).mono ?_
  rintro e w6 ⟨rfl, b6⟩
  have F6 := Lib.hid (FH.out.next b6)
  obtain ⟨r0, r1, r2, r3, r4, r5, r6, r7, r8, r9, r10, r11⟩ := SegAt.of_block F6.out.res
  simp only [Nat.zero_add] at r1 r2 r3 r4 r5 r6 r7 r8 r9 r10 r11
  have rz0 := F6.out.res.z 0
  have rz1 := F6.out.res.z 1
  have rz2 := F6.out.res.z 2
  have rz3 := F6.out.res.z 3
  have rz4 := F6.out.res.z 4
  have rz5 := F6.out.res.z 5
  have rz6 := F6.out.res.z 6
  have rz7 := F6.out.res.z 7
  have rz8 := F6.out.res.z 8
  have rz9 := F6.out.res.z 9
  have rz10 := F6.out.res.z 10
  have rz11 := F6.out.res.z 11
  clear b6 f0 f1
  go_wp2_with fail
  exact seg_done Tryz.results37 (segS 1 (x0) (x1) 0 0 0 0) F6.out.res hNle F6.out.bel rfl
set_option maxHeartbeats 8000000 in
set_option maxRecDepth 100000 in
theorem one_Vs (c : Nat) (aa : Option Addr) (ac : Nat) (zs : List Int) (px py : Int) (a : Option Addr) (l : List Seg) (cap was : Nat) (w : World) (hc99 : cntL c ≠ 99) (hz : zs.length = 1) (hin : ∀ i, In32 (nA zs i)) (hI : IntsK .i64 aa zs w) (hA : RdS a l w) (hl : l.length ≤ 100000000) (hcap : capL c = 86) (h97 : 97 ≤ c) (hp : In32 px ∧ In32 py) (hne : l ≠ []) (hlast : inB (l.getLastD zeroS)) :
    Calls Tryz.prog 37 #[.agg #[.int .u8 (c : Int), .slice aa 1 ac], .agg #[.int .i64 px, .int .i64 py], .slice a l.length cap, .int .u8 (was : Int)] w fun e w' => e = .returned (oneS ⟨c, zs⟩ (px, py) l was).val ∧ Below w.heap.size w w' := by
  have hc256 : c < 256 := by unfold cntL at hc99; repeat (first | (split at hc99; omega) | omega)
  have CA := Lib.hid (fun w => rcap_any c hc256 w)
  rw [hcap] at CA
  have hfr : fromL ⟨c, zs⟩ (px, py) = (px, py) := if_pos h97
  have ix := hp.1
  have iy := hp.2
  have iz := z32
  have eG : oneS ⟨c, zs⟩ (px, py) l was = segS 2 px (py + nA zs 0) 0 0 0 0 := by unfold oneS; rw [hfr, hcap]; first | rfl | (simp only [pairL, Int.zero_add]; rfl)
  rw [eG]
  clear eG hfr
  obtain ⟨b2, o2, rfl, hb2, hd⟩ := hI.pos (j := 0) (by omega)
  have hd' : ∀ i, i < 1 → w.cell? ⟨b2, o2 + i, none⟩ = some (.int .i64 (nA zs i)) := fun i hi => hd i (by omega)
  have d0 : w.cell? ⟨b2, o2, none⟩ = some (.int .i64 (nA zs 0)) := hd' 0 (by decide)
  have i0 := hin 0
  generalize nA zs 0 = x0 at *
  clear hd hd'
  have hpos : 0 < l.length := List.length_pos_iff.2 hne
  obtain ⟨b, off, rfl, hb, hc⟩ := hA.pos hpos
  have hS := hc (l.length - 1) (by omega)
  have hlst : l.getD (l.length - 1) zeroS = l.getLastD zeroS := by rw [List.getLastD_eq_getLast?, List.getLast?_eq_getElem?]; rfl
  rw [hlst] at hS
  obtain ⟨k0, k1, k2, k3, k4, k5, k6, k7, k8, k9, k10, k11⟩ := hS
  have e1 : IntKind.i64.wrap ((l.length : Int) - 1) = ((l.length - 1 : Nat) : Int) := by rw [IntWalk.i64_in _ (by omega)]; omega
  have hiI : ((l.length - 1 : Nat) : Int) < (l.length : Int) := by omega
  have hgt : (0 : Int) < (l.length : Int) := by omega
  obtain ⟨_, _, ja, jb, jc, jd, _⟩ := hlast
  generalize l.getLastD zeroS = g at *
  generalize hn : l.length - 1 = n at *
  generalize hL : l.length = L at *
  have hb21 : b < w.heap.size + 1 := by omega
  have hb22 : b < w.heap.size + 1 + 1 := by omega
  have hb23 : b < w.heap.size + 1 + 1 + 1 := by omega
  have hb24 : b < w.heap.size + 1 + 1 + 1 + 1 := by omega
  have hb25 : b < w.heap.size + 1 + 1 + 1 + 1 + 1 := by omega
  clear hc hlst hn hL hne hpos hcap
  clear hA
  clear hI hz hin hp
  clear hc99
  have FV := Five.mk' w (.cells #[.int .u8 (c : Int), .slice (some ⟨b2, o2, none⟩) 1 ac] 52) px py px py g
  have h97I : (97 : Int) ≤ (c : Int) := by omega
  go_enter Tryz.func37, Tryz.ntmps37
  go_wp2_with fail
  refine (CA.out _).mono ?_
  rintro e w1 ⟨rfl, rfl⟩
  go_upto_region 16 with fail
  have FV2 : Five w w.heap.size (w.heap.size + 1) (w.heap.size + 1 + 1) (w.heap.size + 1 + 1 + 1) (w.heap.size + 1 + 1 + 1 + 1) px py px py g (((((w.alloc (.cells #[.int .u8 (c : Int), .slice (some ⟨b2, o2, none⟩) 1 ac] 52)).alloc (.cells #[.int .i64 px, .int .i64 py] 39)).alloc (.cells #[.int .i64 0, .int .i64 0, .int .i64 0, .int .i64 0, .int .i64 0, .int .i64 0, .int .i64 0, .int .i64 0, .int .i64 0, .int .i64 0, .bool false, .bool false] 42)).alloc (.cells #[.int .i64 px, .int .i64 py] 39)).alloc (.cells #[.int .i64 g.kind, .int .i64 g.tx, .int .i64 g.ty, .int .i64 g.ax, .int .i64 g.ay, .int .i64 g.cx, .int .i64 g.cy, .int .i64 g.rx, .int .i64 g.ry, .int .i64 g.turn, .bool g.lg, .bool g.sw] 42)) := FV
  clear FV
  generalize hW5 : (((((w.alloc (.cells #[.int .u8 (c : Int), .slice (some ⟨b2, o2, none⟩) 1 ac] 52)).alloc (.cells #[.int .i64 px, .int .i64 py] 39)).alloc (.cells #[.int .i64 0, .int .i64 0, .int .i64 0, .int .i64 0, .int .i64 0, .int .i64 0, .int .i64 0, .int .i64 0, .int .i64 0, .int .i64 0, .bool false, .bool false] 42)).alloc (.cells #[.int .i64 px, .int .i64 py] 39)).alloc (.cells #[.int .i64 g.kind, .int .i64 g.tx, .int .i64 g.ty, .int .i64 g.ax, .int .i64 g.ay, .int .i64 g.cx, .int .i64 g.cy, .int .i64 g.rx, .int .i64 g.ry, .int .i64 g.turn, .bool g.lg, .bool g.sw] 42)) = W5 at *
  generalize hN0 : w.heap.size = N0 at *
  generalize hN1 : N0 + 1 = N1 at *
  generalize hN2 : N1 + 1 = N2 at *
  generalize hN3 : N2 + 1 = N3 at *
  generalize hN4 : N3 + 1 = N4 at *
  have FH := Lib.hid FV2
  have bel : Below w.heap.size w W5 := FV2.bel
  have n23 : N2 ≠ N3 := by omega
  have n32 : N3 ≠ N2 := by omega
  have n21 : N2 ≠ N1 := by omega
  have n12 : N1 ≠ N2 := by omega
  have hNle : w.heap.size ≤ N2 := by omega
  have s1 := FV2.at'.lt
  have s2 := FV2.res.lt
  have s3 := FV2.frm.lt
  have s4 := FV2.lst.lt
  have hb2N : b2 < w.heap.size := by omega
  have nb : b2 ≠ N2 := by omega
  have nb' : N2 ≠ b2 := by omega
  have hb2W : b2 < W5.heap.size := Nat.lt_of_lt_of_le hb2N bel.size
  have u0 := (bel.cell (p := ⟨b2, o2, none⟩) (by exact hb2N)).trans d0
  have e9 : IntKind.i64.wrap (py + x0) = py + x0 := wrap_sum iy i0
  have f0 := FH.out.frm.c0
  have f1 := FH.out.frm.c1
  have p0 := FH.out.at'.c0
  have p1 := FH.out.at'.c1
  obtain ⟨r0, r1, r2, r3, r4, r5, r6, r7, r8, r9, r10, r11⟩ := SegAt.of_block FH.out.res
  simp only [Nat.zero_add] at r1 r2 r3 r4 r5 r6 r7 r8 r9 r10 r11
  have rz0 := FH.out.res.z 0
  have rz1 := FH.out.res.z 1
  have rz2 := FH.out.res.z 2
  have rz3 := FH.out.res.z 3
  have rz4 := FH.out.res.z 4
  have rz5 := FH.out.res.z 5
  have rz6 := FH.out.res.z 6
  have rz7 := FH.out.res.z 7
  have rz8 := FH.out.res.z 8
  have rz9 := FH.out.res.z 9
  have rz10 := FH.out.res.z 10
  have rz11 := FH.out.res.z 11
  clear FV2
  go_region_held3 (fun w' => w'.cell? ⟨N1, 0, none⟩ = some (.int .i64 px) ∧ w'.cell? ⟨N3, 1, none⟩ = some (.int .i64 py) ∧ w'.cell? ⟨b2, o2, none⟩ = some (.int .i64 x0)) (first | (simp [go_sem, *]; done) | (exact ⟨by assumption, by assumption, by assumption⟩)) (fail)
  all_goals
    go_wp2_with fail
    exact seg_done_d Tryz.results37 (segS 2 px (py + x0) 0 0 0 0) FH.out.res hNle FH.out.bel rfl
set_option maxHeartbeats 8000000 in
set_option maxRecDepth 100000 in
theorem one_Vb (c : Nat) (aa : Option Addr) (ac : Nat) (zs : List Int) (px py : Int) (a : Option Addr) (l : List Seg) (cap was : Nat) (w : World) (_hc99 : cntL c ≠ 99) (hz : zs.length = 1) (hin : ∀ i, In32 (nA zs i)) (hI : IntsK .i64 aa zs w) (hA : RdS a l w) (hl : l.length ≤ 100000000) (hcap : capL c = 86) (h97 : ¬ 97 ≤ c) (hp : In32 px ∧ In32 py) (hne : l ≠ []) (hlast : inB (l.getLastD zeroS)) :
    Calls Tryz.prog 37 #[.agg #[.int .u8 (c : Int), .slice aa 1 ac], .agg #[.int .i64 px, .int .i64 py], .slice a l.length cap, .int .u8 (was : Int)] w fun e w' => e = .returned (oneS ⟨c, zs⟩ (px, py) l was).val ∧ Below w.heap.size w w' := by
  have hc256 : c < 256 := by omega
  have CA := Lib.hid (fun w => rcap_any c hc256 w)
  rw [hcap] at CA
  have hfr : fromL ⟨c, zs⟩ (px, py) = (0, 0) := if_neg h97
  have ix := hp.1
  have iy := hp.2
  have iz := z32
  have eG : oneS ⟨c, zs⟩ (px, py) l was = segS 2 px (nA zs 0) 0 0 0 0 := by unfold oneS; rw [hfr, hcap]; first | rfl | (simp only [pairL, Int.zero_add]; rfl)
  rw [eG]
  clear eG hfr
  obtain ⟨b2, o2, rfl, hb2, hd⟩ := hI.pos (j := 0) (by omega)
  have hd' : ∀ i, i < 1 → w.cell? ⟨b2, o2 + i, none⟩ = some (.int .i64 (nA zs i)) := fun i hi => hd i (by omega)
  have d0 : w.cell? ⟨b2, o2, none⟩ = some (.int .i64 (nA zs 0)) := hd' 0 (by decide)
  have i0 := hin 0
  generalize nA zs 0 = x0 at *
  clear hd hd'
  have hpos : 0 < l.length := List.length_pos_iff.2 hne
  obtain ⟨b, off, rfl, hb, hc⟩ := hA.pos hpos
  have hS := hc (l.length - 1) (by omega)
  have hlst : l.getD (l.length - 1) zeroS = l.getLastD zeroS := by rw [List.getLastD_eq_getLast?, List.getLast?_eq_getElem?]; rfl
  rw [hlst] at hS
  obtain ⟨k0, k1, k2, k3, k4, k5, k6, k7, k8, k9, k10, k11⟩ := hS
  have e1 : IntKind.i64.wrap ((l.length : Int) - 1) = ((l.length - 1 : Nat) : Int) := by rw [IntWalk.i64_in _ (by omega)]; omega
  have hiI : ((l.length - 1 : Nat) : Int) < (l.length : Int) := by omega
  have hgt : (0 : Int) < (l.length : Int) := by omega
  obtain ⟨_, _, ja, jb, jc, jd, _⟩ := hlast
  generalize l.getLastD zeroS = g at *
  generalize hn : l.length - 1 = n at *
  generalize hL : l.length = L at *
  have hb21 : b < w.heap.size + 1 := by omega
  have hb22 : b < w.heap.size + 1 + 1 := by omega
  have hb23 : b < w.heap.size + 1 + 1 + 1 := by omega
  have hb24 : b < w.heap.size + 1 + 1 + 1 + 1 := by omega
  have hb25 : b < w.heap.size + 1 + 1 + 1 + 1 + 1 := by omega
  clear hc hlst hn hL hne hpos hcap
  clear hA
  clear hI hz hin hp
  clear _hc99
  have FV := Five.mk' w (.cells #[.int .u8 (c : Int), .slice (some ⟨b2, o2, none⟩) 1 ac] 52) px py 0 0 g
  have h97I : ¬ (97 : Int) ≤ (c : Int) := by omega
  go_enter Tryz.func37, Tryz.ntmps37
  go_wp2_with fail
  refine (CA.out _).mono ?_
  rintro e w1 ⟨rfl, rfl⟩
  go_upto_region 16 with fail
  have FV2 : Five w w.heap.size (w.heap.size + 1) (w.heap.size + 1 + 1) (w.heap.size + 1 + 1 + 1) (w.heap.size + 1 + 1 + 1 + 1) px py 0 0 g (((((w.alloc (.cells #[.int .u8 (c : Int), .slice (some ⟨b2, o2, none⟩) 1 ac] 52)).alloc (.cells #[.int .i64 px, .int .i64 py] 39)).alloc (.cells #[.int .i64 0, .int .i64 0, .int .i64 0, .int .i64 0, .int .i64 0, .int .i64 0, .int .i64 0, .int .i64 0, .int .i64 0, .int .i64 0, .bool false, .bool false] 42)).alloc (.cells #[.int .i64 0, .int .i64 0] 39)).alloc (.cells #[.int .i64 g.kind, .int .i64 g.tx, .int .i64 g.ty, .int .i64 g.ax, .int .i64 g.ay, .int .i64 g.cx, .int .i64 g.cy, .int .i64 g.rx, .int .i64 g.ry, .int .i64 g.turn, .bool g.lg, .bool g.sw] 42)) := FV
  clear FV
  generalize hW5 : (((((w.alloc (.cells #[.int .u8 (c : Int), .slice (some ⟨b2, o2, none⟩) 1 ac] 52)).alloc (.cells #[.int .i64 px, .int .i64 py] 39)).alloc (.cells #[.int .i64 0, .int .i64 0, .int .i64 0, .int .i64 0, .int .i64 0, .int .i64 0, .int .i64 0, .int .i64 0, .int .i64 0, .int .i64 0, .bool false, .bool false] 42)).alloc (.cells #[.int .i64 0, .int .i64 0] 39)).alloc (.cells #[.int .i64 g.kind, .int .i64 g.tx, .int .i64 g.ty, .int .i64 g.ax, .int .i64 g.ay, .int .i64 g.cx, .int .i64 g.cy, .int .i64 g.rx, .int .i64 g.ry, .int .i64 g.turn, .bool g.lg, .bool g.sw] 42)) = W5 at *
  generalize hN0 : w.heap.size = N0 at *
  generalize hN1 : N0 + 1 = N1 at *
  generalize hN2 : N1 + 1 = N2 at *
  generalize hN3 : N2 + 1 = N3 at *
  generalize hN4 : N3 + 1 = N4 at *
  have FH := Lib.hid FV2
  have bel : Below w.heap.size w W5 := FV2.bel
  have n23 : N2 ≠ N3 := by omega
  have n32 : N3 ≠ N2 := by omega
  have n21 : N2 ≠ N1 := by omega
  have n12 : N1 ≠ N2 := by omega
  have hNle : w.heap.size ≤ N2 := by omega
  have s1 := FV2.at'.lt
  have s2 := FV2.res.lt
  have s3 := FV2.frm.lt
  have s4 := FV2.lst.lt
  have hb2N : b2 < w.heap.size := by omega
  have nb : b2 ≠ N2 := by omega
  have nb' : N2 ≠ b2 := by omega
  have hb2W : b2 < W5.heap.size := Nat.lt_of_lt_of_le hb2N bel.size
  have u0 := (bel.cell (p := ⟨b2, o2, none⟩) (by exact hb2N)).trans d0
  have e9 : IntKind.i64.wrap (x0) = x0 := IntWalk.i64_in _ i0.w.i64
  have f0 := FH.out.frm.c0
  have f1 := FH.out.frm.c1
  have p0 := FH.out.at'.c0
  have p1 := FH.out.at'.c1
  obtain ⟨r0, r1, r2, r3, r4, r5, r6, r7, r8, r9, r10, r11⟩ := SegAt.of_block FH.out.res
  simp only [Nat.zero_add] at r1 r2 r3 r4 r5 r6 r7 r8 r9 r10 r11
  have rz0 := FH.out.res.z 0
  have rz1 := FH.out.res.z 1
  have rz2 := FH.out.res.z 2
  have rz3 := FH.out.res.z 3
  have rz4 := FH.out.res.z 4
  have rz5 := FH.out.res.z 5
  have rz6 := FH.out.res.z 6
  have rz7 := FH.out.res.z 7
  have rz8 := FH.out.res.z 8
  have rz9 := FH.out.res.z 9
  have rz10 := FH.out.res.z 10
  have rz11 := FH.out.res.z 11
  clear FV2
  go_region_held3 (fun w' => w'.cell? ⟨N1, 0, none⟩ = some (.int .i64 px) ∧ w'.cell? ⟨N3, 1, none⟩ = some (.int .i64 0) ∧ w'.cell? ⟨b2, o2, none⟩ = some (.int .i64 x0)) (first | (simp [go_sem, *]; done) | (exact ⟨by assumption, by assumption, by assumption⟩)) (fail)
  all_goals
    go_wp2_with fail
    exact seg_done_d Tryz.results37 (segS 2 px (x0) 0 0 0 0) FH.out.res hNle FH.out.bel rfl
set_option maxHeartbeats 8000000 in
set_option maxRecDepth 100000 in
theorem one_Zs (c : Nat) (aa : Option Addr) (ac : Nat) (zs : List Int) (px py : Int) (a : Option Addr) (l : List Seg) (cap was : Nat) (w : World) (hc99 : cntL c ≠ 99) (_hz : zs.length = 0) (_hin : ∀ i, In32 (nA zs i)) (_hI : IntsK .i64 aa zs w) (hA : RdS a l w) (hl : l.length ≤ 100000000) (hcap : capL c = 90) (h97 : 97 ≤ c) (hp : In32 px ∧ In32 py) (hne : l ≠ []) (hlast : inB (l.getLastD zeroS)) :
    Calls Tryz.prog 37 #[.agg #[.int .u8 (c : Int), .slice aa 0 ac], .agg #[.int .i64 px, .int .i64 py], .slice a l.length cap, .int .u8 (was : Int)] w fun e w' => e = .returned (oneS ⟨c, zs⟩ (px, py) l was).val ∧ Below w.heap.size w w' := by
  have hc256 : c < 256 := by unfold cntL at hc99; repeat (first | (split at hc99; omega) | omega)
  have CA := Lib.hid (fun w => rcap_any c hc256 w)
  rw [hcap] at CA
  have hfr : fromL ⟨c, zs⟩ (px, py) = (px, py) := if_pos h97
  have ix := hp.1
  have iy := hp.2
  have iz := z32
  have eG : oneS ⟨c, zs⟩ (px, py) l was = segS 6 (begL l).1 (begL l).2 0 0 0 0 := by unfold oneS; rw [hfr, hcap]; first | rfl | (simp only [pairL, Int.zero_add]; rfl)
  rw [eG]
  clear eG hfr
  have BGN := Lib.hid (fun w h => rbegin_any a l cap w (by omega) h)
  have HRA := Lib.hid hA
  generalize begL l = bg at *
  obtain ⟨bg1, bg2⟩ := bg
  have hpos : 0 < l.length := List.length_pos_iff.2 hne
  obtain ⟨b, off, rfl, hb, hc⟩ := hA.pos hpos
  have hS := hc (l.length - 1) (by omega)
  have hlst : l.getD (l.length - 1) zeroS = l.getLastD zeroS := by rw [List.getLastD_eq_getLast?, List.getLast?_eq_getElem?]; rfl
  rw [hlst] at hS
  obtain ⟨k0, k1, k2, k3, k4, k5, k6, k7, k8, k9, k10, k11⟩ := hS
  have e1 : IntKind.i64.wrap ((l.length : Int) - 1) = ((l.length - 1 : Nat) : Int) := by rw [IntWalk.i64_in _ (by omega)]; omega
  have hiI : ((l.length - 1 : Nat) : Int) < (l.length : Int) := by omega
  have hgt : (0 : Int) < (l.length : Int) := by omega
  obtain ⟨_, _, ja, jb, jc, jd, _⟩ := hlast
  generalize l.getLastD zeroS = g at *
  generalize hn : l.length - 1 = n at *
  generalize hL : l.length = L at *
  have hb21 : b < w.heap.size + 1 := by omega
  have hb22 : b < w.heap.size + 1 + 1 := by omega
  have hb23 : b < w.heap.size + 1 + 1 + 1 := by omega
  have hb24 : b < w.heap.size + 1 + 1 + 1 + 1 := by omega
  have hb25 : b < w.heap.size + 1 + 1 + 1 + 1 + 1 := by omega
  clear hc hlst hn hL hne hpos hcap
  clear _hI _hz _hin hp
  clear hc99
  have FV := Five.mk' w (.cells #[.int .u8 (c : Int), .slice aa 0 ac] 52) px py px py g
  have h97I : (97 : Int) ≤ (c : Int) := by omega
  go_enter Tryz.func37, Tryz.ntmps37
  go_wp2_with fail
  refine (CA.out _).mono ?_
  rintro e w1 ⟨rfl, rfl⟩
  go_upto_region 33 with fail
  have FV2 : Five w w.heap.size (w.heap.size + 1) (w.heap.size + 1 + 1) (w.heap.size + 1 + 1 + 1) (w.heap.size + 1 + 1 + 1 + 1) px py px py g (((((w.alloc (.cells #[.int .u8 (c : Int), .slice aa 0 ac] 52)).alloc (.cells #[.int .i64 px, .int .i64 py] 39)).alloc (.cells #[.int .i64 0, .int .i64 0, .int .i64 0, .int .i64 0, .int .i64 0, .int .i64 0, .int .i64 0, .int .i64 0, .int .i64 0, .int .i64 0, .bool false, .bool false] 42)).alloc (.cells #[.int .i64 px, .int .i64 py] 39)).alloc (.cells #[.int .i64 g.kind, .int .i64 g.tx, .int .i64 g.ty, .int .i64 g.ax, .int .i64 g.ay, .int .i64 g.cx, .int .i64 g.cy, .int .i64 g.rx, .int .i64 g.ry, .int .i64 g.turn, .bool g.lg, .bool g.sw] 42)) := FV
  clear FV
  generalize hW5 : (((((w.alloc (.cells #[.int .u8 (c : Int), .slice aa 0 ac] 52)).alloc (.cells #[.int .i64 px, .int .i64 py] 39)).alloc (.cells #[.int .i64 0, .int .i64 0, .int .i64 0, .int .i64 0, .int .i64 0, .int .i64 0, .int .i64 0, .int .i64 0, .int .i64 0, .int .i64 0, .bool false, .bool false] 42)).alloc (.cells #[.int .i64 px, .int .i64 py] 39)).alloc (.cells #[.int .i64 g.kind, .int .i64 g.tx, .int .i64 g.ty, .int .i64 g.ax, .int .i64 g.ay, .int .i64 g.cx, .int .i64 g.cy, .int .i64 g.rx, .int .i64 g.ry, .int .i64 g.turn, .bool g.lg, .bool g.sw] 42)) = W5 at *
  generalize hN0 : w.heap.size = N0 at *
  generalize hN1 : N0 + 1 = N1 at *
  generalize hN2 : N1 + 1 = N2 at *
  generalize hN3 : N2 + 1 = N3 at *
  generalize hN4 : N3 + 1 = N4 at *
  have FH := Lib.hid FV2
  have bel : Below w.heap.size w W5 := FV2.bel
  have n23 : N2 ≠ N3 := by omega
  have n32 : N3 ≠ N2 := by omega
  have n21 : N2 ≠ N1 := by omega
  have n12 : N1 ≠ N2 := by omega
  have hNle : w.heap.size ≤ N2 := by omega
  have s1 := FV2.at'.lt
  have s2 := FV2.res.lt
  have s3 := FV2.frm.lt
  have s4 := FV2.lst.lt
  have HB5 := Lib.hid (HRA.out.next bel)
  clear FV2
  go_wp2_with fail
  refine (BGN.out _ HB5.out).mono ?_
  rintro e w6 ⟨rfl, b6⟩
  unfold ptV
  have F6 := Lib.hid (FH.out.next b6)
  obtain ⟨r0, r1, r2, r3, r4, r5, r6, r7, r8, r9, r10, r11⟩ := SegAt.of_block F6.out.res
  simp only [Nat.zero_add] at r1 r2 r3 r4 r5 r6 r7 r8 r9 r10 r11
  have rz0 := F6.out.res.z 0
  have rz1 := F6.out.res.z 1
  have rz2 := F6.out.res.z 2
  have rz3 := F6.out.res.z 3
  have rz4 := F6.out.res.z 4
  have rz5 := F6.out.res.z 5
  have rz6 := F6.out.res.z 6
  have rz7 := F6.out.res.z 7
  have rz8 := F6.out.res.z 8
  have rz9 := F6.out.res.z 9
  have rz10 := F6.out.res.z 10
  have rz11 := F6.out.res.z 11
  clear b6
  go_wp2_with fail
  exact seg_done Tryz.results37 (segS 6 bg1 bg2 0 0 0 0) F6.out.res hNle F6.out.bel rfl
set_option maxHeartbeats 8000000 in
set_option maxRecDepth 100000 in
theorem one_Zb (c : Nat) (aa : Option Addr) (ac : Nat) (zs : List Int) (px py : Int) (a : Option Addr) (l : List Seg) (cap was : Nat) (w : World) (_hc99 : cntL c ≠ 99) (_hz : zs.length = 0) (_hin : ∀ i, In32 (nA zs i)) (_hI : IntsK .i64 aa zs w) (hA : RdS a l w) (hl : l.length ≤ 100000000) (hcap : capL c = 90) (h97 : ¬ 97 ≤ c) (hp : In32 px ∧ In32 py) (hne : l ≠ []) (hlast : inB (l.getLastD zeroS)) :
    Calls Tryz.prog 37 #[.agg #[.int .u8 (c : Int), .slice aa 0 ac], .agg #[.int .i64 px, .int .i64 py], .slice a l.length cap, .int .u8 (was : Int)] w fun e w' => e = .returned (oneS ⟨c, zs⟩ (px, py) l was).val ∧ Below w.heap.size w w' := by
  have hc256 : c < 256 := by omega
  have CA := Lib.hid (fun w => rcap_any c hc256 w)
  rw [hcap] at CA
  have hfr : fromL ⟨c, zs⟩ (px, py) = (0, 0) := if_neg h97
  have ix := hp.1
  have iy := hp.2
  have iz := z32
  have eG : oneS ⟨c, zs⟩ (px, py) l was = segS 6 (begL l).1 (begL l).2 0 0 0 0 := by unfold oneS; rw [hfr, hcap]; first | rfl | (simp only [pairL, Int.zero_add]; rfl)
  rw [eG]
  clear eG hfr
  have BGN := Lib.hid (fun w h => rbegin_any a l cap w (by omega) h)
  have HRA := Lib.hid hA
  generalize begL l = bg at *
  obtain ⟨bg1, bg2⟩ := bg
  have hpos : 0 < l.length := List.length_pos_iff.2 hne
  obtain ⟨b, off, rfl, hb, hc⟩ := hA.pos hpos
  have hS := hc (l.length - 1) (by omega)
  have hlst : l.getD (l.length - 1) zeroS = l.getLastD zeroS := by rw [List.getLastD_eq_getLast?, List.getLast?_eq_getElem?]; rfl
  rw [hlst] at hS
  obtain ⟨k0, k1, k2, k3, k4, k5, k6, k7, k8, k9, k10, k11⟩ := hS
  have e1 : IntKind.i64.wrap ((l.length : Int) - 1) = ((l.length - 1 : Nat) : Int) := by rw [IntWalk.i64_in _ (by omega)]; omega
  have hiI : ((l.length - 1 : Nat) : Int) < (l.length : Int) := by omega
  have hgt : (0 : Int) < (l.length : Int) := by omega
  obtain ⟨_, _, ja, jb, jc, jd, _⟩ := hlast
  generalize l.getLastD zeroS = g at *
  generalize hn : l.length - 1 = n at *
  generalize hL : l.length = L at *
  have hb21 : b < w.heap.size + 1 := by omega
  have hb22 : b < w.heap.size + 1 + 1 := by omega
  have hb23 : b < w.heap.size + 1 + 1 + 1 := by omega
  have hb24 : b < w.heap.size + 1 + 1 + 1 + 1 := by omega
  have hb25 : b < w.heap.size + 1 + 1 + 1 + 1 + 1 := by omega
  clear hc hlst hn hL hne hpos hcap
  clear _hI _hz _hin hp
  clear _hc99
  have FV := Five.mk' w (.cells #[.int .u8 (c : Int), .slice aa 0 ac] 52) px py 0 0 g
  have h97I : ¬ (97 : Int) ≤ (c : Int) := by omega
  go_enter Tryz.func37, Tryz.ntmps37
  go_wp2_with fail
  refine (CA.out _).mono ?_
  rintro e w1 ⟨rfl, rfl⟩
  go_upto_region 33 with fail
  have FV2 : Five w w.heap.size (w.heap.size + 1) (w.heap.size + 1 + 1) (w.heap.size + 1 + 1 + 1) (w.heap.size + 1 + 1 + 1 + 1) px py 0 0 g (((((w.alloc (.cells #[.int .u8 (c : Int), .slice aa 0 ac] 52)).alloc (.cells #[.int .i64 px, .int .i64 py] 39)).alloc (.cells #[.int .i64 0, .int .i64 0, .int .i64 0, .int .i64 0, .int .i64 0, .int .i64 0, .int .i64 0, .int .i64 0, .int .i64 0, .int .i64 0, .bool false, .bool false] 42)).alloc (.cells #[.int .i64 0, .int .i64 0] 39)).alloc (.cells #[.int .i64 g.kind, .int .i64 g.tx, .int .i64 g.ty, .int .i64 g.ax, .int .i64 g.ay, .int .i64 g.cx, .int .i64 g.cy, .int .i64 g.rx, .int .i64 g.ry, .int .i64 g.turn, .bool g.lg, .bool g.sw] 42)) := FV
  clear FV
  generalize hW5 : (((((w.alloc (.cells #[.int .u8 (c : Int), .slice aa 0 ac] 52)).alloc (.cells #[.int .i64 px, .int .i64 py] 39)).alloc (.cells #[.int .i64 0, .int .i64 0, .int .i64 0, .int .i64 0, .int .i64 0, .int .i64 0, .int .i64 0, .int .i64 0, .int .i64 0, .int .i64 0, .bool false, .bool false] 42)).alloc (.cells #[.int .i64 0, .int .i64 0] 39)).alloc (.cells #[.int .i64 g.kind, .int .i64 g.tx, .int .i64 g.ty, .int .i64 g.ax, .int .i64 g.ay, .int .i64 g.cx, .int .i64 g.cy, .int .i64 g.rx, .int .i64 g.ry, .int .i64 g.turn, .bool g.lg, .bool g.sw] 42)) = W5 at *
  generalize hN0 : w.heap.size = N0 at *
  generalize hN1 : N0 + 1 = N1 at *
  generalize hN2 : N1 + 1 = N2 at *
  generalize hN3 : N2 + 1 = N3 at *
  generalize hN4 : N3 + 1 = N4 at *
  have FH := Lib.hid FV2
  have bel : Below w.heap.size w W5 := FV2.bel
  have n23 : N2 ≠ N3 := by omega
  have n32 : N3 ≠ N2 := by omega
  have n21 : N2 ≠ N1 := by omega
  have n12 : N1 ≠ N2 := by omega
  have hNle : w.heap.size ≤ N2 := by omega
  have s1 := FV2.at'.lt
  have s2 := FV2.res.lt
  have s3 := FV2.frm.lt
  have s4 := FV2.lst.lt
  have HB5 := Lib.hid (HRA.out.next bel)
  clear FV2
  go_wp2_with fail
  refine (BGN.out _ HB5.out).mono ?_
  rintro e w6 ⟨rfl, b6⟩
  unfold ptV
  have F6 := Lib.hid (FH.out.next b6)
  obtain ⟨r0, r1, r2, r3, r4, r5, r6, r7, r8, r9, r10, r11⟩ := SegAt.of_block F6.out.res
  simp only [Nat.zero_add] at r1 r2 r3 r4 r5 r6 r7 r8 r9 r10 r11
  have rz0 := F6.out.res.z 0
  have rz1 := F6.out.res.z 1
  have rz2 := F6.out.res.z 2
  have rz3 := F6.out.res.z 3
  have rz4 := F6.out.res.z 4
  have rz5 := F6.out.res.z 5
  have rz6 := F6.out.res.z 6
  have rz7 := F6.out.res.z 7
  have rz8 := F6.out.res.z 8
  have rz9 := F6.out.res.z 9
  have rz10 := F6.out.res.z 10
  have rz11 := F6.out.res.z 11
  clear b6
  go_wp2_with fail
  exact seg_done Tryz.results37 (segS 6 bg1 bg2 0 0 0 0) F6.out.res hNle F6.out.bel rfl
end Go.Proofs.YtgiibcnakiggaaaGreatDoor
