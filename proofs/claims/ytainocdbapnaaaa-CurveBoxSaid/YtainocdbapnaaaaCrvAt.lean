/-
  Package curve: At. (Typed by a program: wip/gen_crv4.py.)
-/
import Derived.Test.YtainocdbapnaaaaCrvSplit
import Derived.Lib.MinMax
namespace Go.Proofs.Ytainocdbapnaaaa
open Go.RowKit Go.Shelf
theorem how_at (q : Nat) (t : Int) (h0 : 0 ≤ t) (h1 : t ≤ 65536) : How 35 #[.pointer (some ⟨q, 0, none⟩)] (q + 1) (fun w => w.cell? ⟨q, 0, none⟩ = some (.int .i64 t)) (fun a b => betw a b t) :=
  ⟨fun _ _ => by kernel_rfl, fun a b w ha hb hq => between11 q t a b w h0 h1 ha hb hq, fun B w w' hB hq b => (b.cell (p := ⟨q, 0, none⟩) (by exact hB)).trans hq, fun _ _ ha hb => betw40 h0 h1 ha hb⟩
theorem at_sp (c : Crv) (t : Int) : (spB (fun a b => betw a b t) c).px = (c.at t).1 ∧ (spB (fun a b => betw a b t) c).py = (c.at t).2 := ⟨rfl, rfl⟩
theorem capT_mm (t : Int) : min (max t 0) 65536 = capT t := by unfold capT; (repeat' split) <;> omega
set_option maxHeartbeats 8000000 in
set_option maxRecDepth 100000 in
theorem cat11 (c : Crv) (t : Int) (w : World) (hc : c.right) : Calls Try.prog 19 #[c.val, .int .i64 t] w fun e w' => e = .returned (.agg #[.int .i64 (c.at (capT t)).1, .int .i64 (c.at (capT t)).2]) ∧ Below w.heap.size w w' := by
  have hT := capT_in t
  have SP := Lib.hid (fun w1 (hK : w.heap.size + 1 + 1 ≤ w1.heap.size) hJ => split11 (how_at (w.heap.size + 1) (capT t) hT.1 hT.2) c w1 hc hK hJ)
  have CO := Lib.hid (fun w => corners11 c w)
  have hs := at_sp c (capT t)
  have hm := capT_mm t
  rw [← hs.1, ← hs.2]
  clear hc hs hT
  generalize capT t = T at *
  generalize spA (fun a b => betw a b T) c = a at *
  generalize spB (fun a b => betw a b T) c = b at *
  obtain ⟨px, py, qx, qy, rx, ry, sx, sy⟩ := c
  obtain ⟨a0, a1, a2, a3, a4, a5, a6, a7⟩ := a
  obtain ⟨f0, f1, f2, f3, f4, f5, f6, f7⟩ := b
  unfold Crv.val Crv.arr at *
  dsimp only at *
  obtain ⟨k1, k2, k3, k4⟩ := boxes_three w #[.int .i64 px, .int .i64 py, .int .i64 qx, .int .i64 qy, .int .i64 rx, .int .i64 ry, .int .i64 sx, .int .i64 sy] #[.int .i64 t] #[.int .i64 0, .int .i64 0] 25 2 23
  have HC0 := Lib.hid k1; have HT0 := Lib.hid k2; have HP0 := Lib.hid k3; have HB0 := Lib.hid k4
  clear k1 k2 k3 k4
  go_enter Try.func19, Try.ntmps19
  go_upto_region 1 with fail
  generalize (((w.alloc (.cells #[.int .i64 px, .int .i64 py, .int .i64 qx, .int .i64 qy, .int .i64 rx, .int .i64 ry, .int .i64 sx, .int .i64 sy] 25)).alloc (.cells #[.int .i64 t] 2)).alloc (.cells #[.int .i64 0, .int .i64 0] 23)) = w1 at *
  have uT : w1.cell? ⟨w.heap.size + 1, 0, none⟩ = some (.int .i64 t) := HT0.out.c 0 rfl; have rT := HT0.out.z 0
  go_upto_region 2 with fail
  have hT1 : CBox (w.heap.size + 1) 2 #[.int .i64 T] (w1.setCell ⟨w.heap.size + 1, 0, none⟩ (.int .i64 T)) := HT0.out.set 0 (.int .i64 T) (show (0 : Nat) < 1 by decide)
  have HT1 := Lib.hid hT1; have HC1 := Lib.hid (HC0.out.other (q := w.heap.size + 1) (by omega) 0 (.int .i64 T)); have HP1 := Lib.hid (HP0.out.other (q := w.heap.size + 1) (by omega) 0 (.int .i64 T)); have HB1 := Lib.hid (HB0.out.setCell (p := ⟨w.heap.size + 1, 0, none⟩) (Nat.le_succ _) (.int .i64 T))
  clear hT1 HT0 HC0 HP0 HB0 uT rT
  generalize w1.setCell ⟨w.heap.size + 1, 0, none⟩ (.int .i64 T) = w2 at *
  have xC0 : w2.cell? ⟨w.heap.size, 0, none⟩ = some (.int .i64 px) := HC1.out.c 0 rfl
  have xC1 : w2.cell? ⟨w.heap.size, 1, none⟩ = some (.int .i64 py) := HC1.out.c 1 rfl
  have xC2 : w2.cell? ⟨w.heap.size, 2, none⟩ = some (.int .i64 qx) := HC1.out.c 2 rfl
  have xC3 : w2.cell? ⟨w.heap.size, 3, none⟩ = some (.int .i64 qy) := HC1.out.c 3 rfl
  have xC4 : w2.cell? ⟨w.heap.size, 4, none⟩ = some (.int .i64 rx) := HC1.out.c 4 rfl
  have xC5 : w2.cell? ⟨w.heap.size, 5, none⟩ = some (.int .i64 ry) := HC1.out.c 5 rfl
  have xC6 : w2.cell? ⟨w.heap.size, 6, none⟩ = some (.int .i64 sx) := HC1.out.c 6 rfl
  have xC7 : w2.cell? ⟨w.heap.size, 7, none⟩ = some (.int .i64 sy) := HC1.out.c 7 rfl
  go_wp2_with fail
  refine (CO.out _).mono ?_
  rintro e w3 ⟨rfl, b2⟩
  clear xC0 xC1 xC2 xC3 xC4 xC5 xC6 xC7
  have HB2 := Lib.hid (HB1.out.trans (b2.mono HB1.out.size))
  have HP2 := Lib.hid (HP1.out.next b2)
  have HT2 := Lib.hid (HT1.out.next b2)
  clear b2
  go_wp2_with fail
  refine (SP.out _ (by have := HP2.out.lt; omega) (HT2.out.c 0 rfl)).mono ?_
  rintro e w4 ⟨rfl, b3⟩
  have HB3 := Lib.hid (HB2.out.trans (b3.mono HB2.out.size))
  have HP3 := Lib.hid (HP2.out.next b3)
  clear b3
  obtain ⟨k1, k2, k3⟩ := boxes_two w4 #[.int .i64 a0, .int .i64 a1, .int .i64 a2, .int .i64 a3, .int .i64 a4, .int .i64 a5, .int .i64 a6, .int .i64 a7] #[.int .i64 f0, .int .i64 f1, .int .i64 f2, .int .i64 f3, .int .i64 f4, .int .i64 f5, .int .i64 f6, .int .i64 f7] 40 40
  have b4 := k3
  have HB4 := Lib.hid (HB3.out.trans (b4.mono HB3.out.size))
  have HP4 := Lib.hid (HP3.out.next b4)
  clear b4
  have HZ4 := Lib.hid k2
  clear k1 k2 k3
  have g3 : w.heap.size + 1 + 1 < w4.heap.size := HP3.out.lt
  go_upto_region 3 with fail
  generalize ((w4.alloc (.cells #[.int .i64 a0, .int .i64 a1, .int .i64 a2, .int .i64 a3, .int .i64 a4, .int .i64 a5, .int .i64 a6, .int .i64 a7] 40)).alloc (.cells #[.int .i64 f0, .int .i64 f1, .int .i64 f2, .int .i64 f3, .int .i64 f4, .int .i64 f5, .int .i64 f6, .int .i64 f7] 40)) = w5 at *
  generalize w4.heap.size = y at *
  have xZ0 : w5.cell? ⟨y + 1, 0, none⟩ = some (.int .i64 f0) := HZ4.out.c 0 rfl
  have xZ1 : w5.cell? ⟨y + 1, 1, none⟩ = some (.int .i64 f1) := HZ4.out.c 1 rfl
  have xP0 : w5.cell? ⟨w.heap.size + 1 + 1, 0, none⟩ = some (.int .i64 0) := HP4.out.c 0 rfl
  have xP1 : w5.cell? ⟨w.heap.size + 1 + 1, 1, none⟩ = some (.int .i64 0) := HP4.out.c 1 rfl
  have rP0 := HP4.out.z 0; have rP1 := HP4.out.z 1
  go_wp2_with fail
  exact pe_ret Try.results19 (PBox.set HP4.out _ _) (below_pt8 HB4.out (by omega) _ _) rfl
end Go.Proofs.Ytainocdbapnaaaa
