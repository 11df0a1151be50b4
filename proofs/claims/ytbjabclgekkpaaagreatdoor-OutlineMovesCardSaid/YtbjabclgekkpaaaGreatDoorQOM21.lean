/- Joined: NormTake, NormIn, NormKept, NormRight, NormRightL, FlatIter. -/
import Derived.Test.YtbjabclgekkpaaaGreatDoorQOM01
import Derived.Test.YtbjabclgekkpaaaGreatDoorQOM02
import Derived.Test.YtbjabclgekkpaaaGreatDoorQOM07
import Derived.Test.YtbjabclgekkpaaaGreatDoorQOM20
import Derived.Deep.WholeRow
import Derived.Laws.Tables
import Derived.RangeFuncLeaves
import Derived.StillTailTactics
namespace Go.Proofs.YtbjabclgekkpaaaGreatDoor
open Go.RowKit Go.Shelf
theorem capital_any (c : Nat) (h : cntL c ≠ 99) (w : World) : Calls Tryz.prog 51 #[.int .u8 (c : Int)] w fun e w' => e = .returned (.int .u8 (capL c : Int)) ∧ w = w' := by
  have hlt : c < 256 := by unfold cntL at h; repeat (first | (split at h; omega) | omega)
  have e1 : bits BinOp.andNot IntKind.u8 (c : Int) 32 = (capL c : Int) := by
    have : ∀ c : Fin 256, cntL c.val ≠ 99 → bits BinOp.andNot IntKind.u8 ((c.val : Nat) : Int) 32 = (capL c.val : Int) := by decide +kernel
    exact this ⟨c, hlt⟩ h
  go_enter Tryz.func51, Tryz.ntmps51
  go_wp2_with fail
  go_ret
  exact ⟨rfl, rfl⟩
theorem cap_small {c : Nat} (h : cntL c ≠ 99) : (97 ≤ c → capL c ≠ c) ∧ (¬ 97 ≤ c → capL c = c) := by
  have hlt : c < 256 := by unfold cntL at h; repeat (first | (split at h; omega) | omega)
  have : ∀ c : Fin 256, cntL c.val ≠ 99 → (97 ≤ c.val → capL c.val ≠ c.val) ∧ (¬ 97 ≤ c.val → capL c.val = c.val) := by decide +kernel
  exact this ⟨c, hlt⟩ h
def tabV : Array Value := #[.func (.func 99) #[] #[], .nilFunc, .func (.func 95) #[] #[], .nilFunc, .nilFunc, .nilFunc, .nilFunc, .func (.func 93) #[] #[], .nilFunc, .nilFunc, .nilFunc, .func (.func 92) #[] #[], .func (.func 91) #[] #[], .nilFunc, .nilFunc, .nilFunc, .func (.func 97) #[] #[], .nilFunc, .func (.func 96) #[] #[], .func (.func 98) #[] #[], .nilFunc, .func (.func 94) #[] #[], .nilFunc, .nilFunc, .nilFunc, .func (.func 100) #[] #[]]
def nilV : Array Value := #[.nilFunc, .nilFunc, .nilFunc, .nilFunc, .nilFunc, .nilFunc, .nilFunc, .nilFunc, .nilFunc, .nilFunc, .nilFunc, .nilFunc, .nilFunc, .nilFunc, .nilFunc, .nilFunc, .nilFunc, .nilFunc, .nilFunc, .nilFunc, .nilFunc, .nilFunc, .nilFunc, .nilFunc, .nilFunc, .nilFunc]
set_option maxRecDepth 100000 in
theorem steps_any7 (w : World) : Calls Tryz.prog 49 #[] w fun e w' => e = .returned (.agg tabV) ∧ Below w.heap.size w w' := by
  go_enter Tryz.func49, Tryz.ntmps49
  go_wp2_with (refine wpList_store_row (by rfl) 109 (.tmp 0) (.tmp 1) (by rfl) w.heap.size tabV (by rfl) (by rfl) 109 nilV (World.alloc_heap_new w _) (by kernel_rfl) (by rfl) (by kernel_rfl) ?_)
  have b0 := (Below.refl w.heap.size w).alloc (Nat.le_refl _) (.cells tabV 109)
  have e : (w.alloc (.cells nilV 109)).setRow w.heap.size tabV = w.alloc (.cells tabV 109) := World.setRow_alloc_new _ _ _ _
  have ld := run_loadVar_new (P := Tryz.prog) w 109 tabV 26 108 (by kernel_rfl) (by kernel_rfl)
  refine bodyPost_ret (v := .agg tabV) ?_ rfl ⟨rfl, ?_⟩
  · show Sem.run Tryz.prog _ ((w.alloc (.cells nilV 109)).setRow w.heap.size tabV) = .ok _ ((w.alloc (.cells nilV 109)).setRow w.heap.size tabV)
    rw [e]
    exact results_cell_row Tryz.results49 _ _ w.heap.size _ tabV (0, 0) (.array 26 108) rfl (World.alloc_heap_new w _) (by kernel_rfl) (by kernel_rfl) (by kernel_rfl)
  · show Below w.heap.size w ((w.alloc (.cells nilV 109)).setRow w.heap.size tabV)
    rw [e]; exact b0
/-- A command's block: its letter and its numbers. -/
def BoxC7 (n c : Nat) (v : Value) (w : World) : Prop := w.heap[n]? = some (.cells #[.int .u8 (c : Int), v] 95)
theorem BoxC7.c0 {n c : Nat} {v : Value} {w : World} (h : BoxC7 n c v w) : w.cell? ⟨n, 0, none⟩ = some (.int .u8 (c : Int)) := by unfold BoxC7 at h; simp [World.cell?, h]
theorem BoxC7.c1 {n c : Nat} {v : Value} {w : World} (h : BoxC7 n c v w) : w.cell? ⟨n, 1, none⟩ = some v := by unfold BoxC7 at h; simp [World.cell?, h]
theorem BoxC7.lt {n c : Nat} {v : Value} {w : World} (h : BoxC7 n c v w) : n < w.heap.size := by unfold BoxC7 at h; exact (Array.getElem?_eq_some_iff.1 h).1
theorem BoxC7.next {n c : Nat} {v : Value} {w w' : World} (h : BoxC7 n c v w) (t : Below w.heap.size w w') : BoxC7 n c v w' := by
  have := h.lt
  unfold BoxC7 at *; rw [t.block n this]; exact h
theorem BoxC7.other {n c q : Nat} {v u : Value} {w : World} (h : BoxC7 n c v w) (hn : n ≠ q) (o : Nat) : BoxC7 n c v (w.setCell ⟨q, o, none⟩ u) := by
  unfold BoxC7 at *; rw [Below.heap_setCell _ _ _ _ (by exact hn)]; exact h
theorem ArgsAt.next {q : Nat} {a : Option Addr} {zs : List Int} {w w' : World} {B : Nat} (h : ArgsAt q a zs w) (t : Below B w w') (hB : q ≤ B) : ArgsAt q a zs w' := by
  rcases h with h | ⟨b, off, h1, h2, h3⟩
  · exact .inl h
  · exact .inr ⟨b, off, h1, h2, fun i hi => (t.cell (p := ⟨b, off + i, none⟩) (by exact Nat.lt_of_lt_of_le h2 hB)).trans (h3 i hi)⟩
theorem org_ok {s : NS} (h : NOk s) (c : Nat) : NOk (orgM s c) := by
  have z : In32 0 := ⟨by decide, by decide⟩
  refine ⟨h.px, h.py, h.qx, h.qy, ?_, ?_, h.last⟩
  · show In32 (if 97 ≤ c then s.px else 0); split; exact h.px; exact z
  · show In32 (if 97 ≤ c then s.py else 0); split; exact h.py; exact z
theorem StAt.sets67 {q : Nat} {v : Value} {s s' : NS} {w : World} (h : StAt q v s w) (h1 : s'.px = s.px) (h2 : s'.py = s.py) (h3 : s'.qx = s.qx) (h4 : s'.qy = s.qy) (h5 : s'.op = s.op) :
    StAt q v s' ((w.setCell ⟨q, 6, none⟩ (.int .i64 s'.ox)).setCell ⟨q, 7, none⟩ (.int .i64 s'.oy)) := by
  unfold StAt at *
  simp only [World.setCell, Array.getElem?_modify, h, h1, h2, h3, h4, h5]
  simp
/-- What take asks of a function of the table. -/
def Taken (f L n : Nat) : Prop := StepOk f L n ∧ ∀ args w, (callFunc f args).run Tryz.prog w = .ok (.enter f args) w
set_option maxHeartbeats 8000000 in
set_option maxRecDepth 100000 in
theorem take_any7 (f n : Nat) (q R : Nat) (v : Value) (s : NS) (c : Nat) (a : Option Addr) (cap : Nat) (zs : List Int) (w : World) (hf : Taken f (capL c) n) (H : StAt q v s w) (hr : Segs R v s.out w) (hqR : q < R) (hR : R ≤ w.heap.size) (hl : s.out.length ≤ 10000000) (ok : NOk s)
    (hz : zs.length = n) (hA : ∀ i, In32 (nA zs i)) (hI : ArgsAt q a zs w) (hc : cntL c ≠ 99) (hne : capL c ≠ 77 → s.out ≠ []) (hcap : n ≤ cap) :
    Calls Tryz.prog 50 #[.pointer (some ⟨q, 0, none⟩), .agg #[.int .u8 (c : Int), .slice a n cap], .func (.func f) #[] #[]] w (NPost q R (stepM (capL c) (orgM s c) zs) w) := by
  have hnq : w.heap.size ≠ q := fun e => by have := H.lt; omega
  obtain ⟨a0, cap0, rfl⟩ := hr.shape
  obtain ⟨s0, hs0⟩ : ∃ s0 : NS, s0 = ⟨s.out, s.px, s.py, s.qx, s.qy, s.op, 0, 0⟩ := ⟨_, rfl⟩
  have H0 := H.sets67 (s' := s0) (by rw [hs0]) (by rw [hs0]) (by rw [hs0]) (by rw [hs0]) (by rw [hs0])
  rw [show s0.ox = 0 by rw [hs0], show s0.oy = 0 by rw [hs0]] at H0
  have no := H.not_own hr
  have R0 := (hr.set no 6 (.int .i64 0)).set no 7 (.int .i64 0)
  have K0 := ((KepS.refl q w).set 6 (.int .i64 0)).set 7 (.int .i64 0)
  have A0 := hI.next (K0.below (Nat.le_of_lt H.lt)) (Nat.le_refl _)
  have b0 := (Below.refl ((w.setCell ⟨q, 6, none⟩ (.int .i64 0)).setCell ⟨q, 7, none⟩ (.int .i64 0)).heap.size _).alloc (Nat.le_refl _) (.cells #[.int .u8 (c : Int), .slice a n cap] 95)
  have hsz : ((w.setCell ⟨q, 6, none⟩ (.int .i64 0)).setCell ⟨q, 7, none⟩ (.int .i64 0)).heap.size = w.heap.size := by simp [World.setCell]
  have P : BoxC7 w.heap.size c (.slice a n cap) (((w.setCell ⟨q, 6, none⟩ (.int .i64 0)).setCell ⟨q, 7, none⟩ (.int .i64 0)).alloc (.cells #[.int .u8 (c : Int), .slice a n cap] 95)) := by
    have := World.alloc_heap_new ((w.setCell ⟨q, 6, none⟩ (.int .i64 0)).setCell ⟨q, 7, none⟩ (.int .i64 0)) (.cells #[.int .u8 (c : Int), .slice a n cap] 95)
    rw [hsz] at this; exact this
  have HS := Lib.hid (H0.next b0)
  have HR := Lib.hid (R0.next b0)
  have HP := Lib.hid P
  have HK := Lib.hid (K0.trans (KepS.of_below b0))
  have HA := Lib.hid (A0.next b0 (by rw [hsz]; exact Nat.le_of_lt H.lt))
  have HC := Lib.hid (fun w => capital_any c hc w)
  have HF := Lib.hid hf.1
  have ef := hf.2
  have OK := Lib.hid (org_ok ok c)
  have k6 := H.c6
  have k7 := H.c7
  have z6 := H.z 6
  have z7 := H.z 7
  have hq0 := H.lt
  have hsm := cap_small hc
  clear b0 P H hr hI hf ok no R0 K0 A0 H0 hsz
  go_enter Tryz.func50, Tryz.ntmps50
  go_wp2_with fail
  generalize hW1 : ((w.setCell ⟨q, 6, none⟩ (.int .i64 0)).setCell ⟨q, 7, none⟩ (.int .i64 0)).alloc (.cells #[.int .u8 (c : Int), .slice a n cap] 95) = W1 at *
  have c0 := HP.out.c0
  have hn1 : w.heap.size < W1.heap.size := HP.out.lt
  by_cases h97 : 97 ≤ c
  · have hb : ((c : Int) != (capL c : Int)) = true := by rw [bne_iff_ne]; intro e; exact hsm.1 h97 (by omega)
    obtain ⟨sO, hsO⟩ : ∃ sO, sO = orgM s c := ⟨_, rfl⟩
    have e1 : sO.ox = s.px := by rw [hsO]; show (if 97 ≤ c then s.px else 0) = s.px; rw [if_pos h97]
    have e2 : sO.oy = s.py := by rw [hsO]; show (if 97 ≤ c then s.py else 0) = s.py; rw [if_pos h97]
    go_quiet (first | (go_at_call 51; exact Calls.quiet_of_same ((HC.out _).mono (fun e w2 h => ⟨h.1, h.2.symm⟩))))
    have d := drewq W1 nq
    have S2 := Lib.hid (HS.out.next d)
    have R2 := Lib.hid (HR.out.next d)
    have P2 := Lib.hid (HP.out.next d)
    have K2 := Lib.hid (HK.out.trans (KepS.of_below d))
    have A2 := Lib.hid (HA.out.next d (by omega))
    have hs2 : w.heap.size < (W1.drewN nq).heap.size := P2.out.lt
    generalize W1.drewN nq = W2 at *
    have q1 := S2.out.c1
    have q2 := S2.out.c2
    have q6 := S2.out.c6
    have q7 := S2.out.c7
    have y6 := S2.out.z 6
    have y7 := S2.out.z 7
    rw [show s0.px = s.px by rw [hs0]] at q1
    rw [show s0.py = s.py by rw [hs0]] at q2
    have S3 := S2.out.sets67 (s' := sO) (by rw [hs0, hsO]; rfl) (by rw [hs0, hsO]; rfl) (by rw [hs0, hsO]; rfl) (by rw [hs0, hsO]; rfl) (by rw [hs0, hsO]; rfl)
    rw [e1, e2] at S3
    have no2 := S2.out.not_own R2.out
    have R3 := (R2.out.set no2 6 (.int .i64 s.px)).set no2 7 (.int .i64 s.py)
    have P3 := (P2.out.other hnq 6 (u := .int .i64 s.px)).other hnq 7 (u := .int .i64 s.py)
    have K3 := (K2.out.set 6 (.int .i64 s.px)).set 7 (.int .i64 s.py)
    have A3 := A2.out.next (((KepS.refl q W2).set 6 (.int .i64 s.px)).set 7 (.int .i64 s.py) |>.below (by omega)) (Nat.le_refl _)
    have f1 := P3.c1
    have HF2 := Lib.hid (HF.out q R _ sO a cap zs _ S3 (by rw [hsO]; exact R3) hqR (by have := K3.size; omega) (by rw [hsO]; exact hl) (by rw [hsO]; exact OK.out) hz hA A3 (fun h => by rw [hsO]; exact hne h) hcap)
    have KK := Lib.hid K3
    rw [hsO] at HF2
    clear d HS HR HP HK HA S2 R2 P2 K2 A2 S3 R3 P3 K3 A3 HF HC OK k6 k7 z6 z7 hsm hsO e1 e2
    go_wp2_with fail
    refine HF2.out.mono ?_
    rintro e wF ⟨rfl, h1, h2⟩
    have FIN := Lib.hid (show NPost q R (stepM (capL c) (orgM s c) zs) w (.returned (.tuple #[])) wF from ⟨rfl, h1, KK.out.trans h2⟩)
    clear h1 h2
    go_wp2_with fail
    go_end0
    exact FIN.out
  · have hb : ((c : Int) != (capL c : Int)) = false := by rw [hsm.2 h97]; simp
    have hsO : s0 = orgM s c := by rw [hs0]; unfold orgM; rw [if_neg h97, if_neg h97]
    go_quiet (first | (go_at_call 51; exact Calls.quiet_of_same ((HC.out _).mono (fun e w2 h => ⟨h.1, h.2.symm⟩))))
    have d := drewq W1 nq
    have S2 := HS.out.next d
    have R2 := HR.out.next d
    have P2 := HP.out.next d
    have K2 := HK.out.trans (KepS.of_below d)
    have A2 := HA.out.next d (by omega)
    have hs2 : w.heap.size < (W1.drewN nq).heap.size := P2.lt
    generalize W1.drewN nq = W2 at *
    have f1 := P2.c1
    have HF2 := Lib.hid (HF.out q R _ s0 a cap zs _ S2 (by rw [hs0]; exact R2) hqR (by omega) (by rw [hs0]; exact hl) (by rw [hsO]; exact OK.out) hz hA A2 (fun h => by rw [hs0]; exact hne h) hcap)
    have KK := Lib.hid K2
    rw [hsO] at HF2
    clear d HS HR HP HK HA S2 R2 P2 K2 A2 HF HC OK k6 k7 z6 z7 hsm hsO
    go_wp2_with fail
    refine HF2.out.mono ?_
    rintro e wF ⟨rfl, h1, h2⟩
    have FIN := Lib.hid (show NPost q R (stepM (capL c) (orgM s c) zs) w (.returned (.tuple #[])) wF from ⟨rfl, h1, KK.out.trans h2⟩)
    clear h1 h2
    go_wp2_with fail
    go_end0
    exact FIN.out
end Go.Proofs.YtbjabclgekkpaaaGreatDoor
namespace Go.Proofs.YtbjabclgekkpaaaGreatDoor
open Go.RowKit Go.Shelf
theorem wi_in (n : Int) : wiB 4294967296 n = decide (In32 n) := by
  unfold wiB In32
  exact decide_eq_decide.2 ⟨fun h => ⟨h.2, h.1⟩, fun h => ⟨h.2, h.1⟩⟩
theorem in_list (g : Seg) : [g.tx, g.ty, g.ax, g.ay, g.cx, g.cy, g.rx, g.ry, g.turn].all (wiB 4294967296) = decide (inB g) := by
  simp only [List.all_cons, List.all_nil, wi_in, Bool.and_true]
  rw [Bool.eq_iff_iff]
  simp only [Bool.and_eq_true, decide_eq_true_eq]
  unfold inB
  exact Iff.rfl
/-- The segment's numbers are such as may lie in memory. -/
def SegI (g : Seg) : Prop := I64 g.kind ∧ I64 g.tx ∧ I64 g.ty ∧ I64 g.ax ∧ I64 g.ay ∧ I64 g.cx ∧ I64 g.cy ∧ I64 g.rx ∧ I64 g.ry ∧ I64 g.turn
set_option maxHeartbeats 4000000 in
set_option maxRecDepth 100000 in
theorem inBound_any (g : Seg) (w : World) (hg : SegI g) : Calls Tryz.prog 52 #[g.val] w fun e w' => e = .returned (.bool (decide (inB g))) ∧ Below w.heap.size w w' := by
  obtain ⟨_, h1, h2, h3, h4, h5, h6, h7, h8, h9⟩ := hg
  have HZ : ∀ z ∈ [g.tx, g.ty, g.ax, g.ay, g.cx, g.cy, g.rx, g.ry, g.turn], I64 z := by
    intro z hz
    simp only [List.mem_cons, List.not_mem_nil, or_false] at hz
    rcases hz with rfl | rfl | rfl | rfl | rfl | rfl | rfl | rfl | rfl <;> assumption
  have hl9 : [g.tx, g.ty, g.ax, g.ay, g.cx, g.cy, g.rx, g.ry, g.turn].length = 9 := rfl
  have WI := Lib.hid (show ∀ (w : World) (n : Nat), IntsK .i64 (some ⟨n, 0, none⟩) [g.tx, g.ty, g.ax, g.ay, g.cx, g.cy, g.rx, g.ry, g.turn] w → Calls Tryz.prog 54 #[.int .i64 4294967296, .slice (some ⟨n, 0, none⟩) 9 9] w fun e w' => e = .returned (.bool (decide (inB g))) ∧ w = w' from fun w n h => by
    have := within_any 4294967296 (some ⟨n, 0, none⟩) [g.tx, g.ty, g.ax, g.ay, g.cx, g.cy, g.rx, g.ry, g.turn] 9 w ⟨by omega, by omega⟩ HZ (by rw [hl9]; unfold maxLen; omega) h
    rw [in_list, hl9] at this; exact this)
  generalize hd : decide (inB g) = d at *
  clear h1 h2 h3 h4 h5 h6 h7 h8 h9 HZ hd hl9
  unfold Seg.val
  go_enter Tryz.func52, Tryz.ntmps52
  go_wp2_with fail
  have b1 := (Below.refl w.heap.size w).alloc (Nat.le_refl _) (.cells #[.int .i64 g.kind, .int .i64 g.tx, .int .i64 g.ty, .int .i64 g.ax, .int .i64 g.ay, .int .i64 g.cx, .int .i64 g.cy, .int .i64 g.rx, .int .i64 g.ry, .int .i64 g.turn, .bool g.lg, .bool g.sw] 51)
  have hs1 : (w.alloc (.cells #[.int .i64 g.kind, .int .i64 g.tx, .int .i64 g.ty, .int .i64 g.ax, .int .i64 g.ay, .int .i64 g.cx, .int .i64 g.cy, .int .i64 g.rx, .int .i64 g.ry, .int .i64 g.turn, .bool g.lg, .bool g.sw] 51)).heap.size = w.heap.size + 1 := by simp
  generalize w.alloc (.cells #[.int .i64 g.kind, .int .i64 g.tx, .int .i64 g.ty, .int .i64 g.ax, .int .i64 g.ay, .int .i64 g.cx, .int .i64 g.cy, .int .i64 g.rx, .int .i64 g.ry, .int .i64 g.turn, .bool g.lg, .bool g.sw] 51) = W1 at *
  have b2 := b1.alloc b1.size (.cells #[.int .i64 g.tx, .int .i64 g.ty, .int .i64 g.ax, .int .i64 g.ay, .int .i64 g.cx, .int .i64 g.cy, .int .i64 g.rx, .int .i64 g.ry, .int .i64 g.turn] 2)
  have hn := World.alloc_heap_new W1 (.cells #[.int .i64 g.tx, .int .i64 g.ty, .int .i64 g.ax, .int .i64 g.ay, .int .i64 g.cx, .int .i64 g.cy, .int .i64 g.rx, .int .i64 g.ry, .int .i64 g.turn] 2)
  have HI : IntsK .i64 (some ⟨w.heap.size + 1, 0, none⟩) [g.tx, g.ty, g.ax, g.ay, g.cx, g.cy, g.rx, g.ry, g.turn] (W1.alloc (.cells #[.int .i64 g.tx, .int .i64 g.ty, .int .i64 g.ax, .int .i64 g.ay, .int .i64 g.cx, .int .i64 g.cy, .int .i64 g.rx, .int .i64 g.ry, .int .i64 g.turn] 2)) := by
    rw [hs1] at hn
    refine Or.inr ⟨w.heap.size + 1, 0, rfl, by simp; omega, fun i hi => ?_⟩
    rw [Nat.zero_add]
    unfold World.cell?
    rw [hn]
    have hi' : i < 9 := hi
    match i, hi' with
    | 0, _ => rfl
    | 1, _ => rfl
    | 2, _ => rfl
    | 3, _ => rfl
    | 4, _ => rfl
    | 5, _ => rfl
    | 6, _ => rfl
    | 7, _ => rfl
    | 8, _ => rfl
  refine (WI.out _ _ HI).mono ?_
  rintro e w3 ⟨rfl, rfl⟩
  clear HI hn WI
  go_wp2_with fail
  go_ret
  exact ⟨rfl, b2⟩
end Go.Proofs.YtbjabclgekkpaaaGreatDoor
namespace Go.Proofs.YtbjabclgekkpaaaGreatDoor
open Go.RowKit Go.Shelf
theorem kept_done {f : Func} (hres : f.results = #[ResultVar.cell 2 51]) (w : World) (a : Array Value) (g : Seg) {ts : Array Value} (hts : ts[2]? = some (.pointer (some ⟨w.heap.size + 1, 0, none⟩))) :
    bodyPost Tryz.prog f (fun e w' => e = .returned g.val ∧ Below w.heap.size w w') .ret { tmps := ts, defers := [] } ((w.alloc (.cells a 51)).alloc (.cells g.cells.toArray 51)) := by
  have b1 := (Below.refl w.heap.size w).alloc (Nat.le_refl _) (.cells a 51)
  generalize hA : w.alloc (.cells a 51) = A at *
  have sA : A.heap.size = w.heap.size + 1 := by rw [← hA]; simp
  have p1 : BoxS A.heap.size g (A.alloc (.cells g.cells.toArray 51)) := World.alloc_heap_new A _
  rw [sA] at p1
  exact seg_close hres (SegAt.of_block p1) (b1.alloc b1.size _) hts
set_option maxHeartbeats 8000000 in
set_option maxRecDepth 100000 in
theorem kept_any (g : Seg) (w : World) : Calls Tryz.prog 101 #[g.val] w fun e w' => e = .returned (keptS g).val ∧ Below w.heap.size w w' := by
  obtain ⟨k, tx, ty, ax, ay, cx, cy, rx, ry, tu, lg, sw⟩ := g
  unfold keptS
  dsimp only
  unfold Seg.val
  by_cases h3 : k = 3
  · subst h3
    rw [if_pos rfl]
    go_enter Tryz.func101, Tryz.ntmps101
    go_wp2_with fail
    exact kept_done Tryz.results101 w _ ⟨3, tx, ty, ax, ay, cx, cy, 0, 0, 0, false, false⟩ rfl
  · have e3 : (k == 3) = false := by rw [beq_eq_false_iff_ne]; exact h3
    rw [if_neg h3]
    by_cases h4 : k = 4
    · subst h4
      rw [if_pos rfl]
      go_enter Tryz.func101, Tryz.ntmps101
      go_wp2_with fail
      exact kept_done Tryz.results101 w _ ⟨4, tx, ty, ax, ay, 0, 0, 0, 0, 0, false, false⟩ rfl
    · have e4 : (k == 4) = false := by rw [beq_eq_false_iff_ne]; exact h4
      rw [if_neg h4]
      by_cases h5 : k = 5
      · subst h5
        rw [if_pos rfl]
        go_enter Tryz.func101, Tryz.ntmps101
        go_wp2_with fail
        exact kept_done Tryz.results101 w _ ⟨5, tx, ty, 0, 0, 0, 0, rx, ry, tu, lg, sw⟩ rfl
      · have e5 : (k == 5) = false := by rw [beq_eq_false_iff_ne]; exact h5
        rw [if_neg h5]
        go_enter Tryz.func101, Tryz.ntmps101
        go_wp2_with fail
        exact kept_done Tryz.results101 w _ ⟨k, tx, ty, 0, 0, 0, 0, 0, 0, 0, false, false⟩ rfl
end Go.Proofs.YtbjabclgekkpaaaGreatDoor
namespace Go.Proofs.YtbjabclgekkpaaaGreatDoor
open Go.RowKit Go.Shelf
theorem kept_head (g : Seg) : ∃ ax ay cx cy rx ry tu lg sw, keptS g = ⟨g.kind, g.tx, g.ty, ax, ay, cx, cy, rx, ry, tu, lg, sw⟩ := by
  unfold keptS
  split
  · exact ⟨_, _, _, _, _, _, _, _, _, rfl⟩
  · split
    · exact ⟨_, _, _, _, _, _, _, _, _, rfl⟩
    · split <;> exact ⟨_, _, _, _, _, _, _, _, _, rfl⟩
theorem ifs9 {α : Type} {p1 p2 p3 p4 p5 p6 p7 p8 p9 : Prop} [Decidable p1] [Decidable p2] [Decidable p3] [Decidable p4] [Decidable p5] [Decidable p6] [Decidable p7] [Decidable p8] [Decidable p9] (r1 r0 : α) :
    (if p1 then if p2 then if p3 then if p4 then if p5 then if p6 then if p7 then if p8 then if p9 then r1 else r0 else r0 else r0 else r0 else r0 else r0 else r0 else r0 else r0) = if p1 ∧ p2 ∧ p3 ∧ p4 ∧ p5 ∧ p6 ∧ p7 ∧ p8 ∧ p9 then r1 else r0 := by
  by_cases h1 : p1 <;> by_cases h2 : p2 <;> by_cases h3 : p3 <;> by_cases h4 : p4 <;> by_cases h5 : p5 <;> by_cases h6 : p6 <;> by_cases h7 : p7 <;> by_cases h8 : p8 <;> by_cases h9 : p9 <;> simp [h1, h2, h3, h4, h5, h6, h7, h8, h9]
attribute [local go_sem] ifs9
set_option maxHeartbeats 16000000 in
set_option maxRecDepth 100000 in
theorem alone_any (g : Seg) (w : World) (hg : SegI g) (r : Bool) (hr : r = true ↔ aloneP g) :
    Calls Tryz.prog 55 #[g.val] w fun e w' => e = .returned (.bool r) ∧ Below w.heap.size w w' := by
  obtain ⟨axk, ayk, cxk, cyk, rxk, ryk, tuk, lgk, swk, hk⟩ := kept_head g
  unfold aloneP at hr
  rw [hk] at hr
  obtain ⟨k, tx, ty, ax, ay, cx, cy, rx, ry, tu, lg, sw⟩ := g
  dsimp only at hr hk
  have IB := Lib.hid (show ∀ w, Calls Tryz.prog 52 #[.agg #[.int .i64 k, .int .i64 tx, .int .i64 ty, .int .i64 ax, .int .i64 ay, .int .i64 cx, .int .i64 cy, .int .i64 rx, .int .i64 ry, .int .i64 tu, .bool lg, .bool sw]] w fun e w' => e = .returned (.bool (decide (inB ⟨k, tx, ty, ax, ay, cx, cy, rx, ry, tu, lg, sw⟩))) ∧ Below w.heap.size w w' from fun w => inBound_any ⟨k, tx, ty, ax, ay, cx, cy, rx, ry, tu, lg, sw⟩ w hg)
  have KP := Lib.hid (show ∀ w, Calls Tryz.prog 101 #[.agg #[.int .i64 k, .int .i64 tx, .int .i64 ty, .int .i64 ax, .int .i64 ay, .int .i64 cx, .int .i64 cy, .int .i64 rx, .int .i64 ry, .int .i64 tu, .bool lg, .bool sw]] w fun e w' => e = .returned (.agg #[.int .i64 k, .int .i64 tx, .int .i64 ty, .int .i64 axk, .int .i64 ayk, .int .i64 cxk, .int .i64 cyk, .int .i64 rxk, .int .i64 ryk, .int .i64 tuk, .bool lgk, .bool swk]) ∧ Below w.heap.size w w' from fun w => by have h := kept_any ⟨k, tx, ty, ax, ay, cx, cy, rx, ry, tu, lg, sw⟩ w; rw [hk] at h; exact h)
  have HB1 := Lib.hid ((Below.refl w.heap.size w).alloc (Nat.le_refl _) (.cells #[.int .i64 k, .int .i64 tx, .int .i64 ty, .int .i64 ax, .int .i64 ay, .int .i64 cx, .int .i64 cy, .int .i64 rx, .int .i64 ry, .int .i64 tu, .bool lg, .bool sw] 51))
  have HP1 : Hid (BoxS w.heap.size ⟨k, tx, ty, ax, ay, cx, cy, rx, ry, tu, lg, sw⟩ (w.alloc (.cells #[.int .i64 k, .int .i64 tx, .int .i64 ty, .int .i64 ax, .int .i64 ay, .int .i64 cx, .int .i64 cy, .int .i64 rx, .int .i64 ry, .int .i64 tu, .bool lg, .bool sw] 51))) := Lib.hid (World.alloc_heap_new w _)
  clear hk hg
  show Calls Tryz.prog 55 #[.agg #[.int .i64 k, .int .i64 tx, .int .i64 ty, .int .i64 ax, .int .i64 ay, .int .i64 cx, .int .i64 cy, .int .i64 rx, .int .i64 ry, .int .i64 tu, .bool lg, .bool sw]] w _
  by_cases h1 : 1 ≤ k
  · by_cases h2 : k ≤ 6
    by_cases hK : ax = axk ∧ ay = ayk ∧ cx = cxk ∧ cy = cyk ∧ rx = rxk ∧ ry = ryk ∧ tu = tuk ∧ lg = lgk ∧ sw = swk
    · obtain ⟨rfl, rfl, rfl, rfl, rfl, rfl, rfl, rfl, rfl⟩ := hK
      have hE : ∀ g h : Seg, g = h → (g = h) = True := fun _ _ h => eq_true h
      by_cases h4 : inB ⟨k, tx, ty, ax, ay, cx, cy, rx, ry, tu, lg, sw⟩
      · have h4' : decide (inB ⟨k, tx, ty, ax, ay, cx, cy, rx, ry, tu, lg, sw⟩) = true := decide_eq_true h4
        rw [h4'] at IB
        by_cases h5 : 0 ≤ rx
        · by_cases h6 : 0 ≤ ry
          · obtain rfl : r = true := hr.2 ⟨h1, h2, rfl, h4, h5, h6⟩
            clear hr h4 h4' hE
            go_enter Tryz.func55, Tryz.ntmps55
            go_wp2_with fail
            generalize hW1 : w.alloc (.cells #[.int .i64 k, .int .i64 tx, .int .i64 ty, .int .i64 ax, .int .i64 ay, .int .i64 cx, .int .i64 cy, .int .i64 rx, .int .i64 ry, .int .i64 tu, .bool lg, .bool sw] 51) = W1 at *
            have q1 := (SegAt.of_block HP1.out)
            have x0 : W1.cell? ⟨w.heap.size, 0, none⟩ = some (.int .i64 k) := q1.c0
            have x1 : W1.cell? ⟨w.heap.size, 1, none⟩ = some (.int .i64 tx) := q1.c1
            have x2 : W1.cell? ⟨w.heap.size, 2, none⟩ = some (.int .i64 ty) := q1.c2
            have x3 : W1.cell? ⟨w.heap.size, 3, none⟩ = some (.int .i64 ax) := q1.c3
            have x4 : W1.cell? ⟨w.heap.size, 4, none⟩ = some (.int .i64 ay) := q1.c4
            have x5 : W1.cell? ⟨w.heap.size, 5, none⟩ = some (.int .i64 cx) := q1.c5
            have x6 : W1.cell? ⟨w.heap.size, 6, none⟩ = some (.int .i64 cy) := q1.c6
            have x7 : W1.cell? ⟨w.heap.size, 7, none⟩ = some (.int .i64 rx) := q1.c7
            have x8 : W1.cell? ⟨w.heap.size, 8, none⟩ = some (.int .i64 ry) := q1.c8
            have x9 : W1.cell? ⟨w.heap.size, 9, none⟩ = some (.int .i64 tu) := q1.c9
            have x10 : W1.cell? ⟨w.heap.size, 10, none⟩ = some (.bool lg) := q1.c10
            have x11 : W1.cell? ⟨w.heap.size, 11, none⟩ = some (.bool sw) := q1.c11
            clear q1 hW1
            have HPd : Hid (BoxS w.heap.size ⟨k, tx, ty, ax, ay, cx, cy, rx, ry, tu, lg, sw⟩ W1.drew) := Lib.hid HP1.out
            have HBd := Lib.hid HB1.out.drew
            go_region_held3 (fun w' => w'.cell? ⟨w.heap.size, 0, none⟩ = some (.int .i64 k) ∧ w'.cell? ⟨w.heap.size, 1, none⟩ = some (.int .i64 tx) ∧ w'.cell? ⟨w.heap.size, 2, none⟩ = some (.int .i64 ty) ∧ w'.cell? ⟨w.heap.size, 3, none⟩ = some (.int .i64 ax) ∧ w'.cell? ⟨w.heap.size, 4, none⟩ = some (.int .i64 ay) ∧ w'.cell? ⟨w.heap.size, 5, none⟩ = some (.int .i64 cx) ∧ w'.cell? ⟨w.heap.size, 6, none⟩ = some (.int .i64 cy) ∧ w'.cell? ⟨w.heap.size, 7, none⟩ = some (.int .i64 rx) ∧ w'.cell? ⟨w.heap.size, 8, none⟩ = some (.int .i64 ry) ∧ w'.cell? ⟨w.heap.size, 9, none⟩ = some (.int .i64 tu) ∧ w'.cell? ⟨w.heap.size, 10, none⟩ = some (.bool lg) ∧ w'.cell? ⟨w.heap.size, 11, none⟩ = some (.bool sw)) (first | (simp [go_sem, *]; done) | (exact ⟨by assumption, by assumption, by assumption, by assumption, by assumption, by assumption, by assumption, by assumption, by assumption, by assumption, by assumption, by assumption⟩))
              (first | (go_at_call 101; (with_reducible refine (KP.out _).mono ?_); rintro e w2 ⟨rfl, b2⟩; have HB2 := Lib.hid (HBd.out.trans (b2.mono HBd.out.size)); have p2 := HPd.out.next b2; have HP2 := Lib.hid p2; have q2 := (SegAt.of_block p2); have y0 : w2.cell? ⟨w.heap.size, 0, none⟩ = some (.int .i64 k) := q2.c0; have y1 : w2.cell? ⟨w.heap.size, 1, none⟩ = some (.int .i64 tx) := q2.c1; have y2 : w2.cell? ⟨w.heap.size, 2, none⟩ = some (.int .i64 ty) := q2.c2; have y3 : w2.cell? ⟨w.heap.size, 3, none⟩ = some (.int .i64 ax) := q2.c3; have y4 : w2.cell? ⟨w.heap.size, 4, none⟩ = some (.int .i64 ay) := q2.c4; have y5 : w2.cell? ⟨w.heap.size, 5, none⟩ = some (.int .i64 cx) := q2.c5; have y6 : w2.cell? ⟨w.heap.size, 6, none⟩ = some (.int .i64 cy) := q2.c6; have y7 : w2.cell? ⟨w.heap.size, 7, none⟩ = some (.int .i64 rx) := q2.c7; have y8 : w2.cell? ⟨w.heap.size, 8, none⟩ = some (.int .i64 ry) := q2.c8; have y9 : w2.cell? ⟨w.heap.size, 9, none⟩ = some (.int .i64 tu) := q2.c9; have y10 : w2.cell? ⟨w.heap.size, 10, none⟩ = some (.bool lg) := q2.c10; have y11 : w2.cell? ⟨w.heap.size, 11, none⟩ = some (.bool sw) := q2.c11; clear q2 p2 b2) | (go_at_call 52; (with_reducible refine (IB.out _).mono ?_); rintro e w3 ⟨rfl, b3⟩; have HB3 := Lib.hid (HB2.out.trans (b3.mono HB2.out.size)); have p3 := HP2.out.next b3; have HP3 := Lib.hid p3; have q3 := (SegAt.of_block p3); have z0 : w3.cell? ⟨w.heap.size, 0, none⟩ = some (.int .i64 k) := q3.c0; have z1 : w3.cell? ⟨w.heap.size, 1, none⟩ = some (.int .i64 tx) := q3.c1; have z2 : w3.cell? ⟨w.heap.size, 2, none⟩ = some (.int .i64 ty) := q3.c2; have z3 : w3.cell? ⟨w.heap.size, 3, none⟩ = some (.int .i64 ax) := q3.c3; have z4 : w3.cell? ⟨w.heap.size, 4, none⟩ = some (.int .i64 ay) := q3.c4; have z5 : w3.cell? ⟨w.heap.size, 5, none⟩ = some (.int .i64 cx) := q3.c5; have z6 : w3.cell? ⟨w.heap.size, 6, none⟩ = some (.int .i64 cy) := q3.c6; have z7 : w3.cell? ⟨w.heap.size, 7, none⟩ = some (.int .i64 rx) := q3.c7; have z8 : w3.cell? ⟨w.heap.size, 8, none⟩ = some (.int .i64 ry) := q3.c8; have z9 : w3.cell? ⟨w.heap.size, 9, none⟩ = some (.int .i64 tu) := q3.c9; have z10 : w3.cell? ⟨w.heap.size, 10, none⟩ = some (.bool lg) := q3.c10; have z11 : w3.cell? ⟨w.heap.size, 11, none⟩ = some (.bool sw) := q3.c11; clear q3 p3 b3))
            all_goals
              go_wp2_with fail
              go_ret
              exact ⟨rfl, by first | exact HB3.out | exact HB3.out.drew | exact below_drewq HB3.out _⟩
          · obtain rfl : r = false := by cases r; rfl; exact absurd (hr.1 rfl).2.2.2.2.2 h6
            clear hr h4 h4' hE
            go_enter Tryz.func55, Tryz.ntmps55
            go_wp2_with fail
            generalize hW1 : w.alloc (.cells #[.int .i64 k, .int .i64 tx, .int .i64 ty, .int .i64 ax, .int .i64 ay, .int .i64 cx, .int .i64 cy, .int .i64 rx, .int .i64 ry, .int .i64 tu, .bool lg, .bool sw] 51) = W1 at *
            have q1 := (SegAt.of_block HP1.out)
            have x0 : W1.cell? ⟨w.heap.size, 0, none⟩ = some (.int .i64 k) := q1.c0
            have x1 : W1.cell? ⟨w.heap.size, 1, none⟩ = some (.int .i64 tx) := q1.c1
            have x2 : W1.cell? ⟨w.heap.size, 2, none⟩ = some (.int .i64 ty) := q1.c2
            have x3 : W1.cell? ⟨w.heap.size, 3, none⟩ = some (.int .i64 ax) := q1.c3
            have x4 : W1.cell? ⟨w.heap.size, 4, none⟩ = some (.int .i64 ay) := q1.c4
            have x5 : W1.cell? ⟨w.heap.size, 5, none⟩ = some (.int .i64 cx) := q1.c5
            have x6 : W1.cell? ⟨w.heap.size, 6, none⟩ = some (.int .i64 cy) := q1.c6
            have x7 : W1.cell? ⟨w.heap.size, 7, none⟩ = some (.int .i64 rx) := q1.c7
            have x8 : W1.cell? ⟨w.heap.size, 8, none⟩ = some (.int .i64 ry) := q1.c8
            have x9 : W1.cell? ⟨w.heap.size, 9, none⟩ = some (.int .i64 tu) := q1.c9
            have x10 : W1.cell? ⟨w.heap.size, 10, none⟩ = some (.bool lg) := q1.c10
            have x11 : W1.cell? ⟨w.heap.size, 11, none⟩ = some (.bool sw) := q1.c11
            clear q1 hW1
            have HPd : Hid (BoxS w.heap.size ⟨k, tx, ty, ax, ay, cx, cy, rx, ry, tu, lg, sw⟩ W1.drew) := Lib.hid HP1.out
            have HBd := Lib.hid HB1.out.drew
            go_region_held3 (fun w' => w'.cell? ⟨w.heap.size, 0, none⟩ = some (.int .i64 k) ∧ w'.cell? ⟨w.heap.size, 1, none⟩ = some (.int .i64 tx) ∧ w'.cell? ⟨w.heap.size, 2, none⟩ = some (.int .i64 ty) ∧ w'.cell? ⟨w.heap.size, 3, none⟩ = some (.int .i64 ax) ∧ w'.cell? ⟨w.heap.size, 4, none⟩ = some (.int .i64 ay) ∧ w'.cell? ⟨w.heap.size, 5, none⟩ = some (.int .i64 cx) ∧ w'.cell? ⟨w.heap.size, 6, none⟩ = some (.int .i64 cy) ∧ w'.cell? ⟨w.heap.size, 7, none⟩ = some (.int .i64 rx) ∧ w'.cell? ⟨w.heap.size, 8, none⟩ = some (.int .i64 ry) ∧ w'.cell? ⟨w.heap.size, 9, none⟩ = some (.int .i64 tu) ∧ w'.cell? ⟨w.heap.size, 10, none⟩ = some (.bool lg) ∧ w'.cell? ⟨w.heap.size, 11, none⟩ = some (.bool sw)) (first | (simp [go_sem, *]; done) | (exact ⟨by assumption, by assumption, by assumption, by assumption, by assumption, by assumption, by assumption, by assumption, by assumption, by assumption, by assumption, by assumption⟩))
              (first | (go_at_call 101; (with_reducible refine (KP.out _).mono ?_); rintro e w2 ⟨rfl, b2⟩; have HB2 := Lib.hid (HBd.out.trans (b2.mono HBd.out.size)); have p2 := HPd.out.next b2; have HP2 := Lib.hid p2; have q2 := (SegAt.of_block p2); have y0 : w2.cell? ⟨w.heap.size, 0, none⟩ = some (.int .i64 k) := q2.c0; have y1 : w2.cell? ⟨w.heap.size, 1, none⟩ = some (.int .i64 tx) := q2.c1; have y2 : w2.cell? ⟨w.heap.size, 2, none⟩ = some (.int .i64 ty) := q2.c2; have y3 : w2.cell? ⟨w.heap.size, 3, none⟩ = some (.int .i64 ax) := q2.c3; have y4 : w2.cell? ⟨w.heap.size, 4, none⟩ = some (.int .i64 ay) := q2.c4; have y5 : w2.cell? ⟨w.heap.size, 5, none⟩ = some (.int .i64 cx) := q2.c5; have y6 : w2.cell? ⟨w.heap.size, 6, none⟩ = some (.int .i64 cy) := q2.c6; have y7 : w2.cell? ⟨w.heap.size, 7, none⟩ = some (.int .i64 rx) := q2.c7; have y8 : w2.cell? ⟨w.heap.size, 8, none⟩ = some (.int .i64 ry) := q2.c8; have y9 : w2.cell? ⟨w.heap.size, 9, none⟩ = some (.int .i64 tu) := q2.c9; have y10 : w2.cell? ⟨w.heap.size, 10, none⟩ = some (.bool lg) := q2.c10; have y11 : w2.cell? ⟨w.heap.size, 11, none⟩ = some (.bool sw) := q2.c11; clear q2 p2 b2) | (go_at_call 52; (with_reducible refine (IB.out _).mono ?_); rintro e w3 ⟨rfl, b3⟩; have HB3 := Lib.hid (HB2.out.trans (b3.mono HB2.out.size)); have p3 := HP2.out.next b3; have HP3 := Lib.hid p3; have q3 := (SegAt.of_block p3); have z0 : w3.cell? ⟨w.heap.size, 0, none⟩ = some (.int .i64 k) := q3.c0; have z1 : w3.cell? ⟨w.heap.size, 1, none⟩ = some (.int .i64 tx) := q3.c1; have z2 : w3.cell? ⟨w.heap.size, 2, none⟩ = some (.int .i64 ty) := q3.c2; have z3 : w3.cell? ⟨w.heap.size, 3, none⟩ = some (.int .i64 ax) := q3.c3; have z4 : w3.cell? ⟨w.heap.size, 4, none⟩ = some (.int .i64 ay) := q3.c4; have z5 : w3.cell? ⟨w.heap.size, 5, none⟩ = some (.int .i64 cx) := q3.c5; have z6 : w3.cell? ⟨w.heap.size, 6, none⟩ = some (.int .i64 cy) := q3.c6; have z7 : w3.cell? ⟨w.heap.size, 7, none⟩ = some (.int .i64 rx) := q3.c7; have z8 : w3.cell? ⟨w.heap.size, 8, none⟩ = some (.int .i64 ry) := q3.c8; have z9 : w3.cell? ⟨w.heap.size, 9, none⟩ = some (.int .i64 tu) := q3.c9; have z10 : w3.cell? ⟨w.heap.size, 10, none⟩ = some (.bool lg) := q3.c10; have z11 : w3.cell? ⟨w.heap.size, 11, none⟩ = some (.bool sw) := q3.c11; clear q3 p3 b3))
            all_goals
              go_wp2_with fail
              go_ret
              exact ⟨by show Ending.returned (.bool (decide (0 ≤ ry))) = _; rw [decide_eq_false (show ¬ 0 ≤ ry by omega)], by first | exact HB3.out | exact HB3.out.drew | exact below_drewq HB3.out _⟩
        · obtain rfl : r = false := by cases r; rfl; exact absurd (hr.1 rfl).2.2.2.2.1 h5
          clear hr h4 h4' hE
          go_enter Tryz.func55, Tryz.ntmps55
          go_wp2_with fail
          generalize hW1 : w.alloc (.cells #[.int .i64 k, .int .i64 tx, .int .i64 ty, .int .i64 ax, .int .i64 ay, .int .i64 cx, .int .i64 cy, .int .i64 rx, .int .i64 ry, .int .i64 tu, .bool lg, .bool sw] 51) = W1 at *
          have q1 := (SegAt.of_block HP1.out)
          have x0 : W1.cell? ⟨w.heap.size, 0, none⟩ = some (.int .i64 k) := q1.c0
          have x1 : W1.cell? ⟨w.heap.size, 1, none⟩ = some (.int .i64 tx) := q1.c1
          have x2 : W1.cell? ⟨w.heap.size, 2, none⟩ = some (.int .i64 ty) := q1.c2
          have x3 : W1.cell? ⟨w.heap.size, 3, none⟩ = some (.int .i64 ax) := q1.c3
          have x4 : W1.cell? ⟨w.heap.size, 4, none⟩ = some (.int .i64 ay) := q1.c4
          have x5 : W1.cell? ⟨w.heap.size, 5, none⟩ = some (.int .i64 cx) := q1.c5
          have x6 : W1.cell? ⟨w.heap.size, 6, none⟩ = some (.int .i64 cy) := q1.c6
          have x7 : W1.cell? ⟨w.heap.size, 7, none⟩ = some (.int .i64 rx) := q1.c7
          have x8 : W1.cell? ⟨w.heap.size, 8, none⟩ = some (.int .i64 ry) := q1.c8
          have x9 : W1.cell? ⟨w.heap.size, 9, none⟩ = some (.int .i64 tu) := q1.c9
          have x10 : W1.cell? ⟨w.heap.size, 10, none⟩ = some (.bool lg) := q1.c10
          have x11 : W1.cell? ⟨w.heap.size, 11, none⟩ = some (.bool sw) := q1.c11
          clear q1 hW1
          have HPd : Hid (BoxS w.heap.size ⟨k, tx, ty, ax, ay, cx, cy, rx, ry, tu, lg, sw⟩ W1.drew) := Lib.hid HP1.out
          have HBd := Lib.hid HB1.out.drew
          first | (go_region_with (first | (go_at_call 101; (with_reducible refine (KP.out _).mono ?_); rintro e w2 ⟨rfl, b2⟩; have HB2 := Lib.hid (HBd.out.trans (b2.mono HBd.out.size)); have p2 := HPd.out.next b2; have HP2 := Lib.hid p2; have q2 := (SegAt.of_block p2); have y0 : w2.cell? ⟨w.heap.size, 0, none⟩ = some (.int .i64 k) := q2.c0; have y1 : w2.cell? ⟨w.heap.size, 1, none⟩ = some (.int .i64 tx) := q2.c1; have y2 : w2.cell? ⟨w.heap.size, 2, none⟩ = some (.int .i64 ty) := q2.c2; have y3 : w2.cell? ⟨w.heap.size, 3, none⟩ = some (.int .i64 ax) := q2.c3; have y4 : w2.cell? ⟨w.heap.size, 4, none⟩ = some (.int .i64 ay) := q2.c4; have y5 : w2.cell? ⟨w.heap.size, 5, none⟩ = some (.int .i64 cx) := q2.c5; have y6 : w2.cell? ⟨w.heap.size, 6, none⟩ = some (.int .i64 cy) := q2.c6; have y7 : w2.cell? ⟨w.heap.size, 7, none⟩ = some (.int .i64 rx) := q2.c7; have y8 : w2.cell? ⟨w.heap.size, 8, none⟩ = some (.int .i64 ry) := q2.c8; have y9 : w2.cell? ⟨w.heap.size, 9, none⟩ = some (.int .i64 tu) := q2.c9; have y10 : w2.cell? ⟨w.heap.size, 10, none⟩ = some (.bool lg) := q2.c10; have y11 : w2.cell? ⟨w.heap.size, 11, none⟩ = some (.bool sw) := q2.c11; clear q2 p2 b2) | (go_at_call 52; (with_reducible refine (IB.out _).mono ?_); rintro e w3 ⟨rfl, b3⟩; have HB3 := Lib.hid (HB2.out.trans (b3.mono HB2.out.size)); have p3 := HP2.out.next b3; have HP3 := Lib.hid p3; have q3 := (SegAt.of_block p3); have z0 : w3.cell? ⟨w.heap.size, 0, none⟩ = some (.int .i64 k) := q3.c0; have z1 : w3.cell? ⟨w.heap.size, 1, none⟩ = some (.int .i64 tx) := q3.c1; have z2 : w3.cell? ⟨w.heap.size, 2, none⟩ = some (.int .i64 ty) := q3.c2; have z3 : w3.cell? ⟨w.heap.size, 3, none⟩ = some (.int .i64 ax) := q3.c3; have z4 : w3.cell? ⟨w.heap.size, 4, none⟩ = some (.int .i64 ay) := q3.c4; have z5 : w3.cell? ⟨w.heap.size, 5, none⟩ = some (.int .i64 cx) := q3.c5; have z6 : w3.cell? ⟨w.heap.size, 6, none⟩ = some (.int .i64 cy) := q3.c6; have z7 : w3.cell? ⟨w.heap.size, 7, none⟩ = some (.int .i64 rx) := q3.c7; have z8 : w3.cell? ⟨w.heap.size, 8, none⟩ = some (.int .i64 ry) := q3.c8; have z9 : w3.cell? ⟨w.heap.size, 9, none⟩ = some (.int .i64 tu) := q3.c9; have z10 : w3.cell? ⟨w.heap.size, 10, none⟩ = some (.bool lg) := q3.c10; have z11 : w3.cell? ⟨w.heap.size, 11, none⟩ = some (.bool sw) := q3.c11; clear q3 p3 b3))) | fail
          all_goals
            go_wp2_with fail
            go_ret
            exact ⟨rfl, by first | exact HB3.out | exact HB3.out.drew | exact below_drewq HB3.out _⟩
      · have h4' : decide (inB ⟨k, tx, ty, ax, ay, cx, cy, rx, ry, tu, lg, sw⟩) = false := decide_eq_false h4
        rw [h4'] at IB
        obtain rfl : r = false := by cases r; rfl; exact absurd (hr.1 rfl).2.2.2.1 h4
        clear hr h4 h4' hE
        go_enter Tryz.func55, Tryz.ntmps55
        go_wp2_with fail
        generalize hW1 : w.alloc (.cells #[.int .i64 k, .int .i64 tx, .int .i64 ty, .int .i64 ax, .int .i64 ay, .int .i64 cx, .int .i64 cy, .int .i64 rx, .int .i64 ry, .int .i64 tu, .bool lg, .bool sw] 51) = W1 at *
        have q1 := (SegAt.of_block HP1.out)
        have x0 : W1.cell? ⟨w.heap.size, 0, none⟩ = some (.int .i64 k) := q1.c0
        have x1 : W1.cell? ⟨w.heap.size, 1, none⟩ = some (.int .i64 tx) := q1.c1
        have x2 : W1.cell? ⟨w.heap.size, 2, none⟩ = some (.int .i64 ty) := q1.c2
        have x3 : W1.cell? ⟨w.heap.size, 3, none⟩ = some (.int .i64 ax) := q1.c3
        have x4 : W1.cell? ⟨w.heap.size, 4, none⟩ = some (.int .i64 ay) := q1.c4
        have x5 : W1.cell? ⟨w.heap.size, 5, none⟩ = some (.int .i64 cx) := q1.c5
        have x6 : W1.cell? ⟨w.heap.size, 6, none⟩ = some (.int .i64 cy) := q1.c6
        have x7 : W1.cell? ⟨w.heap.size, 7, none⟩ = some (.int .i64 rx) := q1.c7
        have x8 : W1.cell? ⟨w.heap.size, 8, none⟩ = some (.int .i64 ry) := q1.c8
        have x9 : W1.cell? ⟨w.heap.size, 9, none⟩ = some (.int .i64 tu) := q1.c9
        have x10 : W1.cell? ⟨w.heap.size, 10, none⟩ = some (.bool lg) := q1.c10
        have x11 : W1.cell? ⟨w.heap.size, 11, none⟩ = some (.bool sw) := q1.c11
        clear q1 hW1
        have HPd : Hid (BoxS w.heap.size ⟨k, tx, ty, ax, ay, cx, cy, rx, ry, tu, lg, sw⟩ W1.drew) := Lib.hid HP1.out
        have HBd := Lib.hid HB1.out.drew
        first | (go_region_with (first | (go_at_call 101; (with_reducible refine (KP.out _).mono ?_); rintro e w2 ⟨rfl, b2⟩; have HB2 := Lib.hid (HBd.out.trans (b2.mono HBd.out.size)); have p2 := HPd.out.next b2; have HP2 := Lib.hid p2; have q2 := (SegAt.of_block p2); have y0 : w2.cell? ⟨w.heap.size, 0, none⟩ = some (.int .i64 k) := q2.c0; have y1 : w2.cell? ⟨w.heap.size, 1, none⟩ = some (.int .i64 tx) := q2.c1; have y2 : w2.cell? ⟨w.heap.size, 2, none⟩ = some (.int .i64 ty) := q2.c2; have y3 : w2.cell? ⟨w.heap.size, 3, none⟩ = some (.int .i64 ax) := q2.c3; have y4 : w2.cell? ⟨w.heap.size, 4, none⟩ = some (.int .i64 ay) := q2.c4; have y5 : w2.cell? ⟨w.heap.size, 5, none⟩ = some (.int .i64 cx) := q2.c5; have y6 : w2.cell? ⟨w.heap.size, 6, none⟩ = some (.int .i64 cy) := q2.c6; have y7 : w2.cell? ⟨w.heap.size, 7, none⟩ = some (.int .i64 rx) := q2.c7; have y8 : w2.cell? ⟨w.heap.size, 8, none⟩ = some (.int .i64 ry) := q2.c8; have y9 : w2.cell? ⟨w.heap.size, 9, none⟩ = some (.int .i64 tu) := q2.c9; have y10 : w2.cell? ⟨w.heap.size, 10, none⟩ = some (.bool lg) := q2.c10; have y11 : w2.cell? ⟨w.heap.size, 11, none⟩ = some (.bool sw) := q2.c11; clear q2 p2 b2) | (go_at_call 52; (with_reducible refine (IB.out _).mono ?_); rintro e w3 ⟨rfl, b3⟩; have HB3 := Lib.hid (HB2.out.trans (b3.mono HB2.out.size)); have p3 := HP2.out.next b3; have HP3 := Lib.hid p3; have q3 := (SegAt.of_block p3); have z0 : w3.cell? ⟨w.heap.size, 0, none⟩ = some (.int .i64 k) := q3.c0; have z1 : w3.cell? ⟨w.heap.size, 1, none⟩ = some (.int .i64 tx) := q3.c1; have z2 : w3.cell? ⟨w.heap.size, 2, none⟩ = some (.int .i64 ty) := q3.c2; have z3 : w3.cell? ⟨w.heap.size, 3, none⟩ = some (.int .i64 ax) := q3.c3; have z4 : w3.cell? ⟨w.heap.size, 4, none⟩ = some (.int .i64 ay) := q3.c4; have z5 : w3.cell? ⟨w.heap.size, 5, none⟩ = some (.int .i64 cx) := q3.c5; have z6 : w3.cell? ⟨w.heap.size, 6, none⟩ = some (.int .i64 cy) := q3.c6; have z7 : w3.cell? ⟨w.heap.size, 7, none⟩ = some (.int .i64 rx) := q3.c7; have z8 : w3.cell? ⟨w.heap.size, 8, none⟩ = some (.int .i64 ry) := q3.c8; have z9 : w3.cell? ⟨w.heap.size, 9, none⟩ = some (.int .i64 tu) := q3.c9; have z10 : w3.cell? ⟨w.heap.size, 10, none⟩ = some (.bool lg) := q3.c10; have z11 : w3.cell? ⟨w.heap.size, 11, none⟩ = some (.bool sw) := q3.c11; clear q3 p3 b3))) | fail
        all_goals
          go_wp2_with fail
          go_ret
          exact ⟨rfl, by first | exact HB3.out | exact HB3.out.drew | exact below_drewq HB3.out _⟩
    · obtain rfl : r = false := by
        cases r
        · rfl
        · have h := (hr.1 rfl).2.2.1
          simp only [Seg.mk.injEq] at h
          exact absurd (by first | exact h.2.2.2 | simpa using h) hK
      clear hr
      go_enter Tryz.func55, Tryz.ntmps55
      go_wp2_with fail
      generalize hW1 : w.alloc (.cells #[.int .i64 k, .int .i64 tx, .int .i64 ty, .int .i64 ax, .int .i64 ay, .int .i64 cx, .int .i64 cy, .int .i64 rx, .int .i64 ry, .int .i64 tu, .bool lg, .bool sw] 51) = W1 at *
      have q1 := (SegAt.of_block HP1.out)
      have x0 : W1.cell? ⟨w.heap.size, 0, none⟩ = some (.int .i64 k) := q1.c0
      have x1 : W1.cell? ⟨w.heap.size, 1, none⟩ = some (.int .i64 tx) := q1.c1
      have x2 : W1.cell? ⟨w.heap.size, 2, none⟩ = some (.int .i64 ty) := q1.c2
      have x3 : W1.cell? ⟨w.heap.size, 3, none⟩ = some (.int .i64 ax) := q1.c3
      have x4 : W1.cell? ⟨w.heap.size, 4, none⟩ = some (.int .i64 ay) := q1.c4
      have x5 : W1.cell? ⟨w.heap.size, 5, none⟩ = some (.int .i64 cx) := q1.c5
      have x6 : W1.cell? ⟨w.heap.size, 6, none⟩ = some (.int .i64 cy) := q1.c6
      have x7 : W1.cell? ⟨w.heap.size, 7, none⟩ = some (.int .i64 rx) := q1.c7
      have x8 : W1.cell? ⟨w.heap.size, 8, none⟩ = some (.int .i64 ry) := q1.c8
      have x9 : W1.cell? ⟨w.heap.size, 9, none⟩ = some (.int .i64 tu) := q1.c9
      have x10 : W1.cell? ⟨w.heap.size, 10, none⟩ = some (.bool lg) := q1.c10
      have x11 : W1.cell? ⟨w.heap.size, 11, none⟩ = some (.bool sw) := q1.c11
      clear q1 hW1
      have HPd : Hid (BoxS w.heap.size ⟨k, tx, ty, ax, ay, cx, cy, rx, ry, tu, lg, sw⟩ W1.drew) := Lib.hid HP1.out
      have HBd := Lib.hid HB1.out.drew
      first | (go_region_with (first | (go_at_call 101; (with_reducible refine (KP.out _).mono ?_); rintro e w2 ⟨rfl, b2⟩; have HB2 := Lib.hid (HBd.out.trans (b2.mono HBd.out.size)); have p2 := HPd.out.next b2; have HP2 := Lib.hid p2; have q2 := (SegAt.of_block p2); have y0 : w2.cell? ⟨w.heap.size, 0, none⟩ = some (.int .i64 k) := q2.c0; have y1 : w2.cell? ⟨w.heap.size, 1, none⟩ = some (.int .i64 tx) := q2.c1; have y2 : w2.cell? ⟨w.heap.size, 2, none⟩ = some (.int .i64 ty) := q2.c2; have y3 : w2.cell? ⟨w.heap.size, 3, none⟩ = some (.int .i64 ax) := q2.c3; have y4 : w2.cell? ⟨w.heap.size, 4, none⟩ = some (.int .i64 ay) := q2.c4; have y5 : w2.cell? ⟨w.heap.size, 5, none⟩ = some (.int .i64 cx) := q2.c5; have y6 : w2.cell? ⟨w.heap.size, 6, none⟩ = some (.int .i64 cy) := q2.c6; have y7 : w2.cell? ⟨w.heap.size, 7, none⟩ = some (.int .i64 rx) := q2.c7; have y8 : w2.cell? ⟨w.heap.size, 8, none⟩ = some (.int .i64 ry) := q2.c8; have y9 : w2.cell? ⟨w.heap.size, 9, none⟩ = some (.int .i64 tu) := q2.c9; have y10 : w2.cell? ⟨w.heap.size, 10, none⟩ = some (.bool lg) := q2.c10; have y11 : w2.cell? ⟨w.heap.size, 11, none⟩ = some (.bool sw) := q2.c11; clear q2 p2 b2))) | fail
      all_goals
        go_wp2_with fail
        go_ret
        exact ⟨rfl, by first | exact HB2.out | exact HB2.out.drew | exact below_drewq HB2.out _⟩
    · obtain rfl : r = false := by cases r; rfl; exact absurd (hr.1 rfl).2.1 h2
      have d2 : decide (k ≤ 6) = false := decide_eq_false h2
      clear hr
      go_enter Tryz.func55, Tryz.ntmps55
      go_wp2_with fail
      generalize hW1 : w.alloc (.cells #[.int .i64 k, .int .i64 tx, .int .i64 ty, .int .i64 ax, .int .i64 ay, .int .i64 cx, .int .i64 cy, .int .i64 rx, .int .i64 ry, .int .i64 tu, .bool lg, .bool sw] 51) = W1 at *
      have q1 := (SegAt.of_block HP1.out)
      have x0 : W1.cell? ⟨w.heap.size, 0, none⟩ = some (.int .i64 k) := q1.c0
      have x1 : W1.cell? ⟨w.heap.size, 1, none⟩ = some (.int .i64 tx) := q1.c1
      have x2 : W1.cell? ⟨w.heap.size, 2, none⟩ = some (.int .i64 ty) := q1.c2
      have x3 : W1.cell? ⟨w.heap.size, 3, none⟩ = some (.int .i64 ax) := q1.c3
      have x4 : W1.cell? ⟨w.heap.size, 4, none⟩ = some (.int .i64 ay) := q1.c4
      have x5 : W1.cell? ⟨w.heap.size, 5, none⟩ = some (.int .i64 cx) := q1.c5
      have x6 : W1.cell? ⟨w.heap.size, 6, none⟩ = some (.int .i64 cy) := q1.c6
      have x7 : W1.cell? ⟨w.heap.size, 7, none⟩ = some (.int .i64 rx) := q1.c7
      have x8 : W1.cell? ⟨w.heap.size, 8, none⟩ = some (.int .i64 ry) := q1.c8
      have x9 : W1.cell? ⟨w.heap.size, 9, none⟩ = some (.int .i64 tu) := q1.c9
      have x10 : W1.cell? ⟨w.heap.size, 10, none⟩ = some (.bool lg) := q1.c10
      have x11 : W1.cell? ⟨w.heap.size, 11, none⟩ = some (.bool sw) := q1.c11
      clear q1 hW1
      go_quiet (fail)
      all_goals
        go_wp2_with fail
        go_ret
        exact ⟨rfl, by first | exact HB1.out | exact HB1.out.drew | exact below_drewq HB1.out _⟩
  · obtain rfl : r = false := by cases r; rfl; exact absurd (hr.1 rfl).1 h1
    have d1 : decide (1 ≤ k) = false := decide_eq_false h1
    clear hr
    go_enter Tryz.func55, Tryz.ntmps55
    go_wp2_with fail
    generalize hW1 : w.alloc (.cells #[.int .i64 k, .int .i64 tx, .int .i64 ty, .int .i64 ax, .int .i64 ay, .int .i64 cx, .int .i64 cy, .int .i64 rx, .int .i64 ry, .int .i64 tu, .bool lg, .bool sw] 51) = W1 at *
    have q1 := (SegAt.of_block HP1.out)
    have x0 : W1.cell? ⟨w.heap.size, 0, none⟩ = some (.int .i64 k) := q1.c0
    have x1 : W1.cell? ⟨w.heap.size, 1, none⟩ = some (.int .i64 tx) := q1.c1
    have x2 : W1.cell? ⟨w.heap.size, 2, none⟩ = some (.int .i64 ty) := q1.c2
    have x3 : W1.cell? ⟨w.heap.size, 3, none⟩ = some (.int .i64 ax) := q1.c3
    have x4 : W1.cell? ⟨w.heap.size, 4, none⟩ = some (.int .i64 ay) := q1.c4
    have x5 : W1.cell? ⟨w.heap.size, 5, none⟩ = some (.int .i64 cx) := q1.c5
    have x6 : W1.cell? ⟨w.heap.size, 6, none⟩ = some (.int .i64 cy) := q1.c6
    have x7 : W1.cell? ⟨w.heap.size, 7, none⟩ = some (.int .i64 rx) := q1.c7
    have x8 : W1.cell? ⟨w.heap.size, 8, none⟩ = some (.int .i64 ry) := q1.c8
    have x9 : W1.cell? ⟨w.heap.size, 9, none⟩ = some (.int .i64 tu) := q1.c9
    have x10 : W1.cell? ⟨w.heap.size, 10, none⟩ = some (.bool lg) := q1.c10
    have x11 : W1.cell? ⟨w.heap.size, 11, none⟩ = some (.bool sw) := q1.c11
    clear q1 hW1
    go_quiet (fail)
    all_goals
      go_wp2_with fail
      go_ret
      exact ⟨rfl, by first | exact HB1.out | exact HB1.out.drew | exact below_drewq HB1.out _⟩
end Go.Proofs.YtbjabclgekkpaaaGreatDoor
namespace Go.Proofs.YtbjabclgekkpaaaGreatDoor
open Go.RowKit Go.Shelf
theorem drop_seg {l : List Seg} {i : Nat} (h : i < l.length) : l.drop i = l.getD i zeroS :: l.drop (i + 1) := by
  rw [List.drop_eq_getElem_cons h]; simp [List.getD, List.getElem?_eq_getElem h]
theorem mem_seg {l : List Seg} {i : Nat} (h : i < l.length) : l.getD i zeroS ∈ l := by
  simp [List.getD, List.getElem?_eq_getElem h]
set_option maxHeartbeats 8000000 in
set_option maxRecDepth 100000 in
theorem right_any7 (a : Option Addr) (l : List Seg) (cap : Nat) (w : World) (hl : l.length ≤ 1000) (hA : RdS a l w) (hS : ∀ g ∈ l, SegI g) (r : Bool) (hr : r = true ↔ rightP l 0 0 false) :
    Calls Tryz.prog 26 #[.slice a l.length cap] w fun e w' => e = .returned (.bool r) ∧ Below w.heap.size w w' := by
  have b0 := (Below.refl w.heap.size w).alloc (Nat.le_refl _) (.cells #[.int .i64 0, .int .i64 0] 40)
  have HA := Lib.hid hA
  have HS := Lib.hid hS
  have HR0 := Lib.hid (show r = true ↔ rightP (l.drop 0) 0 0 false from hr)
  have HB0 := Lib.hid b0
  have HP0 := Lib.hid (PtAt.new w 0 0)
  have hs1 : (w.alloc (.cells #[.int .i64 0, .int .i64 0] 40)).heap.size = w.heap.size + 1 := by simp
  clear hA hS hr b0
  go_enter Tryz.func26, Tryz.ntmps26
  go_wp2_with fail
  generalize hW1 : w.alloc (.cells #[.int .i64 0, .int .i64 0] 40) = W1 at *
  clear hW1
  go_loopw [4, 9] (fun u4 u9 wr => ∃ (i : Nat) (op : Bool) (bx by' : Int), u4 = .bool op ∧ u9 = .int .i64 (i : Int) ∧ i ≤ l.length ∧ Hid (PtAt w.heap.size bx by' wr) ∧ Below w.heap.size w wr ∧ Hid (r = true ↔ rightP (l.drop i) bx by' op)) (fun _ u9 _ => l.length - (intOf u9).toNat)
  case atStart => exact ⟨0, false, 0, 0, rfl, rfl, Nat.zero_le _, HP0, HB0.out, HR0⟩
  case round =>
    obtain ⟨i, op, bx, by', rfl, rfl, hi, hpt, hbel, hE⟩ := hrel
    by_cases hlt : i < l.length
    · obtain ⟨b, off, rfl, hb, hc⟩ := (HA.out.next hbel).pos (by omega)
      obtain ⟨x0, x1, x2, x3, x4, x5, x6, x7, x8, x9, x10, x11⟩ := hc i hlt
      have hltI : (i : Int) < (l.length : Int) := by omega
      have e1 : IntKind.i64.wrap ((i : Int) + 1) = ((i + 1 : Nat) : Int) := by rw [IntWalk.i64_in _ (by omega)]; omega
      have hE' := hE.out
      rw [drop_seg hlt] at hE'
      have hI := HS.out _ (mem_seg hlt)
      have HB := Lib.hid hbel
      clear hc hbel hE
      generalize hg : l.getD i zeroS = g at *
      obtain ⟨k, tx, ty, ax, ay, cx, cy, rx, ry, tu, lg, sw⟩ := g
      dsimp only at x0 x1 x2 x3 x4 x5 x6 x7 x8 x9 x10 x11
      have HP1 : Hid (BoxS wr.heap.size ⟨k, tx, ty, ax, ay, cx, cy, rx, ry, tu, lg, sw⟩ (wr.alloc (.cells #[.int .i64 k, .int .i64 tx, .int .i64 ty, .int .i64 ax, .int .i64 ay, .int .i64 cx, .int .i64 cy, .int .i64 rx, .int .i64 ry, .int .i64 tu, .bool lg, .bool sw] 51))) := Lib.hid (World.alloc_heap_new wr _)
      have HB1 := Lib.hid (HB.out.alloc HB.out.size (.cells #[.int .i64 k, .int .i64 tx, .int .i64 ty, .int .i64 ax, .int .i64 ay, .int .i64 cx, .int .i64 cy, .int .i64 rx, .int .i64 ry, .int .i64 tu, .bool lg, .bool sw] 51))
      have HT1 := Lib.hid (hpt.out.next ((Below.refl wr.heap.size wr).alloc (Nat.le_refl _) (.cells #[.int .i64 k, .int .i64 tx, .int .i64 ty, .int .i64 ax, .int .i64 ay, .int .i64 cx, .int .i64 cy, .int .i64 rx, .int .i64 ry, .int .i64 tu, .bool lg, .bool sw] 51)))
      have hWs : wr.heap.size < (wr.alloc (.cells #[.int .i64 k, .int .i64 tx, .int .i64 ty, .int .i64 ax, .int .i64 ay, .int .i64 cx, .int .i64 cy, .int .i64 rx, .int .i64 ry, .int .i64 tu, .bool lg, .bool sw] 51)).heap.size := by simp
      have hps := hpt.out.lt
      obtain ⟨q, hq⟩ : ∃ q : Bool, (q = true ↔ aloneP ⟨k, tx, ty, ax, ay, cx, cy, rx, ry, tu, lg, sw⟩) := ⟨@decide (aloneP ⟨k, tx, ty, ax, ay, cx, cy, rx, ry, tu, lg, sw⟩) (Classical.propDecidable _), by simp⟩
      have AL := Lib.hid (show ∀ w, Calls Tryz.prog 55 #[.agg #[.int .i64 k, .int .i64 tx, .int .i64 ty, .int .i64 ax, .int .i64 ay, .int .i64 cx, .int .i64 cy, .int .i64 rx, .int .i64 ry, .int .i64 tu, .bool lg, .bool sw]] w fun e w' => e = .returned (.bool q) ∧ Below w.heap.size w w' from fun w => alone_any ⟨k, tx, ty, ax, ay, cx, cy, rx, ry, tu, lg, sw⟩ w hI q hq)
      unfold rightP at hE'
      dsimp only at hE'
      rw [← hq] at hE'
      have HE := Lib.hid hE'
      clear hE' hq hI
      go_wp2_with fail
      generalize wr.alloc (.cells #[.int .i64 k, .int .i64 tx, .int .i64 ty, .int .i64 ax, .int .i64 ay, .int .i64 cx, .int .i64 cy, .int .i64 rx, .int .i64 ry, .int .i64 tu, .bool lg, .bool sw] 51) = W2 at *
      refine (AL.out _).mono ?_
      rintro e w3 ⟨rfl, b3⟩
      have HB3 := Lib.hid (HB1.out.trans (b3.mono HB1.out.size))
      have HP3 := Lib.hid (HP1.out.next b3)
      have HT3 := Lib.hid (HT1.out.next b3)
      have s3 := HP3.out.lt
      have pq := SegAt.of_block HP3.out
      have y0 : w3.cell? ⟨wr.heap.size, 0, none⟩ = some (.int .i64 k) := pq.c0
      have y1 : w3.cell? ⟨wr.heap.size, 1, none⟩ = some (.int .i64 tx) := pq.c1
      have y2 : w3.cell? ⟨wr.heap.size, 2, none⟩ = some (.int .i64 ty) := pq.c2
      have t0 := HT3.out.c0
      have t1 := HT3.out.c1
      have z0 := HT3.out.z 0
      have z1 := HT3.out.z 1
      clear pq b3 AL HP1 HT1 HB1 hpt hWs HP0 HB0 HR0
      cases q with
      | false =>
        obtain rfl : r = false := by cases r; rfl; exact absurd (HE.out.1 rfl).1 (by decide)
        go_wp2_with fail
        go_ret
        exact ⟨rfl, HB3.out⟩
      | true =>
        have hE2 := HE.out
        rw [show (true = true) = True from eq_self _, true_and] at hE2
        clear HE
        by_cases h1 : k = 1
        · subst h1
          rw [if_pos rfl] at hE2
          have HE2 := Lib.hid hE2
          have HS4 := Lib.hid (HT3.out.set tx ty)
          have HB4 := Lib.hid (below_pt HB3.out (Nat.le_refl _) (.int .i64 tx) (.int .i64 ty))
          clear hE2
          go_wp2_with fail
          go_roundw
          case rel => exact ⟨i + 1, true, tx, ty, rfl, by go_num, by omega, HS4, HB4.out, HE2⟩
          case measure => simp [intOf]; omega
        · rw [if_neg h1] at hE2
          have k1 : (k == 1) = false := by rw [beq_eq_false_iff_ne]; exact h1
          cases op with
          | false =>
            obtain rfl : r = false := by cases r; rfl; exact (hE2.1 rfl).elim
            clear hE2
            go_wp2_with fail
            go_ret
            exact ⟨rfl, HB3.out⟩
          | true =>
            rw [if_neg (by decide)] at hE2
            by_cases h6 : k = 6
            · subst h6
              rw [if_pos rfl] at hE2
              by_cases hx : tx = bx
              · by_cases hy : ty = by'
                · have HE2 := Lib.hid (show r = true ↔ rightP (l.drop (i + 1)) bx by' false from ⟨fun k => (hE2.1 k).2.2, fun k => hE2.2 ⟨hx, hy, k⟩⟩)
                  subst hx hy
                  clear hE2
                  go_wp2_with fail
                  go_roundw
                  case rel => exact ⟨i + 1, false, tx, ty, rfl, by go_num, by omega, HT3, HB3.out, HE2⟩
                  case measure => simp [intOf]; omega
                · obtain rfl : r = false := by cases r; rfl; exact absurd (hE2.1 rfl).2.1 hy
                  clear hE2
                  go_wp2_with fail
                  go_ret
                  exact ⟨rfl, HB3.out⟩
              · obtain rfl : r = false := by cases r; rfl; exact absurd (hE2.1 rfl).1 hx
                clear hE2
                go_wp2_with fail
                go_ret
                exact ⟨rfl, HB3.out⟩
            · rw [if_neg h6] at hE2
              have k6 : (k == 6) = false := by rw [beq_eq_false_iff_ne]; exact h6
              have HE2 := Lib.hid hE2
              clear hE2
              go_wp2_with fail
              go_roundw
              case rel => exact ⟨i + 1, true, bx, by', rfl, by go_num, by omega, HT3, HB3.out, HE2⟩
              case measure => simp [intOf]; omega
    · have hnl : ¬ (i : Int) < (l.length : Int) := by omega
      obtain rfl : i = l.length := by omega
      have hE' := hE.out
      rw [List.drop_length] at hE'
      obtain rfl : r = true := hE'.2 trivial
      go_wp2_with fail
      go_ret
      exact ⟨rfl, hbel⟩
end Go.Proofs.YtbjabclgekkpaaaGreatDoor
namespace Go.Proofs.YtbjabclgekkpaaaGreatDoor
open Go.RowKit Go.Shelf
theorem ownFrom_box {β : Type} (D n : Nat) (t : TypeId) (cs : Array Value) : OwnFrom D (fun (_ : β) W => CBox n t cs W) :=
  fun _ _ _ _ h hg hr => h.free hg fun r e => (hr r e).2
theorem abideO_box {β : Type} {T : TypeId → Prop} {D n : Nat} {t : TypeId} {cs : Array Value} (hn : n < D) : AbideO (β := β) T D (fun _ W => CBox n t cs W) :=
  ⟨⟨fun _ _ _ h b => h.next b, fun _ _ _ b _ _ _ h hb _ _ B => h.but (by omega) B⟩, ownFrom_box D n t cs⟩
theorem AbideO.and {β : Type} {T : TypeId → Prop} {D : Nat} {J K : List β → World → Prop} (h : AbideO T D J) (k : AbideO T D K) : AbideO T D (fun pre W => J pre W ∧ K pre W) :=
  ⟨⟨fun pre W W' hj hb => ⟨h.abide.new pre W W' hj.1 hb, k.abide.new pre W W' hj.2 hb⟩, fun pre W W' b t cs z hj h1 h2 h3 h4 => ⟨h.abide.priv pre W W' b t cs z hj.1 h1 h2 h3 h4, k.abide.priv pre W W' b t cs z hj.2 h1 h2 h3 h4⟩⟩, h.own.and k.own⟩
theorem abideO_rowbox {α β : Type} {L : Lay8 α} {T : TypeId → Prop} (hT : ¬ T L.e) {D n R : Nat} {t : TypeId} (hn : n < D) (f : List β → List α) : AbideO T D (fun pre X => ∃ v, CBox n t #[v] X ∧ L.own R v (f pre) X) :=
  ⟨⟨fun _ _ _ ⟨v, h1, h2⟩ b => ⟨v, h1.next b, h2.next b⟩, fun _ _ _ b t' _ _ ⟨v, h1, h2⟩ hb ht hc B => ⟨v, h1.but (by omega) B, h2.but hc (fun e => hT (e ▸ ht)) B⟩⟩,
   fun _ _ _ _ ⟨v, h1, h2⟩ hg hr => ⟨v, h1.free hg (fun r e => (hr r e).2), h2.free hg (fun r e => (hr r e).2)⟩⟩
theorem abideO_below {β : Type} {T : TypeId → Prop} {D B : Nat} {w : World} (hB : B ≤ D) : AbideO (β := β) T D (fun _ X => Below B w X ∧ D ≤ X.heap.size) :=
  ⟨⟨fun _ _ _ h b => ⟨h.1.trans (b.mono (Nat.le_trans hB h.2)), Nat.le_trans h.2 b.size⟩, fun _ _ _ _ _ _ _ h hb _ _ k => ⟨h.1.trans (k.below (Nat.le_trans hB h.2) (Nat.le_trans hB hb)), Nat.le_trans h.2 k.size⟩⟩,
   fun _ _ _ _ h hg hr => ⟨h.1.grown hg (Nat.le_trans hB h.2) fun k e => Nat.le_trans hB (hr k e).1, Nat.le_trans h.2 hg.size⟩⟩
theorem abideO_pre {β : Type} {T : TypeId → Prop} {D : Nat} (p : List β → Prop) : AbideO T D (fun pre _ => p pre) := ⟨⟨fun _ _ _ h _ => h, fun _ _ _ _ _ _ _ h _ _ _ _ => h⟩, fun _ _ _ _ h _ _ => h⟩
end Go.Proofs.YtbjabclgekkpaaaGreatDoor
