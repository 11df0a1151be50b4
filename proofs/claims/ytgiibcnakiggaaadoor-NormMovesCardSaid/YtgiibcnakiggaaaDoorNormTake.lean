/-
  The contracts of package norm's capital, steps and take.
-/
import Derived.Test.YtgiibcnakiggaaaDoorNormStep2
import Derived.Deep.WholeRow
import Derived.Laws.Tables
namespace Go.Proofs.YtgiibcnakiggaaaDoor
open Go.RowKit Go.Shelf

theorem capital_any (c : Nat) (h : cntL c ≠ 99) (w : World) : Calls Tryd.prog 34 #[.int .u8 (c : Int)] w fun e w' => e = .returned (.int .u8 (capL c : Int)) ∧ w = w' := by
  have hlt : c < 256 := by unfold cntL at h; repeat (first | (split at h; omega) | omega)
  have e1 : bits BinOp.andNot IntKind.u8 (c : Int) 32 = (capL c : Int) := by
    have : ∀ c : Fin 256, cntL c.val ≠ 99 → bits BinOp.andNot IntKind.u8 ((c.val : Nat) : Int) 32 = (capL c.val : Int) := by decide +kernel
    exact this ⟨c, hlt⟩ h
  go_enter Tryd.func34, Tryd.ntmps34
  go_wp2_with fail
  go_ret
  exact ⟨rfl, rfl⟩
theorem cap_small {c : Nat} (h : cntL c ≠ 99) : (97 ≤ c → capL c ≠ c) ∧ (¬ 97 ≤ c → capL c = c) := by
  have hlt : c < 256 := by unfold cntL at h; repeat (first | (split at h; omega) | omega)
  have : ∀ c : Fin 256, cntL c.val ≠ 99 → (97 ≤ c.val → capL c.val ≠ c.val) ∧ (¬ 97 ≤ c.val → capL c.val = c.val) := by decide +kernel
  exact this ⟨c, hlt⟩ h
def fnV (f : Nat) : Value := .func (.func f) #[] #[]
def tabV : Array Value := #[.func (.func 59) #[] #[], .nilFunc, .func (.func 55) #[] #[], .nilFunc, .nilFunc, .nilFunc, .nilFunc, .func (.func 53) #[] #[], .nilFunc, .nilFunc, .nilFunc, .func (.func 52) #[] #[], .func (.func 51) #[] #[], .nilFunc, .nilFunc, .nilFunc, .func (.func 57) #[] #[], .nilFunc, .func (.func 56) #[] #[], .func (.func 58) #[] #[], .nilFunc, .func (.func 54) #[] #[], .nilFunc, .nilFunc, .nilFunc, .func (.func 60) #[] #[]]
def nilV : Array Value := #[.nilFunc, .nilFunc, .nilFunc, .nilFunc, .nilFunc, .nilFunc, .nilFunc, .nilFunc, .nilFunc, .nilFunc, .nilFunc, .nilFunc, .nilFunc, .nilFunc, .nilFunc, .nilFunc, .nilFunc, .nilFunc, .nilFunc, .nilFunc, .nilFunc, .nilFunc, .nilFunc, .nilFunc, .nilFunc, .nilFunc]
set_option maxRecDepth 100000 in
theorem steps_any7 (w : World) : Calls Tryd.prog 35 #[] w fun e w' => e = .returned (.agg tabV) ∧ Below w.heap.size w w' := by
  go_enter Tryd.func35, Tryd.ntmps35
  go_wp2_with (refine wpList_store_row (by rfl) 74 (.tmp 0) (.tmp 1) (by rfl) w.heap.size tabV (by rfl) (by rfl) 74 nilV (World.alloc_heap_new w _) (by kernel_rfl) (by rfl) (by kernel_rfl) ?_)
  have b0 := (Below.refl w.heap.size w).alloc (Nat.le_refl _) (.cells tabV 74)
  have e : (w.alloc (.cells nilV 74)).setRow w.heap.size tabV = w.alloc (.cells tabV 74) := World.setRow_alloc_new _ _ _ _
  have ld := run_loadVar_new (P := Tryd.prog) w 74 tabV 26 73 (by kernel_rfl) (by kernel_rfl)
  refine bodyPost_ret (v := .agg tabV) ?_ rfl ⟨rfl, ?_⟩
  · show Sem.run Tryd.prog _ ((w.alloc (.cells nilV 74)).setRow w.heap.size tabV) = .ok _ ((w.alloc (.cells nilV 74)).setRow w.heap.size tabV)
    rw [e]
    exact results_cell_row Tryd.results35 _ _ w.heap.size _ tabV (0, 0) (.array 26 73) rfl (World.alloc_heap_new w _) (by kernel_rfl) (by kernel_rfl) (by kernel_rfl)
  · show Below w.heap.size w ((w.alloc (.cells nilV 74)).setRow w.heap.size tabV)
    rw [e]; exact b0
/-- A command's block: its letter and its numbers. -/
def BoxC7 (n c : Nat) (v : Value) (w : World) : Prop := w.heap[n]? = some (.cells #[.int .u8 (c : Int), v] 34)
theorem BoxC7.c0 {n c : Nat} {v : Value} {w : World} (h : BoxC7 n c v w) : w.cell? ⟨n, 0, none⟩ = some (.int .u8 (c : Int)) := by unfold BoxC7 at h; simp [World.cell?, h]
theorem BoxC7.c1 {n c : Nat} {v : Value} {w : World} (h : BoxC7 n c v w) : w.cell? ⟨n, 1, none⟩ = some v := by unfold BoxC7 at h; simp [World.cell?, h]
theorem BoxC7.lt {n c : Nat} {v : Value} {w : World} (h : BoxC7 n c v w) : n < w.heap.size := by unfold BoxC7 at h; exact (Array.getElem?_eq_some_iff.1 h).1
theorem BoxC7.next {n c : Nat} {v : Value} {w w' : World} (h : BoxC7 n c v w) (t : Below w.heap.size w w') : BoxC7 n c v w' := by
  have := h.lt
  unfold BoxC7 at *; rw [t.block n this]; exact h
theorem BoxC7.other {n c q : Nat} {v u : Value} {w : World} (h : BoxC7 n c v w) (hn : n ≠ q) (o : Nat) : BoxC7 n c v (w.setCell ⟨q, o, none⟩ u) := by
  unfold BoxC7 at *; rw [Below.heap_setCell _ _ _ _ (by exact hn)]; exact h
theorem ArgsAt.next {q : Nat} {a : Option Addr} {zs : List Int} {w w' : World} {B : Nat} (h : ArgsAt q a zs w) (t : Below B w w') (hB : q ≤ B) : ArgsAt q a zs w' := by
  rcases h with h | ⟨b, off, h1, h2, h3⟩
  · exact .inl h
  · exact .inr ⟨b, off, h1, h2, fun i hi => (t.cell (p := ⟨b, off + i, none⟩) (by exact Nat.lt_of_lt_of_le h2 hB)).trans (h3 i hi)⟩
theorem org_ok {s : NS} (h : NOk s) (c : Nat) : NOk (orgM s c) := by
  have z : In32 0 := ⟨by decide, by decide⟩
  refine ⟨h.px, h.py, h.qx, h.qy, ?_, ?_, h.last⟩
  · show In32 (if 97 ≤ c then s.px else 0); split; exact h.px; exact z
  · show In32 (if 97 ≤ c then s.py else 0); split; exact h.py; exact z
theorem StAt.sets67 {q : Nat} {v : Value} {s s' : NS} {w : World} (h : StAt q v s w) (h1 : s'.px = s.px) (h2 : s'.py = s.py) (h3 : s'.qx = s.qx) (h4 : s'.qy = s.qy) (h5 : s'.op = s.op) :
    StAt q v s' ((w.setCell ⟨q, 6, none⟩ (.int .i64 s'.ox)).setCell ⟨q, 7, none⟩ (.int .i64 s'.oy)) := by
  unfold StAt at *
  simp only [World.setCell, Array.getElem?_modify, h, h1, h2, h3, h4, h5]
  simp
/-- What take asks of a function of the table. -/
def Taken (f L n : Nat) : Prop := StepOk f L n ∧ ∀ args w, (callFunc f args).run Tryd.prog w = .ok (.enter f args) w
set_option maxHeartbeats 8000000 in
set_option maxRecDepth 100000 in
theorem take_any7 (f n : Nat) (q R : Nat) (v : Value) (s : NS) (c : Nat) (a : Option Addr) (cap : Nat) (zs : List Int) (w : World) (hf : Taken f (capL c) n) (H : StAt q v s w) (hr : Segs R v s.out w) (hqR : q < R) (hR : R ≤ w.heap.size) (hl : s.out.length ≤ 10000000) (ok : NOk s)
    (hz : zs.length = n) (hA : ∀ i, In32 (nA zs i)) (hI : ArgsAt q a zs w) (hc : cntL c ≠ 99) (hne : capL c ≠ 77 → s.out ≠ []) (hcap : n ≤ cap) :
    Calls Tryd.prog 36 #[.pointer (some ⟨q, 0, none⟩), .agg #[.int .u8 (c : Int), .slice a n cap], .func (.func f) #[] #[]] w (NPost q R (stepM (capL c) (orgM s c) zs) w) := by
  have hnq : w.heap.size ≠ q := fun e => by have := H.lt; omega
  obtain ⟨a0, cap0, rfl⟩ := hr.shape
  obtain ⟨s0, hs0⟩ : ∃ s0 : NS, s0 = ⟨s.out, s.px, s.py, s.qx, s.qy, s.op, 0, 0⟩ := ⟨_, rfl⟩
  have H0 := H.sets67 (s' := s0) (by rw [hs0]) (by rw [hs0]) (by rw [hs0]) (by rw [hs0]) (by rw [hs0])
  rw [show s0.ox = 0 by rw [hs0], show s0.oy = 0 by rw [hs0]] at H0
  have no := H.not_own hr
  have R0 := (hr.set no 6 (.int .i64 0)).set no 7 (.int .i64 0)
  have K0 := ((KepS.refl q w).set 6 (.int .i64 0)).set 7 (.int .i64 0)
  have A0 := hI.next (K0.below (Nat.le_of_lt H.lt)) (Nat.le_refl _)
  have b0 := (Below.refl ((w.setCell ⟨q, 6, none⟩ (.int .i64 0)).setCell ⟨q, 7, none⟩ (.int .i64 0)).heap.size _).alloc (Nat.le_refl _) (.cells #[.int .u8 (c : Int), .slice a n cap] 34)
  have hsz : ((w.setCell ⟨q, 6, none⟩ (.int .i64 0)).setCell ⟨q, 7, none⟩ (.int .i64 0)).heap.size = w.heap.size := by simp [World.setCell]
  have P : BoxC7 w.heap.size c (.slice a n cap) (((w.setCell ⟨q, 6, none⟩ (.int .i64 0)).setCell ⟨q, 7, none⟩ (.int .i64 0)).alloc (.cells #[.int .u8 (c : Int), .slice a n cap] 34)) := by
    have := World.alloc_heap_new ((w.setCell ⟨q, 6, none⟩ (.int .i64 0)).setCell ⟨q, 7, none⟩ (.int .i64 0)) (.cells #[.int .u8 (c : Int), .slice a n cap] 34)
    rw [hsz] at this; exact this
  have HS := Lib.hid (H0.next b0)
  have HR := Lib.hid (R0.next b0)
  have HP := Lib.hid P
  have HK := Lib.hid (K0.trans (KepS.of_below b0))
  have HA := Lib.hid (A0.next b0 (by rw [hsz]; exact Nat.le_of_lt H.lt))
  have HC := Lib.hid (fun w => capital_any c hc w)
  have HF := Lib.hid hf.1
  have ef := hf.2
  have OK := Lib.hid (org_ok ok c)
  have k6 := H.c6
  have k7 := H.c7
  have z6 := H.z 6
  have z7 := H.z 7
  have hq0 := H.lt
  have hsm := cap_small hc
  clear b0 P H hr hI hf ok no R0 K0 A0 H0 hsz
  go_enter Tryd.func36, Tryd.ntmps36
  go_wp2_with fail
  generalize hW1 : ((w.setCell ⟨q, 6, none⟩ (.int .i64 0)).setCell ⟨q, 7, none⟩ (.int .i64 0)).alloc (.cells #[.int .u8 (c : Int), .slice a n cap] 34) = W1 at *
  have c0 := HP.out.c0
  have hn1 : w.heap.size < W1.heap.size := HP.out.lt
  by_cases h97 : 97 ≤ c
  · have hb : ((c : Int) != (capL c : Int)) = true := by rw [bne_iff_ne]; intro e; exact hsm.1 h97 (by omega)
    obtain ⟨sO, hsO⟩ : ∃ sO, sO = orgM s c := ⟨_, rfl⟩
    have e1 : sO.ox = s.px := by rw [hsO]; show (if 97 ≤ c then s.px else 0) = s.px; rw [if_pos h97]
    have e2 : sO.oy = s.py := by rw [hsO]; show (if 97 ≤ c then s.py else 0) = s.py; rw [if_pos h97]
    go_quiet (first | (go_at_call 34; exact Calls.quiet_of_same ((HC.out _).mono (fun e w2 h => ⟨h.1, h.2.symm⟩))))
    have d := drewq W1 nq
    have S2 := Lib.hid (HS.out.next d)
    have R2 := Lib.hid (HR.out.next d)
    have P2 := Lib.hid (HP.out.next d)
    have K2 := Lib.hid (HK.out.trans (KepS.of_below d))
    have A2 := Lib.hid (HA.out.next d (by omega))
    have hs2 : w.heap.size < (W1.drewN nq).heap.size := P2.out.lt
    generalize W1.drewN nq = W2 at *
    have q1 := S2.out.c1
    have q2 := S2.out.c2
    have q6 := S2.out.c6
    have q7 := S2.out.c7
    have y6 := S2.out.z 6
    have y7 := S2.out.z 7
    rw [show s0.px = s.px by rw [hs0]] at q1
    rw [show s0.py = s.py by rw [hs0]] at q2
    have S3 := S2.out.sets67 (s' := sO) (by rw [hs0, hsO]; rfl) (by rw [hs0, hsO]; rfl) (by rw [hs0, hsO]; rfl) (by rw [hs0, hsO]; rfl) (by rw [hs0, hsO]; rfl)
    rw [e1, e2] at S3
    have no2 := S2.out.not_own R2.out
    have R3 := (R2.out.set no2 6 (.int .i64 s.px)).set no2 7 (.int .i64 s.py)
    have P3 := (P2.out.other hnq 6 (u := .int .i64 s.px)).other hnq 7 (u := .int .i64 s.py)
    have K3 := (K2.out.set 6 (.int .i64 s.px)).set 7 (.int .i64 s.py)
    have A3 := A2.out.next (((KepS.refl q W2).set 6 (.int .i64 s.px)).set 7 (.int .i64 s.py) |>.below (by omega)) (Nat.le_refl _)
    have f1 := P3.c1
    have HF2 := Lib.hid (HF.out q R _ sO a cap zs _ S3 (by rw [hsO]; exact R3) hqR (by have := K3.size; omega) (by rw [hsO]; exact hl) (by rw [hsO]; exact OK.out) hz hA A3 (fun h => by rw [hsO]; exact hne h) hcap)
    have KK := Lib.hid K3
    rw [hsO] at HF2
    clear d HS HR HP HK HA S2 R2 P2 K2 A2 S3 R3 P3 K3 A3 HF HC OK k6 k7 z6 z7 hsm hsO e1 e2
    go_wp2_with fail
    refine HF2.out.mono ?_
    rintro e wF ⟨rfl, h1, h2⟩
    have FIN := Lib.hid (show NPost q R (stepM (capL c) (orgM s c) zs) w (.returned (.tuple #[])) wF from ⟨rfl, h1, KK.out.trans h2⟩)
    clear h1 h2
    go_wp2_with fail
    go_end0
    exact FIN.out
  · have hb : ((c : Int) != (capL c : Int)) = false := by rw [hsm.2 h97]; simp
    have hsO : s0 = orgM s c := by rw [hs0]; unfold orgM; rw [if_neg h97, if_neg h97]
    go_quiet (first | (go_at_call 34; exact Calls.quiet_of_same ((HC.out _).mono (fun e w2 h => ⟨h.1, h.2.symm⟩))))
    have d := drewq W1 nq
    have S2 := HS.out.next d
    have R2 := HR.out.next d
    have P2 := HP.out.next d
    have K2 := HK.out.trans (KepS.of_below d)
    have A2 := HA.out.next d (by omega)
    have hs2 : w.heap.size < (W1.drewN nq).heap.size := P2.lt
    generalize W1.drewN nq = W2 at *
    have f1 := P2.c1
    have HF2 := Lib.hid (HF.out q R _ s0 a cap zs _ S2 (by rw [hs0]; exact R2) hqR (by omega) (by rw [hs0]; exact hl) (by rw [hsO]; exact OK.out) hz hA A2 (fun h => by rw [hs0]; exact hne h) hcap)
    have KK := Lib.hid K2
    rw [hsO] at HF2
    clear d HS HR HP HK HA S2 R2 P2 K2 A2 HF HC OK k6 k7 z6 z7 hsm hsO
    go_wp2_with fail
    refine HF2.out.mono ?_
    rintro e wF ⟨rfl, h1, h2⟩
    have FIN := Lib.hid (show NPost q R (stepM (capL c) (orgM s c) zs) w (.returned (.tuple #[])) wF from ⟨rfl, h1, KK.out.trans h2⟩)
    clear h1 h2
    go_wp2_with fail
    go_end0
    exact FIN.out
end Go.Proofs.YtgiibcnakiggaaaDoor
