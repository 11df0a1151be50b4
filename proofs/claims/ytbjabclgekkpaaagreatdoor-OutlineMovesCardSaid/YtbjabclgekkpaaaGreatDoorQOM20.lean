/- Joined: NormMir, NormStep, NormStep2. -/
import Derived.Test.YtbjabclgekkpaaaGreatDoorQOM19
namespace Go.Proofs.YtbjabclgekkpaaaGreatDoor
open Go.RowKit Go.Shelf
theorem below_pt {w w' : World} {n : Nat} (h : Below w.heap.size w w') (hn : w.heap.size ≤ n) (x y : Value) : Below w.heap.size w ((w'.setCell ⟨n, 0, none⟩ x).setCell ⟨n, 1, none⟩ y) :=
  Below.setCell (Below.setCell h (by exact hn) _) (by exact hn) _
def MirPost (s : NS) (k : Int) (w : World) (e : Ending) (w' : World) : Prop := e = .returned (ptV (mirM s k).1 (mirM s k).2) ∧ Below w.heap.size w w'
set_option maxHeartbeats 4000000 in
set_option maxRecDepth 100000 in
theorem mir_other (q R : Nat) (v : Value) (s : NS) (k : Int) (w : World) (H : StAt q v s w) (hr : Segs R v s.out w) (hne : s.out ≠ []) (hl : s.out.length ≤ 100000000) (hk : (lastM s).kind ≠ k) :
    Calls Tryz.prog 138 #[.pointer (some ⟨q, 0, none⟩), .int .i64 k] w (MirPost s k w) := by
  have b0 := (Below.refl w.heap.size w).alloc (Nat.le_refl _) (.cells #[.int .i64 0, .int .i64 0] 40)
  have P := PtAt.new w 0 0
  have LA := Lib.hid (last_any7 q R v s _ (H.next b0) (hr.next b0) hne hl)
  have HS := Lib.hid (H.next b0)
  have HP := Lib.hid P
  have HB := Lib.hid b0
  have hm : mirM s k = (s.px, s.py) := by unfold mirM; rw [if_neg hk]
  have hkb : ((lastM s).kind != k) = true := by simp [bne_iff_ne, hk]
  have HM := Lib.hid hm
  generalize hg : lastM s = g at *
  clear b0 P H hr hm hk hg
  go_enter Tryz.func138, Tryz.ntmps138
  go_wp2_with fail
  generalize hW1 : w.alloc (.cells #[.int .i64 0, .int .i64 0] 40) = W1 at *
  refine LA.out.mono ?_
  rintro e W2 ⟨rfl, b2⟩
  have HS2 := Lib.hid (HS.out.next b2)
  have HP2 := Lib.hid (HP.out.next b2)
  have HB2 := Lib.hid (HB.out.trans (b2.mono HB.out.size))
  have c1 := HS2.out.c1
  have c2 := HS2.out.c2
  have hq2 := HS2.out.lt
  have p0 := HP2.out.c0
  have p1 := HP2.out.c1
  have z0 := HP2.out.z 0
  have z1 := HP2.out.z 1
  have hp2 := HP2.out.lt
  clear HS HP HB LA b2
  unfold Seg.val
  go_wp2_with fail
  have hs3 := below_pt HB2.out (Nat.le_refl _) (.int .i64 s.px) (.int .i64 s.py)
  unfold MirPost
  rw [HM.out]
  exact pt_close Tryz.results138 ((HP2.out.set s.px s.py).next ((Below.refl _ _).alloc (Nat.le_refl _) _)) (hs3.alloc hs3.size _) rfl
set_option maxHeartbeats 4000000 in
set_option maxRecDepth 100000 in
theorem mir_three (q R : Nat) (v : Value) (s : NS) (w : World) (H : StAt q v s w) (hr : Segs R v s.out w) (hne : s.out ≠ []) (hl : s.out.length ≤ 100000000) (hk : (lastM s).kind = 3) (hx : In32 s.px) (hy : In32 s.py) (ha : In32 (lastM s).cx) (hb : In32 (lastM s).cy) :
    Calls Tryz.prog 138 #[.pointer (some ⟨q, 0, none⟩), .int .i64 3] w (MirPost s 3 w) := by
  have b0 := (Below.refl w.heap.size w).alloc (Nat.le_refl _) (.cells #[.int .i64 0, .int .i64 0] 40)
  have P := PtAt.new w 0 0
  have LA := Lib.hid (last_any7 q R v s _ (H.next b0) (hr.next b0) hne hl)
  have HS := Lib.hid (H.next b0)
  have HP := Lib.hid P
  have HB := Lib.hid b0
  have hm : mirM s 3 = (2 * s.px - (lastM s).cx, 2 * s.py - (lastM s).cy) := by unfold mirM; rw [if_pos hk, if_pos rfl]
  unfold In32 at hx hy ha hb
  have e1 : IntKind.i64.wrap (2 * s.px) = 2 * s.px := IntWalk.i64_in _ (by constructor <;> omega)
  have e2 : IntKind.i64.wrap (2 * s.py) = 2 * s.py := IntWalk.i64_in _ (by constructor <;> omega)
  have e3 : IntKind.i64.wrap (2 * s.px - (lastM s).cx) = 2 * s.px - (lastM s).cx := IntWalk.i64_in _ (by constructor <;> omega)
  have e4 : IntKind.i64.wrap (2 * s.py - (lastM s).cy) = 2 * s.py - (lastM s).cy := IntWalk.i64_in _ (by constructor <;> omega)
  have HM := Lib.hid hm
  generalize hg : lastM s = g at *
  clear b0 P H hr hm hg hx hy ha hb
  go_enter Tryz.func138, Tryz.ntmps138
  go_wp2_with fail
  generalize hW1 : w.alloc (.cells #[.int .i64 0, .int .i64 0] 40) = W1 at *
  refine LA.out.mono ?_
  rintro e W2 ⟨rfl, b2⟩
  have HS2 := Lib.hid (HS.out.next b2)
  have HP2 := Lib.hid (HP.out.next b2)
  have HB2 := Lib.hid (HB.out.trans (b2.mono HB.out.size))
  have c1 := HS2.out.c1
  have c2 := HS2.out.c2
  have hq2 := HS2.out.lt
  have p0 := HP2.out.c0
  have p1 := HP2.out.c1
  have z0 := HP2.out.z 0
  have z1 := HP2.out.z 1
  have hp2 := HP2.out.lt
  clear HS HP HB LA b2
  unfold Seg.val
  go_wp2_with fail
  go_region
  all_goals
    go_wp2_with fail
    have hs3 := below_pt HB2.out (Nat.le_refl _) (.int .i64 (2 * s.px - g.cx)) (.int .i64 (2 * s.py - g.cy))
    unfold MirPost
    rw [HM.out]
    exact pt_close Tryz.results138 (((HP2.out.set _ _).next ((Below.refl _ _).alloc (Nat.le_refl _) _)).next ((Below.refl _ _).alloc (Nat.le_refl _) _).drew) ((hs3.alloc hs3.size _).alloc (hs3.alloc hs3.size _).size _).drew rfl
set_option maxHeartbeats 4000000 in
set_option maxRecDepth 100000 in
theorem mir_four (q R : Nat) (v : Value) (s : NS) (w : World) (H : StAt q v s w) (hr : Segs R v s.out w) (hne : s.out ≠ []) (hl : s.out.length ≤ 100000000) (hk : (lastM s).kind = 4) (hx : In32 s.px) (hy : In32 s.py) (ha : In32 (lastM s).ax) (hb : In32 (lastM s).ay) :
    Calls Tryz.prog 138 #[.pointer (some ⟨q, 0, none⟩), .int .i64 4] w (MirPost s 4 w) := by
  have b0 := (Below.refl w.heap.size w).alloc (Nat.le_refl _) (.cells #[.int .i64 0, .int .i64 0] 40)
  have P := PtAt.new w 0 0
  have LA := Lib.hid (last_any7 q R v s _ (H.next b0) (hr.next b0) hne hl)
  have HS := Lib.hid (H.next b0)
  have HP := Lib.hid P
  have HB := Lib.hid b0
  have hm : mirM s 4 = (2 * s.px - (lastM s).ax, 2 * s.py - (lastM s).ay) := by unfold mirM; rw [if_pos hk, if_neg (by decide)]
  unfold In32 at hx hy ha hb
  have e1 : IntKind.i64.wrap (2 * s.px) = 2 * s.px := IntWalk.i64_in _ (by constructor <;> omega)
  have e2 : IntKind.i64.wrap (2 * s.py) = 2 * s.py := IntWalk.i64_in _ (by constructor <;> omega)
  have e3 : IntKind.i64.wrap (2 * s.px - (lastM s).ax) = 2 * s.px - (lastM s).ax := IntWalk.i64_in _ (by constructor <;> omega)
  have e4 : IntKind.i64.wrap (2 * s.py - (lastM s).ay) = 2 * s.py - (lastM s).ay := IntWalk.i64_in _ (by constructor <;> omega)
  have HM := Lib.hid hm
  generalize hg : lastM s = g at *
  clear b0 P H hr hm hg hx hy ha hb
  go_enter Tryz.func138, Tryz.ntmps138
  go_wp2_with fail
  generalize hW1 : w.alloc (.cells #[.int .i64 0, .int .i64 0] 40) = W1 at *
  refine LA.out.mono ?_
  rintro e W2 ⟨rfl, b2⟩
  have HS2 := Lib.hid (HS.out.next b2)
  have HP2 := Lib.hid (HP.out.next b2)
  have HB2 := Lib.hid (HB.out.trans (b2.mono HB.out.size))
  have c1 := HS2.out.c1
  have c2 := HS2.out.c2
  have hq2 := HS2.out.lt
  have p0 := HP2.out.c0
  have p1 := HP2.out.c1
  have z0 := HP2.out.z 0
  have z1 := HP2.out.z 1
  have hp2 := HP2.out.lt
  clear HS HP HB LA b2
  unfold Seg.val
  go_wp2_with fail
  go_region
  all_goals
    go_wp2_with fail
    have hs3 := below_pt HB2.out (Nat.le_refl _) (.int .i64 (2 * s.px - g.ax)) (.int .i64 (2 * s.py - g.ay))
    unfold MirPost
    rw [HM.out]
    exact pt_close Tryz.results138 (((HP2.out.set _ _).next ((Below.refl _ _).alloc (Nat.le_refl _) _)).next ((Below.refl _ _).alloc (Nat.le_refl _) _).drew) ((hs3.alloc hs3.size _).alloc (hs3.alloc hs3.size _).size _).drew rfl
end Go.Proofs.YtbjabclgekkpaaaGreatDoor
namespace Go.Proofs.YtbjabclgekkpaaaGreatDoor
open Go.RowKit Go.Shelf
/-- The state's numbers are within the bound. -/
structure NOk (s : NS) : Prop where
  px : In32 s.px
  py : In32 s.py
  qx : In32 s.qx
  qy : In32 s.qy
  ox : In32 s.ox
  oy : In32 s.oy
  last : s.out ≠ [] → inB (lastM s)
/-- The numbers of a command, in memory below the state. -/
def ArgsAt (q : Nat) (a : Option Addr) (zs : List Int) (w : World) : Prop :=
  zs = [] ∨ ∃ b off : Nat, a = some ⟨b, off, none⟩ ∧ b < q ∧ ∀ i, i < zs.length → w.cell? ⟨b, off + i, none⟩ = some (.int .i64 (nA zs i))
/-- What a function of the table does. -/
def StepOk (f : Nat) (L n : Nat) : Prop := ∀ (q R : Nat) (v : Value) (s : NS) (a : Option Addr) (cap : Nat) (zs : List Int) (w : World), StAt q v s w → Segs R v s.out w → q < R → R ≤ w.heap.size → s.out.length ≤ 10000000 → NOk s → zs.length = n → (∀ i, In32 (nA zs i)) → ArgsAt q a zs w → (L ≠ 77 → s.out ≠ []) → n ≤ cap →
  Calls Tryz.prog f #[.pointer (some ⟨q, 0, none⟩), .slice a n cap] w (NPost q R (stepM L s zs) w)
theorem begin_np (q R : Nat) (v : Value) (s : NS) (x y : Int) (w : World) (H : StAt q v s w) (hr : Segs R v s.out w) (hqR : q < R) (hR : R ≤ w.heap.size) (hl : s.out.length ≤ 10000000) :
    Calls Tryz.prog 134 #[.pointer (some ⟨q, 0, none⟩), .agg #[.int .i64 x, .int .i64 y]] w (NPost q R (begM s x y) w) := by
  refine (begin_any q R v s x y w H hr hR (by omega)).mono ?_
  rintro e W ⟨he, v', h1, h2, h3, _⟩
  exact ⟨he, ⟨v', h1, h2⟩, KepS.of_kep h3 hr hqR⟩
theorem NPost.after {q R : Nat} {s : NS} {w w1 : World} {e : Ending} {W' : World} (b : Below w.heap.size w w1) (h : NPost q R s w1 e W') : NPost q R s w e W' := ⟨h.1, h.2.1, (KepS.of_below b).trans h.2.2⟩
theorem i64_sum {a b : Int} (ha : In32 a) (hb : In32 b) : I64 (a + b) := by unfold In32 at ha hb; exact ⟨by omega, by omega⟩
theorem wrap_sum {a b : Int} (ha : In32 a) (hb : In32 b) : IntKind.i64.wrap (a + b) = a + b := IntWalk.i64_in _ (i64_sum ha hb)
/-- The mirror, for a walk. -/
theorem mir_any (q R : Nat) (v : Value) (s : NS) (k : Int) (w : World) (H : StAt q v s w) (hr : Segs R v s.out w) (hne : s.out ≠ []) (hl : s.out.length ≤ 10000000) (ok : NOk s) (hk : k = 3 ∨ k = 4) :
    Calls Tryz.prog 138 #[.pointer (some ⟨q, 0, none⟩), .int .i64 k] w (MirPost s k w) := by
  obtain ⟨_, _, h1, h2, h3, h4, _⟩ := ok.last hne
  by_cases h : (lastM s).kind = k
  · rcases hk with rfl | rfl
    · exact mir_three q R v s w H hr hne (by omega) h ok.px ok.py h3 h4
    · exact mir_four q R v s w H hr hne (by omega) h ok.px ok.py h1 h2
  · exact mir_other q R v s k w H hr hne (by omega) h
set_option maxHeartbeats 8000000 in
set_option maxRecDepth 100000 in
theorem step_move : StepOk 91 77 2 := by
  intro q R v s a cap zs w H hr hqR hR hl ok hz hA hI hne hcap
  obtain ⟨b, off, rfl, hbq, hc⟩ : ∃ b off : Nat, a = some ⟨b, off, none⟩ ∧ b < q ∧ ∀ i, i < 2 → w.cell? ⟨b, off + i, none⟩ = some (.int .i64 (nA zs i)) := by
    rcases hI with h | ⟨b, off, h1, h2, h3⟩
    · subst h; simp at hz
    · exact ⟨b, off, h1, h2, by rw [hz] at h3; exact h3⟩
  have ox := ok.ox
  have oy := ok.oy
  have px := ok.px
  have py := ok.py
  have hq := H.lt
  have eS : stepM 77 s zs = begM s (s.ox + nA zs 0) (s.oy + nA zs 1) := by unfold stepM; rfl
  rw [eS]
  clear eS
  have a0 : w.cell? ⟨b, off, none⟩ = some (.int .i64 (nA zs 0)) := hc 0 (by decide)
  have i0 := hA 0
  have a1 : w.cell? ⟨b, off + 1, none⟩ = some (.int .i64 (nA zs 1)) := hc 1 (by decide)
  have i1 := hA 1
  generalize nA zs 0 = x0 at *
  generalize nA zs 1 = x1 at *
  have hbw : b < w.heap.size := by omega
  have hcapI : (2 : Int) ≤ (cap : Int) := by omega
  have dw : Below w.heap.size w w.drew := (Below.refl _ w).drew
  have HS := Lib.hid (H.next dw)
  have HR := Lib.hid (hr.next dw)
  have HD := Lib.hid dw
  have hRd : R ≤ w.drew.heap.size := hR
  have A1 := Lib.hid (show ∀ W, StAt q v s W → Calls Tryz.prog 135 #[.pointer (some ⟨q, 0, none⟩), .int .i64 x0, .int .i64 x1] W fun e w' => e = .returned (.agg #[.int .i64 (s.ox + x0), .int .i64 (s.oy + x1)]) ∧ Below W.heap.size W w' from fun W h => nat_any q v s x0 x1 W h (i64_sum ox i0) (i64_sum oy i1))
  have BG := Lib.hid (show ∀ W, StAt q v s W → Segs R v s.out W → R ≤ W.heap.size → Calls Tryz.prog 134 #[.pointer (some ⟨q, 0, none⟩), .agg #[.int .i64 (s.ox + x0), .int .i64 (s.oy + x1)]] W (NPost q R (begM s (s.ox + x0) (s.oy + x1)) W) from fun W h1 h2 h3 => begin_np q R v s _ _ W h1 h2 hqR h3 hl)
  clear hc hA hI H hr hne ok
  go_enter Tryz.func91, Tryz.ntmps91
  go_wp2_with fail
  go_region_held3 (fun w' => w'.cell? ⟨b, off, none⟩ = some (.int .i64 x0) ∧ w'.cell? ⟨b, off + 1, none⟩ = some (.int .i64 x1)) (first | (simp [go_sem, *]; done) | (exact ⟨by assumption, by assumption⟩))
    (first
      | (go_at_call 135; (with_reducible refine (A1.out _ HS.out).mono ?_); rintro e w1 ⟨rfl, b1⟩; have HS1 := Lib.hid (HS.out.next b1); have HR1 := Lib.hid (HR.out.next b1); have HD1 := Lib.hid (HD.out.trans (b1.mono HD.out.size)); have hR1 := Nat.le_trans hR HD1.out.size; have r0 := (b1.cell (p := ⟨b, off, none⟩) (by exact Nat.lt_of_lt_of_le hbw HD.out.size)).trans a0; have r1 := (b1.cell (p := ⟨b, off + 1, none⟩) (by exact Nat.lt_of_lt_of_le hbw HD.out.size)).trans a1; clear b1)
      | (go_at_call 134; (with_reducible refine (BG.out _ HS1.out HR1.out hR1).mono ?_); rintro e wF HF; have FIN := Lib.hid (NPost.after HD1.out HF); have hee := HF.1; have t0 := ((HF.2.2.below (Nat.le_of_lt HS1.out.lt)).cell (p := ⟨b, off, none⟩) (by exact hbq)).trans r0; have t1 := ((HF.2.2.below (Nat.le_of_lt HS1.out.lt)).cell (p := ⟨b, off + 1, none⟩) (by exact hbq)).trans r1; clear HF; subst hee))
  all_goals
    go_end0
    exact FIN.out
set_option maxHeartbeats 8000000 in
set_option maxRecDepth 100000 in
theorem step_line : StepOk 92 76 2 := by
  intro q R v s a cap zs w H hr hqR hR hl ok hz hA hI hne hcap
  obtain ⟨b, off, rfl, hbq, hc⟩ : ∃ b off : Nat, a = some ⟨b, off, none⟩ ∧ b < q ∧ ∀ i, i < 2 → w.cell? ⟨b, off + i, none⟩ = some (.int .i64 (nA zs i)) := by
    rcases hI with h | ⟨b, off, h1, h2, h3⟩
    · subst h; simp at hz
    · exact ⟨b, off, h1, h2, by rw [hz] at h3; exact h3⟩
  have ox := ok.ox
  have oy := ok.oy
  have px := ok.px
  have py := ok.py
  have hq := H.lt
  have eS : stepM 76 s zs = addM s (segS 2 (s.ox + nA zs 0) (s.oy + nA zs 1) 0 0 0 0) := by unfold stepM; rfl
  rw [eS]
  clear eS
  have a0 : w.cell? ⟨b, off, none⟩ = some (.int .i64 (nA zs 0)) := hc 0 (by decide)
  have i0 := hA 0
  have a1 : w.cell? ⟨b, off + 1, none⟩ = some (.int .i64 (nA zs 1)) := hc 1 (by decide)
  have i1 := hA 1
  generalize nA zs 0 = x0 at *
  generalize nA zs 1 = x1 at *
  have hbw : b < w.heap.size := by omega
  have hcapI : (2 : Int) ≤ (cap : Int) := by omega
  have dw : Below w.heap.size w w.drew := (Below.refl _ w).drew
  have HS := Lib.hid (H.next dw)
  have HR := Lib.hid (hr.next dw)
  have HD := Lib.hid dw
  have hRd : R ≤ w.drew.heap.size := hR
  have A1 := Lib.hid (show ∀ W, StAt q v s W → Calls Tryz.prog 135 #[.pointer (some ⟨q, 0, none⟩), .int .i64 x0, .int .i64 x1] W fun e w' => e = .returned (.agg #[.int .i64 (s.ox + x0), .int .i64 (s.oy + x1)]) ∧ Below W.heap.size W w' from fun W h => nat_any q v s x0 x1 W h (i64_sum ox i0) (i64_sum oy i1))
  have AD := Lib.hid (show ∀ W, StAt q v s W → Segs R v s.out W → R ≤ W.heap.size → Calls Tryz.prog 136 #[.pointer (some ⟨q, 0, none⟩), .agg #[.int .i64 2, .int .i64 (s.ox + x0), .int .i64 (s.oy + x1), .int .i64 (0), .int .i64 (0), .int .i64 (0), .int .i64 (0), .int .i64 0, .int .i64 0, .int .i64 0, .bool false, .bool false]] W (NPost q R (addM s (segS 2 (s.ox + x0) (s.oy + x1) 0 0 0 0)) W) from fun W h1 h2 h3 => add_any7 q R v s (segS 2 (s.ox + x0) (s.oy + x1) 0 0 0 0) W h1 h2 hqR h3 hl)
  clear hc hA hI H hr hne ok
  go_enter Tryz.func92, Tryz.ntmps92
  go_wp2_with fail
  go_region_held3 (fun w' => w'.cell? ⟨b, off, none⟩ = some (.int .i64 x0) ∧ w'.cell? ⟨b, off + 1, none⟩ = some (.int .i64 x1)) (first | (simp [go_sem, *]; done) | (exact ⟨by assumption, by assumption⟩))
    (first
      | (go_at_call 135; (with_reducible refine (A1.out _ HS.out).mono ?_); rintro e w1 ⟨rfl, b1⟩; have HS1 := Lib.hid (HS.out.next b1); have HR1 := Lib.hid (HR.out.next b1); have HD1 := Lib.hid (HD.out.trans (b1.mono HD.out.size)); have hR1 := Nat.le_trans hR HD1.out.size; have r0 := (b1.cell (p := ⟨b, off, none⟩) (by exact Nat.lt_of_lt_of_le hbw HD.out.size)).trans a0; have r1 := (b1.cell (p := ⟨b, off + 1, none⟩) (by exact Nat.lt_of_lt_of_le hbw HD.out.size)).trans a1; clear b1)
      | (go_at_call 136; (with_reducible refine (AD.out _ HS1.out HR1.out hR1).mono ?_); rintro e wF HF; have FIN := Lib.hid (NPost.after HD1.out HF); have hee := HF.1; have t0 := ((HF.2.2.below (Nat.le_of_lt HS1.out.lt)).cell (p := ⟨b, off, none⟩) (by exact hbq)).trans r0; have t1 := ((HF.2.2.below (Nat.le_of_lt HS1.out.lt)).cell (p := ⟨b, off + 1, none⟩) (by exact hbq)).trans r1; clear HF; subst hee))
  all_goals
    go_end0
    exact FIN.out
set_option maxHeartbeats 8000000 in
set_option maxRecDepth 100000 in
theorem step_across : StepOk 93 72 1 := by
  intro q R v s a cap zs w H hr hqR hR hl ok hz hA hI hne hcap
  obtain ⟨b, off, rfl, hbq, hc⟩ : ∃ b off : Nat, a = some ⟨b, off, none⟩ ∧ b < q ∧ ∀ i, i < 1 → w.cell? ⟨b, off + i, none⟩ = some (.int .i64 (nA zs i)) := by
    rcases hI with h | ⟨b, off, h1, h2, h3⟩
    · subst h; simp at hz
    · exact ⟨b, off, h1, h2, by rw [hz] at h3; exact h3⟩
  have ox := ok.ox
  have oy := ok.oy
  have px := ok.px
  have py := ok.py
  have hq := H.lt
  have eS : stepM 72 s zs = addM s (segS 2 (s.ox + nA zs 0) (s.py) 0 0 0 0) := by unfold stepM; rfl
  rw [eS]
  clear eS
  have a0 : w.cell? ⟨b, off, none⟩ = some (.int .i64 (nA zs 0)) := hc 0 (by decide)
  have i0 := hA 0
  generalize nA zs 0 = x0 at *
  have hbw : b < w.heap.size := by omega
  have hcapI : (1 : Int) ≤ (cap : Int) := by omega
  have dw : Below w.heap.size w w.drew := (Below.refl _ w).drew
  have HS := Lib.hid (H.next dw)
  have HR := Lib.hid (hr.next dw)
  have HD := Lib.hid dw
  have hRd : R ≤ w.drew.heap.size := hR
  have e1 := wrap_sum ox i0
  have q0 := H.c1
  have q1 := H.c2
  have q2 := H.c6
  have q3 := H.c7
  have AD := Lib.hid (show ∀ W, StAt q v s W → Segs R v s.out W → R ≤ W.heap.size → Calls Tryz.prog 136 #[.pointer (some ⟨q, 0, none⟩), .agg #[.int .i64 2, .int .i64 (s.ox + x0), .int .i64 (s.py), .int .i64 (0), .int .i64 (0), .int .i64 (0), .int .i64 (0), .int .i64 0, .int .i64 0, .int .i64 0, .bool false, .bool false]] W (NPost q R (addM s (segS 2 (s.ox + x0) (s.py) 0 0 0 0)) W) from fun W h1 h2 h3 => add_any7 q R v s (segS 2 (s.ox + x0) (s.py) 0 0 0 0) W h1 h2 hqR h3 hl)
  clear hc hA hI H hr hne ok
  go_enter Tryz.func93, Tryz.ntmps93
  go_wp2_with fail
  go_region_with (first
      | (go_at_call 136; (with_reducible refine (AD.out _ HS.out HR.out hRd).mono ?_); rintro e wF HF; have FIN := Lib.hid (NPost.after HD.out HF); have hee := HF.1; clear HF; subst hee))
  all_goals
    go_end0
    exact FIN.out
set_option maxHeartbeats 8000000 in
set_option maxRecDepth 100000 in
theorem step_down : StepOk 94 86 1 := by
  intro q R v s a cap zs w H hr hqR hR hl ok hz hA hI hne hcap
  obtain ⟨b, off, rfl, hbq, hc⟩ : ∃ b off : Nat, a = some ⟨b, off, none⟩ ∧ b < q ∧ ∀ i, i < 1 → w.cell? ⟨b, off + i, none⟩ = some (.int .i64 (nA zs i)) := by
    rcases hI with h | ⟨b, off, h1, h2, h3⟩
    · subst h; simp at hz
    · exact ⟨b, off, h1, h2, by rw [hz] at h3; exact h3⟩
  have ox := ok.ox
  have oy := ok.oy
  have px := ok.px
  have py := ok.py
  have hq := H.lt
  have eS : stepM 86 s zs = addM s (segS 2 (s.px) (s.oy + nA zs 0) 0 0 0 0) := by unfold stepM; rfl
  rw [eS]
  clear eS
  have a0 : w.cell? ⟨b, off, none⟩ = some (.int .i64 (nA zs 0)) := hc 0 (by decide)
  have i0 := hA 0
  generalize nA zs 0 = x0 at *
  have hbw : b < w.heap.size := by omega
  have hcapI : (1 : Int) ≤ (cap : Int) := by omega
  have dw : Below w.heap.size w w.drew := (Below.refl _ w).drew
  have HS := Lib.hid (H.next dw)
  have HR := Lib.hid (hr.next dw)
  have HD := Lib.hid dw
  have hRd : R ≤ w.drew.heap.size := hR
  have e1 := wrap_sum oy i0
  have q0 := H.c1
  have q1 := H.c2
  have q2 := H.c6
  have q3 := H.c7
  have AD := Lib.hid (show ∀ W, StAt q v s W → Segs R v s.out W → R ≤ W.heap.size → Calls Tryz.prog 136 #[.pointer (some ⟨q, 0, none⟩), .agg #[.int .i64 2, .int .i64 (s.px), .int .i64 (s.oy + x0), .int .i64 (0), .int .i64 (0), .int .i64 (0), .int .i64 (0), .int .i64 0, .int .i64 0, .int .i64 0, .bool false, .bool false]] W (NPost q R (addM s (segS 2 (s.px) (s.oy + x0) 0 0 0 0)) W) from fun W h1 h2 h3 => add_any7 q R v s (segS 2 (s.px) (s.oy + x0) 0 0 0 0) W h1 h2 hqR h3 hl)
  clear hc hA hI H hr hne ok
  go_enter Tryz.func94, Tryz.ntmps94
  go_wp2_with fail
  go_region_with (first
      | (go_at_call 136; (with_reducible refine (AD.out _ HS.out HR.out hRd).mono ?_); rintro e wF HF; have FIN := Lib.hid (NPost.after HD.out HF); have hee := HF.1; clear HF; subst hee))
  all_goals
    go_end0
    exact FIN.out
set_option maxHeartbeats 8000000 in
set_option maxRecDepth 100000 in
theorem step_finish : StepOk 100 90 0 := by
  intro q R v s a cap zs w H hr hqR hR hl ok hz hA hI hne hcap
  have ox := ok.ox
  have oy := ok.oy
  have px := ok.px
  have py := ok.py
  have hq := H.lt
  have FS : stepM 90 s zs = ⟨(addM s (segS 6 s.qx s.qy 0 0 0 0)).out, s.qx, s.qy, (openM s).qx, (openM s).qy, false, s.ox, s.oy⟩ := by unfold stepM; rfl
  rw [FS]
  clear FS
  have q0 := H.c3
  have q1 := H.c4
  have AD := Lib.hid (show Calls Tryz.prog 136 #[.pointer (some ⟨q, 0, none⟩), .agg #[.int .i64 6, .int .i64 (s.qx), .int .i64 (s.qy), .int .i64 (0), .int .i64 (0), .int .i64 (0), .int .i64 (0), .int .i64 0, .int .i64 0, .int .i64 0, .bool false, .bool false]] w (NPost q R (addM s (segS 6 s.qx s.qy 0 0 0 0)) w) from add_any7 q R v s (segS 6 s.qx s.qy 0 0 0 0) w H hr hqR hR hl)
  clear hA hI H hr hne ok hcap ox oy px py
  go_enter Tryz.func100, Tryz.ntmps100
  go_wp2_with fail
  refine AD.out.mono ?_
  rintro e W2 ⟨rfl, ⟨v2, h1, h2⟩, h3⟩
  have k5 := h1.c5
  have z5 := h1.z 5
  have H1 := Lib.hid h1
  have H2 := Lib.hid h2
  have H3 := Lib.hid h3
  clear h1 h2 h3 AD q0 q1
  go_wp2_with fail
  go_end0
  refine ⟨rfl, ⟨v2, ?_, ?_⟩, H3.out.set _ _⟩
  · exact H1.out.set5 (s' := ⟨(addM s (segS 6 s.qx s.qy 0 0 0 0)).out, s.qx, s.qy, (openM s).qx, (openM s).qy, false, s.ox, s.oy⟩) rfl rfl rfl rfl rfl rfl
  · exact H2.out.set (H1.out.not_own H2.out) _ _
set_option maxHeartbeats 8000000 in
set_option maxRecDepth 100000 in
theorem addCubic_any (q R : Nat) (v : Value) (s : NS) (c d : Int) (b off cap : Nat) (x0 x1 x2 x3 : Int) (w : World) (H : StAt q v s w) (hr : Segs R v s.out w) (hqR : q < R) (hR : R ≤ w.heap.size) (hl : s.out.length ≤ 10000000) (ok : NOk s) (i0 : In32 x0) (i1 : In32 x1) (i2 : In32 x2) (i3 : In32 x3) (hbq : b < q)
    (a0 : w.cell? ⟨b, off, none⟩ = some (.int .i64 x0)) (a1 : w.cell? ⟨b, off + 1, none⟩ = some (.int .i64 x1)) (a2 : w.cell? ⟨b, off + 2, none⟩ = some (.int .i64 x2)) (a3 : w.cell? ⟨b, off + 3, none⟩ = some (.int .i64 x3)) :
    Calls Tryz.prog 137 #[.pointer (some ⟨q, 0, none⟩), .agg #[.int .i64 c, .int .i64 d], .slice (some ⟨b, off, none⟩) 4 cap] w (NPost q R (addM s (segS 3 (s.ox + x2) (s.oy + x3) c d (s.ox + x0) (s.oy + x1))) w) := by
  have ox := ok.ox
  have oy := ok.oy
  have hq := H.lt
  have hbw : b < w.heap.size := by omega
  have b0 := (Below.refl w.heap.size w).alloc (Nat.le_refl _) (.cells #[.int .i64 c, .int .i64 d] 40)
  have P := PtAt.new w c d
  have h0 := H.next b0
  have r0' := hr.next b0
  have f0 := (b0.cell (p := ⟨b, off, none⟩) (by exact hbw)).trans a0
  have f1 := (b0.cell (p := ⟨b, off + 1, none⟩) (by exact hbw)).trans a1
  have f2 := (b0.cell (p := ⟨b, off + 2, none⟩) (by exact hbw)).trans a2
  have f3 := (b0.cell (p := ⟨b, off + 3, none⟩) (by exact hbw)).trans a3
  have A1 := Lib.hid (show ∀ W, StAt q v s W → Calls Tryz.prog 135 #[.pointer (some ⟨q, 0, none⟩), .int .i64 x0, .int .i64 x1] W fun e w' => e = .returned (.agg #[.int .i64 (s.ox + x0), .int .i64 (s.oy + x1)]) ∧ Below W.heap.size W w' from fun W h => nat_any q v s x0 x1 W h (i64_sum ox i0) (i64_sum oy i1))
  have A2 := Lib.hid (show ∀ W, StAt q v s W → Calls Tryz.prog 135 #[.pointer (some ⟨q, 0, none⟩), .int .i64 x2, .int .i64 x3] W fun e w' => e = .returned (.agg #[.int .i64 (s.ox + x2), .int .i64 (s.oy + x3)]) ∧ Below W.heap.size W w' from fun W h => nat_any q v s x2 x3 W h (i64_sum ox i2) (i64_sum oy i3))
  have AD := Lib.hid (show ∀ W, StAt q v s W → Segs R v s.out W → R ≤ W.heap.size → Calls Tryz.prog 136 #[.pointer (some ⟨q, 0, none⟩), .agg #[.int .i64 3, .int .i64 (s.ox + x2), .int .i64 (s.oy + x3), .int .i64 (c), .int .i64 (d), .int .i64 (s.ox + x0), .int .i64 (s.oy + x1), .int .i64 0, .int .i64 0, .int .i64 0, .bool false, .bool false]] W (NPost q R (addM s (segS 3 (s.ox + x2) (s.oy + x3) c d (s.ox + x0) (s.oy + x1))) W) from fun W h1 h2 h3 => add_any7 q R v s (segS 3 (s.ox + x2) (s.oy + x3) c d (s.ox + x0) (s.oy + x1)) W h1 h2 hqR h3 hl)
  go_enter Tryz.func137, Tryz.ntmps137
  go_wp2_with fail
  generalize hW1 : w.alloc (.cells #[.int .i64 c, .int .i64 d] 40) = W1 at *
  have hn : w.heap.size < W1.heap.size := P.lt
  have dw : Below W1.heap.size W1 W1.drew := (Below.refl _ W1).drew
  have HS := Lib.hid (h0.next dw)
  have HR := Lib.hid (r0'.next dw)
  have HP := Lib.hid (P.next dw)
  have HB := Lib.hid b0
  have HD := Lib.hid dw
  have hRd : R ≤ W1.drew.heap.size := Nat.le_trans hR (Nat.le_of_lt hn)
  have hbw1 : b < W1.heap.size := Nat.lt_trans hbw hn
  have p0 := P.c0
  have p1 := P.c1
  have hnq : w.heap.size ≠ q := by omega
  clear H hr h0 r0' P b0 a0 a1 a2 a3 dw
  go_region_held3 (fun w' => w'.cell? ⟨w.heap.size, 0, none⟩ = some (.int .i64 c) ∧ w'.cell? ⟨w.heap.size, 1, none⟩ = some (.int .i64 d) ∧ w'.cell? ⟨b, off, none⟩ = some (.int .i64 x0) ∧ w'.cell? ⟨b, off + 1, none⟩ = some (.int .i64 x1) ∧ w'.cell? ⟨b, off + 2, none⟩ = some (.int .i64 x2) ∧ w'.cell? ⟨b, off + 3, none⟩ = some (.int .i64 x3)) (first | (simp [go_sem, *]; done) | (exact ⟨by assumption, by assumption, by assumption, by assumption, by assumption, by assumption⟩))
    (first
      | (go_at_call 135; (with_reducible refine (A1.out _ HS.out).mono ?_); rintro e w1 ⟨rfl, b1⟩; have HS1 := Lib.hid (HS.out.next b1); have HR1 := Lib.hid (HR.out.next b1); have HP1 := Lib.hid (HP.out.next b1); have HD1 := Lib.hid (HD.out.trans (b1.mono HD.out.size)); have hR1 := Nat.le_trans hRd b1.size; have m0 := HP1.out.c0; have m1 := HP1.out.c1; have g0 := (b1.cell (p := ⟨b, off, none⟩) (by exact Nat.lt_of_lt_of_le hbw1 HD.out.size)).trans f0; have g1 := (b1.cell (p := ⟨b, off + 1, none⟩) (by exact Nat.lt_of_lt_of_le hbw1 HD.out.size)).trans f1; have g2 := (b1.cell (p := ⟨b, off + 2, none⟩) (by exact Nat.lt_of_lt_of_le hbw1 HD.out.size)).trans f2; have g3 := (b1.cell (p := ⟨b, off + 3, none⟩) (by exact Nat.lt_of_lt_of_le hbw1 HD.out.size)).trans f3; clear b1)
      | (go_at_call 135; (with_reducible refine (A2.out _ HS1.out).mono ?_); rintro e w2 ⟨rfl, b2⟩; have HS2 := Lib.hid (HS1.out.next b2); have HR2 := Lib.hid (HR1.out.next b2); have HP2 := Lib.hid (HP1.out.next b2); have HD2 := Lib.hid (HD1.out.trans (b2.mono HD1.out.size)); have hR2 := Nat.le_trans hR1 b2.size; have n0 := HP2.out.c0; have n1 := HP2.out.c1; have h0 := (b2.cell (p := ⟨b, off, none⟩) (by exact Nat.lt_of_lt_of_le hbw1 HD1.out.size)).trans g0; have h1 := (b2.cell (p := ⟨b, off + 1, none⟩) (by exact Nat.lt_of_lt_of_le hbw1 HD1.out.size)).trans g1; have h2 := (b2.cell (p := ⟨b, off + 2, none⟩) (by exact Nat.lt_of_lt_of_le hbw1 HD1.out.size)).trans g2; have h3 := (b2.cell (p := ⟨b, off + 3, none⟩) (by exact Nat.lt_of_lt_of_le hbw1 HD1.out.size)).trans g3; clear b2)
      | (go_at_call 136; (with_reducible refine (AD.out _ HS2.out HR2.out hR2).mono ?_); rintro e wF HF; have FIN := Lib.hid (NPost.after (HB.out.trans (HD2.out.mono HB.out.size)) HF); have pF : PtAt w.heap.size c d wF := HF.2.2.keeps HP2.out (by decide) hnq; have y0 := pF.c0; have y1 := pF.c1; have k0 := ((HF.2.2.below (Nat.le_of_lt HS2.out.lt)).cell (p := ⟨b, off, none⟩) (by exact hbq)).trans h0; have k1 := ((HF.2.2.below (Nat.le_of_lt HS2.out.lt)).cell (p := ⟨b, off + 1, none⟩) (by exact hbq)).trans h1; have k2 := ((HF.2.2.below (Nat.le_of_lt HS2.out.lt)).cell (p := ⟨b, off + 2, none⟩) (by exact hbq)).trans h2; have k3 := ((HF.2.2.below (Nat.le_of_lt HS2.out.lt)).cell (p := ⟨b, off + 3, none⟩) (by exact hbq)).trans h3; have hee := HF.1; clear HF pF; subst hee))
  all_goals
    go_end0
    exact FIN.out
end Go.Proofs.YtbjabclgekkpaaaGreatDoor
namespace Go.Proofs.YtbjabclgekkpaaaGreatDoor
open Go.RowKit Go.Shelf
set_option maxHeartbeats 8000000 in
set_option maxRecDepth 100000 in
theorem step_cubic : StepOk 95 67 6 := by
  intro q R v s a cap zs w H hr hqR hR hl ok hz hA hI hne hcap
  obtain ⟨b, off, rfl, hbq, hc⟩ : ∃ b off : Nat, a = some ⟨b, off, none⟩ ∧ b < q ∧ ∀ i, i < 6 → w.cell? ⟨b, off + i, none⟩ = some (.int .i64 (nA zs i)) := by
    rcases hI with h | ⟨b, off, h1, h2, h3⟩
    · subst h; simp at hz
    · exact ⟨b, off, h1, h2, by rw [hz] at h3; exact h3⟩
  have ox := ok.ox
  have oy := ok.oy
  have px := ok.px
  have py := ok.py
  have hq := H.lt
  have eS : stepM 67 s zs = addM s (segS 3 (s.ox + nA zs 4) (s.oy + nA zs 5) (s.ox + nA zs 0) (s.oy + nA zs 1) (s.ox + nA zs 2) (s.oy + nA zs 3)) := by unfold stepM; rfl
  rw [eS]
  clear eS
  have OK := Lib.hid ok
  have a0 : w.cell? ⟨b, off, none⟩ = some (.int .i64 (nA zs 0)) := hc 0 (by decide)
  have i0 := hA 0
  have a1 : w.cell? ⟨b, off + 1, none⟩ = some (.int .i64 (nA zs 1)) := hc 1 (by decide)
  have i1 := hA 1
  have a2 : w.cell? ⟨b, off + 2, none⟩ = some (.int .i64 (nA zs 2)) := hc 2 (by decide)
  have i2 := hA 2
  have a3 : w.cell? ⟨b, off + 3, none⟩ = some (.int .i64 (nA zs 3)) := hc 3 (by decide)
  have i3 := hA 3
  have a4 : w.cell? ⟨b, off + 4, none⟩ = some (.int .i64 (nA zs 4)) := hc 4 (by decide)
  have i4 := hA 4
  have a5 : w.cell? ⟨b, off + 5, none⟩ = some (.int .i64 (nA zs 5)) := hc 5 (by decide)
  have i5 := hA 5
  generalize nA zs 0 = x0 at *
  generalize nA zs 1 = x1 at *
  generalize nA zs 2 = x2 at *
  generalize nA zs 3 = x3 at *
  generalize nA zs 4 = x4 at *
  generalize nA zs 5 = x5 at *
  have hbw : b < w.heap.size := by omega
  have hcapI : (6 : Int) ≤ (cap : Int) := by omega
  have dw : Below w.heap.size w w.drew := (Below.refl _ w).drew
  have HS := Lib.hid (H.next dw)
  have HR := Lib.hid (hr.next dw)
  have HD := Lib.hid dw
  have hRd : R ≤ w.drew.heap.size := hR
  have A1 := Lib.hid (show ∀ W, StAt q v s W → Calls Tryz.prog 135 #[.pointer (some ⟨q, 0, none⟩), .int .i64 x0, .int .i64 x1] W fun e w' => e = .returned (.agg #[.int .i64 (s.ox + x0), .int .i64 (s.oy + x1)]) ∧ Below W.heap.size W w' from fun W h => nat_any q v s x0 x1 W h (i64_sum ox i0) (i64_sum oy i1))
  have AC := Lib.hid (show ∀ W, StAt q v s W → Segs R v s.out W → R ≤ W.heap.size → W.cell? ⟨b, off + 2, none⟩ = some (.int .i64 x2) → W.cell? ⟨b, off + 3, none⟩ = some (.int .i64 x3) → W.cell? ⟨b, off + 4, none⟩ = some (.int .i64 x4) → W.cell? ⟨b, off + 5, none⟩ = some (.int .i64 x5) → Calls Tryz.prog 137 #[.pointer (some ⟨q, 0, none⟩), .agg #[.int .i64 (s.ox + x0), .int .i64 (s.oy + x1)], .slice (some ⟨b, off + 2, none⟩) 4 (cap - 2)] W (NPost q R (addM s (segS 3 (s.ox + x4) (s.oy + x5) (s.ox + x0) (s.oy + x1) (s.ox + x2) (s.oy + x3))) W) from fun W h1 h2 h3 c2 c3 c4 c5 => addCubic_any q R v s _ _ b (off + 2) (cap - 2) x2 x3 x4 x5 W h1 h2 hqR h3 hl OK.out i2 i3 i4 i5 hbq c2 c3 c4 c5)
  clear hc hA hI H hr hne ok
  go_enter Tryz.func95, Tryz.ntmps95
  go_wp2_with fail
  go_region_held3 (fun w' => w'.cell? ⟨b, off, none⟩ = some (.int .i64 x0) ∧ w'.cell? ⟨b, off + 1, none⟩ = some (.int .i64 x1)) (first | (simp [go_sem, *]; done) | (exact ⟨by assumption, by assumption⟩))
    (first
      | (go_at_call 135; (with_reducible refine (A1.out _ HS.out).mono ?_); rintro e w1 ⟨rfl, b1⟩; have HS1 := Lib.hid (HS.out.next b1); have HR1 := Lib.hid (HR.out.next b1); have HD1 := Lib.hid (HD.out.trans (b1.mono HD.out.size)); have hR1 := Nat.le_trans hR HD1.out.size; have r0 := (b1.cell (p := ⟨b, off, none⟩) (by exact Nat.lt_of_lt_of_le hbw HD.out.size)).trans a0; have r1 := (b1.cell (p := ⟨b, off + 1, none⟩) (by exact Nat.lt_of_lt_of_le hbw HD.out.size)).trans a1; have r2 := (b1.cell (p := ⟨b, off + 2, none⟩) (by exact Nat.lt_of_lt_of_le hbw HD.out.size)).trans a2; have r3 := (b1.cell (p := ⟨b, off + 3, none⟩) (by exact Nat.lt_of_lt_of_le hbw HD.out.size)).trans a3; have r4 := (b1.cell (p := ⟨b, off + 4, none⟩) (by exact Nat.lt_of_lt_of_le hbw HD.out.size)).trans a4; have r5 := (b1.cell (p := ⟨b, off + 5, none⟩) (by exact Nat.lt_of_lt_of_le hbw HD.out.size)).trans a5; clear b1)
      | (go_at_call 137; (with_reducible refine (AC.out _ HS1.out HR1.out hR1 r2 r3 r4 r5).mono ?_); rintro e wF HF; have FIN := Lib.hid (NPost.after HD1.out HF); have t0 := ((HF.2.2.below (Nat.le_of_lt HS1.out.lt)).cell (p := ⟨b, off, none⟩) (by exact hbq)).trans r0; have t1 := ((HF.2.2.below (Nat.le_of_lt HS1.out.lt)).cell (p := ⟨b, off + 1, none⟩) (by exact hbq)).trans r1; have hee := HF.1; clear HF; subst hee))
  all_goals
    go_end0
    exact FIN.out
set_option maxHeartbeats 8000000 in
set_option maxRecDepth 100000 in
theorem step_smoothCubic : StepOk 96 83 4 := by
  intro q R v s a cap zs w H hr hqR hR hl ok hz hA hI hne hcap
  obtain ⟨b, off, rfl, hbq, hc⟩ : ∃ b off : Nat, a = some ⟨b, off, none⟩ ∧ b < q ∧ ∀ i, i < 4 → w.cell? ⟨b, off + i, none⟩ = some (.int .i64 (nA zs i)) := by
    rcases hI with h | ⟨b, off, h1, h2, h3⟩
    · subst h; simp at hz
    · exact ⟨b, off, h1, h2, by rw [hz] at h3; exact h3⟩
  have ox := ok.ox
  have oy := ok.oy
  have px := ok.px
  have py := ok.py
  have hq := H.lt
  have eS : stepM 83 s zs = addM s (segS 3 (s.ox + nA zs 2) (s.oy + nA zs 3) (mirM s 3).1 (mirM s 3).2 (s.ox + nA zs 0) (s.oy + nA zs 1)) := by unfold stepM; rfl
  rw [eS]
  clear eS
  have OK := Lib.hid ok
  have a0 : w.cell? ⟨b, off, none⟩ = some (.int .i64 (nA zs 0)) := hc 0 (by decide)
  have i0 := hA 0
  have a1 : w.cell? ⟨b, off + 1, none⟩ = some (.int .i64 (nA zs 1)) := hc 1 (by decide)
  have i1 := hA 1
  have a2 : w.cell? ⟨b, off + 2, none⟩ = some (.int .i64 (nA zs 2)) := hc 2 (by decide)
  have i2 := hA 2
  have a3 : w.cell? ⟨b, off + 3, none⟩ = some (.int .i64 (nA zs 3)) := hc 3 (by decide)
  have i3 := hA 3
  generalize nA zs 0 = x0 at *
  generalize nA zs 1 = x1 at *
  generalize nA zs 2 = x2 at *
  generalize nA zs 3 = x3 at *
  have hbw : b < w.heap.size := by omega
  have hcapI : (4 : Int) ≤ (cap : Int) := by omega
  have MI := Lib.hid (mir_any q R v s 3 w H hr (hne (by decide)) hl ok (Or.inl rfl))
  unfold MirPost at MI
  generalize mirM s 3 = m at *
  obtain ⟨m1, m2⟩ := m
  have AC := Lib.hid (show ∀ W, StAt q v s W → Segs R v s.out W → R ≤ W.heap.size → W.cell? ⟨b, off, none⟩ = some (.int .i64 x0) → W.cell? ⟨b, off + 1, none⟩ = some (.int .i64 x1) → W.cell? ⟨b, off + 2, none⟩ = some (.int .i64 x2) → W.cell? ⟨b, off + 3, none⟩ = some (.int .i64 x3) → Calls Tryz.prog 137 #[.pointer (some ⟨q, 0, none⟩), .agg #[.int .i64 m1, .int .i64 m2], .slice (some ⟨b, off, none⟩) 4 cap] W (NPost q R (addM s (segS 3 (s.ox + x2) (s.oy + x3) m1 m2 (s.ox + x0) (s.oy + x1))) W) from fun W h1 h2 h3 c0 c1 c2 c3 => addCubic_any q R v s m1 m2 b off cap x0 x1 x2 x3 W h1 h2 hqR h3 hl OK.out i0 i1 i2 i3 hbq c0 c1 c2 c3)
  have HS := Lib.hid H
  have HR := Lib.hid hr
  clear hc hA hI H hr hne ok
  go_enter Tryz.func96, Tryz.ntmps96
  go_wp2_with fail
  refine MI.out.mono ?_
  rintro e W1 ⟨rfl, b1⟩
  have HS1 := Lib.hid (HS.out.next b1)
  have HR1 := Lib.hid (HR.out.next b1)
  have hR1 := Nat.le_trans hR b1.size
  have HB1 := Lib.hid b1
  have r0 := (b1.cell (p := ⟨b, off, none⟩) (by exact hbw)).trans a0
  have r1 := (b1.cell (p := ⟨b, off + 1, none⟩) (by exact hbw)).trans a1
  have r2 := (b1.cell (p := ⟨b, off + 2, none⟩) (by exact hbw)).trans a2
  have r3 := (b1.cell (p := ⟨b, off + 3, none⟩) (by exact hbw)).trans a3
  clear b1 a0 a1 a2 a3
  unfold ptV
  go_wp2_with fail
  refine (AC.out _ HS1.out HR1.out hR1 r0 r1 r2 r3).mono ?_
  rintro e wF HF
  have FIN := Lib.hid (NPost.after HB1.out HF)
  have hee := HF.1
  clear HF
  subst hee
  go_wp2_with fail
  go_end0
  exact FIN.out
set_option maxHeartbeats 8000000 in
set_option maxRecDepth 100000 in
theorem step_quad : StepOk 97 81 4 := by
  intro q R v s a cap zs w H hr hqR hR hl ok hz hA hI hne hcap
  obtain ⟨b, off, rfl, hbq, hc⟩ : ∃ b off : Nat, a = some ⟨b, off, none⟩ ∧ b < q ∧ ∀ i, i < 4 → w.cell? ⟨b, off + i, none⟩ = some (.int .i64 (nA zs i)) := by
    rcases hI with h | ⟨b, off, h1, h2, h3⟩
    · subst h; simp at hz
    · exact ⟨b, off, h1, h2, by rw [hz] at h3; exact h3⟩
  have ox := ok.ox
  have oy := ok.oy
  have px := ok.px
  have py := ok.py
  have hq := H.lt
  have eS : stepM 81 s zs = addM s (segS 4 (s.ox + nA zs 2) (s.oy + nA zs 3) (s.ox + nA zs 0) (s.oy + nA zs 1) 0 0) := by unfold stepM; rfl
  rw [eS]
  clear eS
  have a0 : w.cell? ⟨b, off, none⟩ = some (.int .i64 (nA zs 0)) := hc 0 (by decide)
  have i0 := hA 0
  have a1 : w.cell? ⟨b, off + 1, none⟩ = some (.int .i64 (nA zs 1)) := hc 1 (by decide)
  have i1 := hA 1
  have a2 : w.cell? ⟨b, off + 2, none⟩ = some (.int .i64 (nA zs 2)) := hc 2 (by decide)
  have i2 := hA 2
  have a3 : w.cell? ⟨b, off + 3, none⟩ = some (.int .i64 (nA zs 3)) := hc 3 (by decide)
  have i3 := hA 3
  generalize nA zs 0 = x0 at *
  generalize nA zs 1 = x1 at *
  generalize nA zs 2 = x2 at *
  generalize nA zs 3 = x3 at *
  have hbw : b < w.heap.size := by omega
  have hcapI : (4 : Int) ≤ (cap : Int) := by omega
  have dw : Below w.heap.size w w.drew := (Below.refl _ w).drew
  have HS := Lib.hid (H.next dw)
  have HR := Lib.hid (hr.next dw)
  have HD := Lib.hid dw
  have hRd : R ≤ w.drew.heap.size := hR
  have A1 := Lib.hid (show ∀ W, StAt q v s W → Calls Tryz.prog 135 #[.pointer (some ⟨q, 0, none⟩), .int .i64 x0, .int .i64 x1] W fun e w' => e = .returned (.agg #[.int .i64 (s.ox + x0), .int .i64 (s.oy + x1)]) ∧ Below W.heap.size W w' from fun W h => nat_any q v s x0 x1 W h (i64_sum ox i0) (i64_sum oy i1))
  have A2 := Lib.hid (show ∀ W, StAt q v s W → Calls Tryz.prog 135 #[.pointer (some ⟨q, 0, none⟩), .int .i64 x2, .int .i64 x3] W fun e w' => e = .returned (.agg #[.int .i64 (s.ox + x2), .int .i64 (s.oy + x3)]) ∧ Below W.heap.size W w' from fun W h => nat_any q v s x2 x3 W h (i64_sum ox i2) (i64_sum oy i3))
  have AD := Lib.hid (show ∀ W, StAt q v s W → Segs R v s.out W → R ≤ W.heap.size → Calls Tryz.prog 136 #[.pointer (some ⟨q, 0, none⟩), .agg #[.int .i64 4, .int .i64 (s.ox + x2), .int .i64 (s.oy + x3), .int .i64 (s.ox + x0), .int .i64 (s.oy + x1), .int .i64 (0), .int .i64 (0), .int .i64 0, .int .i64 0, .int .i64 0, .bool false, .bool false]] W (NPost q R (addM s (segS 4 (s.ox + x2) (s.oy + x3) (s.ox + x0) (s.oy + x1) 0 0)) W) from fun W h1 h2 h3 => add_any7 q R v s (segS 4 (s.ox + x2) (s.oy + x3) (s.ox + x0) (s.oy + x1) 0 0) W h1 h2 hqR h3 hl)
  clear hc hA hI H hr hne ok
  go_enter Tryz.func97, Tryz.ntmps97
  go_wp2_with fail
  go_region_held3 (fun w' => w'.cell? ⟨b, off, none⟩ = some (.int .i64 x0) ∧ w'.cell? ⟨b, off + 1, none⟩ = some (.int .i64 x1) ∧ w'.cell? ⟨b, off + 2, none⟩ = some (.int .i64 x2) ∧ w'.cell? ⟨b, off + 3, none⟩ = some (.int .i64 x3)) (first | (simp [go_sem, *]; done) | (exact ⟨by assumption, by assumption, by assumption, by assumption⟩))
    (first
      | (go_at_call 135; (with_reducible refine (A1.out _ HS.out).mono ?_); rintro e w1 ⟨rfl, b1⟩; have HS1 := Lib.hid (HS.out.next b1); have HR1 := Lib.hid (HR.out.next b1); have HD1 := Lib.hid (HD.out.trans (b1.mono HD.out.size)); have hR1 := Nat.le_trans hR HD1.out.size; have r0 := (b1.cell (p := ⟨b, off, none⟩) (by exact Nat.lt_of_lt_of_le hbw HD.out.size)).trans a0; have r1 := (b1.cell (p := ⟨b, off + 1, none⟩) (by exact Nat.lt_of_lt_of_le hbw HD.out.size)).trans a1; have r2 := (b1.cell (p := ⟨b, off + 2, none⟩) (by exact Nat.lt_of_lt_of_le hbw HD.out.size)).trans a2; have r3 := (b1.cell (p := ⟨b, off + 3, none⟩) (by exact Nat.lt_of_lt_of_le hbw HD.out.size)).trans a3; clear b1)
      | (go_at_call 135; (with_reducible refine (A2.out _ HS1.out).mono ?_); rintro e w2 ⟨rfl, b2⟩; have HS2 := Lib.hid (HS1.out.next b2); have HR2 := Lib.hid (HR1.out.next b2); have HD2 := Lib.hid (HD1.out.trans (b2.mono HD1.out.size)); have hR2 := Nat.le_trans hR HD2.out.size; have u0 := (b2.cell (p := ⟨b, off, none⟩) (by exact Nat.lt_of_lt_of_le hbw HD1.out.size)).trans r0; have u1 := (b2.cell (p := ⟨b, off + 1, none⟩) (by exact Nat.lt_of_lt_of_le hbw HD1.out.size)).trans r1; have u2 := (b2.cell (p := ⟨b, off + 2, none⟩) (by exact Nat.lt_of_lt_of_le hbw HD1.out.size)).trans r2; have u3 := (b2.cell (p := ⟨b, off + 3, none⟩) (by exact Nat.lt_of_lt_of_le hbw HD1.out.size)).trans r3; clear b2)
      | (go_at_call 136; (with_reducible refine (AD.out _ HS2.out HR2.out hR2).mono ?_); rintro e wF HF; have FIN := Lib.hid (NPost.after HD2.out HF); have hee := HF.1; have t0 := ((HF.2.2.below (Nat.le_of_lt HS2.out.lt)).cell (p := ⟨b, off, none⟩) (by exact hbq)).trans u0; have t1 := ((HF.2.2.below (Nat.le_of_lt HS2.out.lt)).cell (p := ⟨b, off + 1, none⟩) (by exact hbq)).trans u1; have t2 := ((HF.2.2.below (Nat.le_of_lt HS2.out.lt)).cell (p := ⟨b, off + 2, none⟩) (by exact hbq)).trans u2; have t3 := ((HF.2.2.below (Nat.le_of_lt HS2.out.lt)).cell (p := ⟨b, off + 3, none⟩) (by exact hbq)).trans u3; clear HF; subst hee))
  all_goals
    go_end0
    exact FIN.out
set_option maxHeartbeats 8000000 in
set_option maxRecDepth 100000 in
theorem step_smoothQuad : StepOk 98 84 2 := by
  intro q R v s a cap zs w H hr hqR hR hl ok hz hA hI hne hcap
  obtain ⟨b, off, rfl, hbq, hc⟩ : ∃ b off : Nat, a = some ⟨b, off, none⟩ ∧ b < q ∧ ∀ i, i < 2 → w.cell? ⟨b, off + i, none⟩ = some (.int .i64 (nA zs i)) := by
    rcases hI with h | ⟨b, off, h1, h2, h3⟩
    · subst h; simp at hz
    · exact ⟨b, off, h1, h2, by rw [hz] at h3; exact h3⟩
  have ox := ok.ox
  have oy := ok.oy
  have px := ok.px
  have py := ok.py
  have hq := H.lt
  have eS : stepM 84 s zs = addM s (segS 4 (s.ox + nA zs 0) (s.oy + nA zs 1) (mirM s 4).1 (mirM s 4).2 0 0) := by unfold stepM; rfl
  rw [eS]
  clear eS
  have a0 : w.cell? ⟨b, off, none⟩ = some (.int .i64 (nA zs 0)) := hc 0 (by decide)
  have i0 := hA 0
  have a1 : w.cell? ⟨b, off + 1, none⟩ = some (.int .i64 (nA zs 1)) := hc 1 (by decide)
  have i1 := hA 1
  generalize nA zs 0 = x0 at *
  generalize nA zs 1 = x1 at *
  have hbw : b < w.heap.size := by omega
  have hcapI : (2 : Int) ≤ (cap : Int) := by omega
  have dw : Below w.heap.size w w.drew := (Below.refl _ w).drew
  have HS := Lib.hid (H.next dw)
  have HR := Lib.hid (hr.next dw)
  have HD := Lib.hid dw
  have hRd : R ≤ w.drew.heap.size := hR
  have MI := Lib.hid (mir_any q R v s 4 w.drew HS.out HR.out (hne (by decide)) hl ok (Or.inr rfl))
  unfold MirPost ptV at MI
  generalize mirM s 4 = m at *
  obtain ⟨m1, m2⟩ := m
  have MI2 := Lib.hid (show Calls Tryz.prog 138 #[.pointer (some ⟨q, 0, none⟩), .int .i64 4] w.drew fun e w' => e = .returned (.agg #[.int .i64 m1, .int .i64 m2]) ∧ Below w.drew.heap.size w.drew w' from MI.out)
  have A1 := Lib.hid (show ∀ W, StAt q v s W → Calls Tryz.prog 135 #[.pointer (some ⟨q, 0, none⟩), .int .i64 x0, .int .i64 x1] W fun e w' => e = .returned (.agg #[.int .i64 (s.ox + x0), .int .i64 (s.oy + x1)]) ∧ Below W.heap.size W w' from fun W h => nat_any q v s x0 x1 W h (i64_sum ox i0) (i64_sum oy i1))
  have AD := Lib.hid (show ∀ W, StAt q v s W → Segs R v s.out W → R ≤ W.heap.size → Calls Tryz.prog 136 #[.pointer (some ⟨q, 0, none⟩), .agg #[.int .i64 4, .int .i64 (s.ox + x0), .int .i64 (s.oy + x1), .int .i64 (m1), .int .i64 (m2), .int .i64 (0), .int .i64 (0), .int .i64 0, .int .i64 0, .int .i64 0, .bool false, .bool false]] W (NPost q R (addM s (segS 4 (s.ox + x0) (s.oy + x1) m1 m2 0 0)) W) from fun W h1 h2 h3 => add_any7 q R v s (segS 4 (s.ox + x0) (s.oy + x1) m1 m2 0 0) W h1 h2 hqR h3 hl)
  clear MI hc hA hI H hr hne ok
  go_enter Tryz.func98, Tryz.ntmps98
  go_wp2_with fail
  go_region_held3 (fun w' => w'.cell? ⟨b, off, none⟩ = some (.int .i64 x0) ∧ w'.cell? ⟨b, off + 1, none⟩ = some (.int .i64 x1)) (first | (simp [go_sem, *]; done) | (exact ⟨by assumption, by assumption⟩))
    (first
      | (go_at_call 138; (with_reducible refine MI2.out.mono ?_); rintro e w1 ⟨rfl, b1⟩; have HS1 := Lib.hid (HS.out.next b1); have HR1 := Lib.hid (HR.out.next b1); have HD1 := Lib.hid (HD.out.trans (b1.mono HD.out.size)); have hR1 := Nat.le_trans hR HD1.out.size; have r0 := (b1.cell (p := ⟨b, off, none⟩) (by exact Nat.lt_of_lt_of_le hbw HD.out.size)).trans a0; have r1 := (b1.cell (p := ⟨b, off + 1, none⟩) (by exact Nat.lt_of_lt_of_le hbw HD.out.size)).trans a1; clear b1)
      | (go_at_call 135; (with_reducible refine (A1.out _ HS1.out).mono ?_); rintro e w2 ⟨rfl, b2⟩; have HS2 := Lib.hid (HS1.out.next b2); have HR2 := Lib.hid (HR1.out.next b2); have HD2 := Lib.hid (HD1.out.trans (b2.mono HD1.out.size)); have hR2 := Nat.le_trans hR HD2.out.size; have u0 := (b2.cell (p := ⟨b, off, none⟩) (by exact Nat.lt_of_lt_of_le hbw HD1.out.size)).trans r0; have u1 := (b2.cell (p := ⟨b, off + 1, none⟩) (by exact Nat.lt_of_lt_of_le hbw HD1.out.size)).trans r1; clear b2)
      | (go_at_call 136; (with_reducible refine (AD.out _ HS2.out HR2.out hR2).mono ?_); rintro e wF HF; have FIN := Lib.hid (NPost.after HD2.out HF); have hee := HF.1; have t0 := ((HF.2.2.below (Nat.le_of_lt HS2.out.lt)).cell (p := ⟨b, off, none⟩) (by exact hbq)).trans u0; have t1 := ((HF.2.2.below (Nat.le_of_lt HS2.out.lt)).cell (p := ⟨b, off + 1, none⟩) (by exact hbq)).trans u1; clear HF; subst hee))
  all_goals
    go_end0
    exact FIN.out
set_option maxHeartbeats 8000000 in
set_option maxRecDepth 100000 in
theorem step_arc : StepOk 99 65 7 := by
  intro q R v s a cap zs w H hr hqR hR hl ok hz hA hI hne hcap
  obtain ⟨b, off, rfl, hbq, hc⟩ : ∃ b off : Nat, a = some ⟨b, off, none⟩ ∧ b < q ∧ ∀ i, i < 7 → w.cell? ⟨b, off + i, none⟩ = some (.int .i64 (nA zs i)) := by
    rcases hI with h | ⟨b, off, h1, h2, h3⟩
    · subst h; simp at hz
    · exact ⟨b, off, h1, h2, by rw [hz] at h3; exact h3⟩
  have ox := ok.ox
  have oy := ok.oy
  have px := ok.px
  have py := ok.py
  have hq := H.lt
  have eS : stepM 65 s zs = addM s ⟨5, s.ox + nA zs 5, s.oy + nA zs 6, 0, 0, 0, 0, nA zs 0, nA zs 1, nA zs 2, nA zs 3 == 1, nA zs 4 == 1⟩ := by unfold stepM; rfl
  rw [eS]
  clear eS
  have a0 : w.cell? ⟨b, off, none⟩ = some (.int .i64 (nA zs 0)) := hc 0 (by decide)
  have i0 := hA 0
  have a1 : w.cell? ⟨b, off + 1, none⟩ = some (.int .i64 (nA zs 1)) := hc 1 (by decide)
  have i1 := hA 1
  have a2 : w.cell? ⟨b, off + 2, none⟩ = some (.int .i64 (nA zs 2)) := hc 2 (by decide)
  have i2 := hA 2
  have a3 : w.cell? ⟨b, off + 3, none⟩ = some (.int .i64 (nA zs 3)) := hc 3 (by decide)
  have i3 := hA 3
  have a4 : w.cell? ⟨b, off + 4, none⟩ = some (.int .i64 (nA zs 4)) := hc 4 (by decide)
  have i4 := hA 4
  have a5 : w.cell? ⟨b, off + 5, none⟩ = some (.int .i64 (nA zs 5)) := hc 5 (by decide)
  have i5 := hA 5
  have a6 : w.cell? ⟨b, off + 6, none⟩ = some (.int .i64 (nA zs 6)) := hc 6 (by decide)
  have i6 := hA 6
  generalize nA zs 0 = x0 at *
  generalize nA zs 1 = x1 at *
  generalize nA zs 2 = x2 at *
  generalize nA zs 3 = x3 at *
  generalize nA zs 4 = x4 at *
  generalize nA zs 5 = x5 at *
  generalize nA zs 6 = x6 at *
  have hbw : b < w.heap.size := by omega
  have hcapI : (7 : Int) ≤ (cap : Int) := by omega
  have dw : Below w.heap.size w w.drew := (Below.refl _ w).drew
  have HS := Lib.hid (H.next dw)
  have HR := Lib.hid (hr.next dw)
  have HD := Lib.hid dw
  have hRd : R ≤ w.drew.heap.size := hR
  have A1 := Lib.hid (show ∀ W, StAt q v s W → Calls Tryz.prog 135 #[.pointer (some ⟨q, 0, none⟩), .int .i64 x5, .int .i64 x6] W fun e w' => e = .returned (.agg #[.int .i64 (s.ox + x5), .int .i64 (s.oy + x6)]) ∧ Below W.heap.size W w' from fun W h => nat_any q v s x5 x6 W h (i64_sum ox i5) (i64_sum oy i6))
  have AD := Lib.hid (show ∀ W, StAt q v s W → Segs R v s.out W → R ≤ W.heap.size → Calls Tryz.prog 136 #[.pointer (some ⟨q, 0, none⟩), .agg #[.int .i64 5, .int .i64 (s.ox + x5), .int .i64 (s.oy + x6), .int .i64 0, .int .i64 0, .int .i64 0, .int .i64 0, .int .i64 x0, .int .i64 x1, .int .i64 x2, .bool (x3 == 1), .bool (x4 == 1)]] W (NPost q R (addM s ⟨5, s.ox + x5, s.oy + x6, 0, 0, 0, 0, x0, x1, x2, x3 == 1, x4 == 1⟩) W) from fun W h1 h2 h3 => add_any7 q R v s ⟨5, s.ox + x5, s.oy + x6, 0, 0, 0, 0, x0, x1, x2, x3 == 1, x4 == 1⟩ W h1 h2 hqR h3 hl)
  clear hc hA hI H hr hne ok
  go_enter Tryz.func99, Tryz.ntmps99
  go_wp2_with fail
  go_region_held3 (fun w' => w'.cell? ⟨b, off, none⟩ = some (.int .i64 x0) ∧ w'.cell? ⟨b, off + 1, none⟩ = some (.int .i64 x1) ∧ w'.cell? ⟨b, off + 2, none⟩ = some (.int .i64 x2) ∧ w'.cell? ⟨b, off + 3, none⟩ = some (.int .i64 x3) ∧ w'.cell? ⟨b, off + 4, none⟩ = some (.int .i64 x4) ∧ w'.cell? ⟨b, off + 5, none⟩ = some (.int .i64 x5) ∧ w'.cell? ⟨b, off + 6, none⟩ = some (.int .i64 x6)) (first | (simp [go_sem, *]; done) | (exact ⟨by assumption, by assumption, by assumption, by assumption, by assumption, by assumption, by assumption⟩))
    (first
      | (go_at_call 135; (with_reducible refine (A1.out _ HS.out).mono ?_); rintro e w1 ⟨rfl, b1⟩; have HS1 := Lib.hid (HS.out.next b1); have HR1 := Lib.hid (HR.out.next b1); have HD1 := Lib.hid (HD.out.trans (b1.mono HD.out.size)); have hR1 := Nat.le_trans hR HD1.out.size; have r0 := (b1.cell (p := ⟨b, off, none⟩) (by exact Nat.lt_of_lt_of_le hbw HD.out.size)).trans a0; have r1 := (b1.cell (p := ⟨b, off + 1, none⟩) (by exact Nat.lt_of_lt_of_le hbw HD.out.size)).trans a1; have r2 := (b1.cell (p := ⟨b, off + 2, none⟩) (by exact Nat.lt_of_lt_of_le hbw HD.out.size)).trans a2; have r3 := (b1.cell (p := ⟨b, off + 3, none⟩) (by exact Nat.lt_of_lt_of_le hbw HD.out.size)).trans a3; have r4 := (b1.cell (p := ⟨b, off + 4, none⟩) (by exact Nat.lt_of_lt_of_le hbw HD.out.size)).trans a4; have r5 := (b1.cell (p := ⟨b, off + 5, none⟩) (by exact Nat.lt_of_lt_of_le hbw HD.out.size)).trans a5; have r6 := (b1.cell (p := ⟨b, off + 6, none⟩) (by exact Nat.lt_of_lt_of_le hbw HD.out.size)).trans a6; clear b1)
      | (go_at_call 136; (with_reducible refine (AD.out _ HS1.out HR1.out hR1).mono ?_); rintro e wF HF; have FIN := Lib.hid (NPost.after HD1.out HF); have hee := HF.1; have t0 := ((HF.2.2.below (Nat.le_of_lt HS1.out.lt)).cell (p := ⟨b, off, none⟩) (by exact hbq)).trans r0; have t1 := ((HF.2.2.below (Nat.le_of_lt HS1.out.lt)).cell (p := ⟨b, off + 1, none⟩) (by exact hbq)).trans r1; have t2 := ((HF.2.2.below (Nat.le_of_lt HS1.out.lt)).cell (p := ⟨b, off + 2, none⟩) (by exact hbq)).trans r2; have t3 := ((HF.2.2.below (Nat.le_of_lt HS1.out.lt)).cell (p := ⟨b, off + 3, none⟩) (by exact hbq)).trans r3; have t4 := ((HF.2.2.below (Nat.le_of_lt HS1.out.lt)).cell (p := ⟨b, off + 4, none⟩) (by exact hbq)).trans r4; have t5 := ((HF.2.2.below (Nat.le_of_lt HS1.out.lt)).cell (p := ⟨b, off + 5, none⟩) (by exact hbq)).trans r5; have t6 := ((HF.2.2.below (Nat.le_of_lt HS1.out.lt)).cell (p := ⟨b, off + 6, none⟩) (by exact hbq)).trans r6; clear HF; subst hee))
  all_goals
    go_end0
    exact FIN.out
end Go.Proofs.YtbjabclgekkpaaaGreatDoor
