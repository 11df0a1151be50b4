/-
  The contracts of package norm's functions of the table: curves and arcs. (Typed by a program.)
-/
import Derived.Test.YtgiibcnakiggaaaDoorNormStep
namespace Go.Proofs.YtgiibcnakiggaaaDoor
open Go.RowKit Go.Shelf

set_option maxHeartbeats 8000000 in
set_option maxRecDepth 100000 in
theorem step_cubic : StepOk 55 67 6 := by
  intro q R v s a cap zs w H hr hqR hR hl ok hz hA hI hne hcap
  obtain ⟨b, off, rfl, hbq, hc⟩ : ∃ b off : Nat, a = some ⟨b, off, none⟩ ∧ b < q ∧ ∀ i, i < 6 → w.cell? ⟨b, off + i, none⟩ = some (.int .i64 (nA zs i)) := by
    rcases hI with h | ⟨b, off, h1, h2, h3⟩
    · subst h; simp at hz
    · exact ⟨b, off, h1, h2, by rw [hz] at h3; exact h3⟩
  have ox := ok.ox
  have oy := ok.oy
  have px := ok.px
  have py := ok.py
  have hq := H.lt
  have eS : stepM 67 s zs = addM s (segS 3 (s.ox + nA zs 4) (s.oy + nA zs 5) (s.ox + nA zs 0) (s.oy + nA zs 1) (s.ox + nA zs 2) (s.oy + nA zs 3)) := by unfold stepM; rfl
  rw [eS]
  clear eS
  have OK := Lib.hid ok
  have a0 : w.cell? ⟨b, off, none⟩ = some (.int .i64 (nA zs 0)) := hc 0 (by decide)
  have i0 := hA 0
  have a1 : w.cell? ⟨b, off + 1, none⟩ = some (.int .i64 (nA zs 1)) := hc 1 (by decide)
  have i1 := hA 1
  have a2 : w.cell? ⟨b, off + 2, none⟩ = some (.int .i64 (nA zs 2)) := hc 2 (by decide)
  have i2 := hA 2
  have a3 : w.cell? ⟨b, off + 3, none⟩ = some (.int .i64 (nA zs 3)) := hc 3 (by decide)
  have i3 := hA 3
  have a4 : w.cell? ⟨b, off + 4, none⟩ = some (.int .i64 (nA zs 4)) := hc 4 (by decide)
  have i4 := hA 4
  have a5 : w.cell? ⟨b, off + 5, none⟩ = some (.int .i64 (nA zs 5)) := hc 5 (by decide)
  have i5 := hA 5
  generalize nA zs 0 = x0 at *
  generalize nA zs 1 = x1 at *
  generalize nA zs 2 = x2 at *
  generalize nA zs 3 = x3 at *
  generalize nA zs 4 = x4 at *
  generalize nA zs 5 = x5 at *
  have hbw : b < w.heap.size := by omega
  have hcapI : (6 : Int) ≤ (cap : Int) := by omega
  have dw : Below w.heap.size w w.drew := (Below.refl _ w).drew
  have HS := Lib.hid (H.next dw)
  have HR := Lib.hid (hr.next dw)
  have HD := Lib.hid dw
  have hRd : R ≤ w.drew.heap.size := hR
  have A1 := Lib.hid (show ∀ W, StAt q v s W → Calls Tryd.prog 78 #[.pointer (some ⟨q, 0, none⟩), .int .i64 x0, .int .i64 x1] W fun e w' => e = .returned (.agg #[.int .i64 (s.ox + x0), .int .i64 (s.oy + x1)]) ∧ Below W.heap.size W w' from fun W h => nat_any q v s x0 x1 W h (i64_sum ox i0) (i64_sum oy i1))
  have AC := Lib.hid (show ∀ W, StAt q v s W → Segs R v s.out W → R ≤ W.heap.size → W.cell? ⟨b, off + 2, none⟩ = some (.int .i64 x2) → W.cell? ⟨b, off + 3, none⟩ = some (.int .i64 x3) → W.cell? ⟨b, off + 4, none⟩ = some (.int .i64 x4) → W.cell? ⟨b, off + 5, none⟩ = some (.int .i64 x5) → Calls Tryd.prog 80 #[.pointer (some ⟨q, 0, none⟩), .agg #[.int .i64 (s.ox + x0), .int .i64 (s.oy + x1)], .slice (some ⟨b, off + 2, none⟩) 4 (cap - 2)] W (NPost q R (addM s (segS 3 (s.ox + x4) (s.oy + x5) (s.ox + x0) (s.oy + x1) (s.ox + x2) (s.oy + x3))) W) from fun W h1 h2 h3 c2 c3 c4 c5 => addCubic_any q R v s _ _ b (off + 2) (cap - 2) x2 x3 x4 x5 W h1 h2 hqR h3 hl OK.out i2 i3 i4 i5 hbq c2 c3 c4 c5)
  clear hc hA hI H hr hne ok
  go_enter Tryd.func55, Tryd.ntmps55
  go_wp2_with fail
  go_region_held3 (fun w' => w'.cell? ⟨b, off, none⟩ = some (.int .i64 x0) ∧ w'.cell? ⟨b, off + 1, none⟩ = some (.int .i64 x1)) (first | (simp [go_sem, *]; done) | (exact ⟨by assumption, by assumption⟩))
    (first
      | (go_at_call 78; (with_reducible refine (A1.out _ HS.out).mono ?_); rintro e w1 ⟨rfl, b1⟩; have HS1 := Lib.hid (HS.out.next b1); have HR1 := Lib.hid (HR.out.next b1); have HD1 := Lib.hid (HD.out.trans (b1.mono HD.out.size)); have hR1 := Nat.le_trans hR HD1.out.size; have r0 := (b1.cell (p := ⟨b, off, none⟩) (by exact Nat.lt_of_lt_of_le hbw HD.out.size)).trans a0; have r1 := (b1.cell (p := ⟨b, off + 1, none⟩) (by exact Nat.lt_of_lt_of_le hbw HD.out.size)).trans a1; have r2 := (b1.cell (p := ⟨b, off + 2, none⟩) (by exact Nat.lt_of_lt_of_le hbw HD.out.size)).trans a2; have r3 := (b1.cell (p := ⟨b, off + 3, none⟩) (by exact Nat.lt_of_lt_of_le hbw HD.out.size)).trans a3; have r4 := (b1.cell (p := ⟨b, off + 4, none⟩) (by exact Nat.lt_of_lt_of_le hbw HD.out.size)).trans a4; have r5 := (b1.cell (p := ⟨b, off + 5, none⟩) (by exact Nat.lt_of_lt_of_le hbw HD.out.size)).trans a5; clear b1)
      | (go_at_call 80; (with_reducible refine (AC.out _ HS1.out HR1.out hR1 r2 r3 r4 r5).mono ?_); rintro e wF HF; have FIN := Lib.hid (NPost.after HD1.out HF); have t0 := ((HF.2.2.below (Nat.le_of_lt HS1.out.lt)).cell (p := ⟨b, off, none⟩) (by exact hbq)).trans r0; have t1 := ((HF.2.2.below (Nat.le_of_lt HS1.out.lt)).cell (p := ⟨b, off + 1, none⟩) (by exact hbq)).trans r1; have hee := HF.1; clear HF; subst hee))
  all_goals
    go_end0
    exact FIN.out

set_option maxHeartbeats 8000000 in
set_option maxRecDepth 100000 in
theorem step_smoothCubic : StepOk 56 83 4 := by
  intro q R v s a cap zs w H hr hqR hR hl ok hz hA hI hne hcap
  obtain ⟨b, off, rfl, hbq, hc⟩ : ∃ b off : Nat, a = some ⟨b, off, none⟩ ∧ b < q ∧ ∀ i, i < 4 → w.cell? ⟨b, off + i, none⟩ = some (.int .i64 (nA zs i)) := by
    rcases hI with h | ⟨b, off, h1, h2, h3⟩
    · subst h; simp at hz
    · exact ⟨b, off, h1, h2, by rw [hz] at h3; exact h3⟩
  have ox := ok.ox
  have oy := ok.oy
  have px := ok.px
  have py := ok.py
  have hq := H.lt
  have eS : stepM 83 s zs = addM s (segS 3 (s.ox + nA zs 2) (s.oy + nA zs 3) (mirM s 3).1 (mirM s 3).2 (s.ox + nA zs 0) (s.oy + nA zs 1)) := by unfold stepM; rfl
  rw [eS]
  clear eS
  have OK := Lib.hid ok
  have a0 : w.cell? ⟨b, off, none⟩ = some (.int .i64 (nA zs 0)) := hc 0 (by decide)
  have i0 := hA 0
  have a1 : w.cell? ⟨b, off + 1, none⟩ = some (.int .i64 (nA zs 1)) := hc 1 (by decide)
  have i1 := hA 1
  have a2 : w.cell? ⟨b, off + 2, none⟩ = some (.int .i64 (nA zs 2)) := hc 2 (by decide)
  have i2 := hA 2
  have a3 : w.cell? ⟨b, off + 3, none⟩ = some (.int .i64 (nA zs 3)) := hc 3 (by decide)
  have i3 := hA 3
  generalize nA zs 0 = x0 at *
  generalize nA zs 1 = x1 at *
  generalize nA zs 2 = x2 at *
  generalize nA zs 3 = x3 at *
  have hbw : b < w.heap.size := by omega
  have hcapI : (4 : Int) ≤ (cap : Int) := by omega
  have MI := Lib.hid (mir_any q R v s 3 w H hr (hne (by decide)) hl ok (Or.inl rfl))
  unfold MirPost at MI
  generalize mirM s 3 = m at *
  obtain ⟨m1, m2⟩ := m
  have AC := Lib.hid (show ∀ W, StAt q v s W → Segs R v s.out W → R ≤ W.heap.size → W.cell? ⟨b, off, none⟩ = some (.int .i64 x0) → W.cell? ⟨b, off + 1, none⟩ = some (.int .i64 x1) → W.cell? ⟨b, off + 2, none⟩ = some (.int .i64 x2) → W.cell? ⟨b, off + 3, none⟩ = some (.int .i64 x3) → Calls Tryd.prog 80 #[.pointer (some ⟨q, 0, none⟩), .agg #[.int .i64 m1, .int .i64 m2], .slice (some ⟨b, off, none⟩) 4 cap] W (NPost q R (addM s (segS 3 (s.ox + x2) (s.oy + x3) m1 m2 (s.ox + x0) (s.oy + x1))) W) from fun W h1 h2 h3 c0 c1 c2 c3 => addCubic_any q R v s m1 m2 b off cap x0 x1 x2 x3 W h1 h2 hqR h3 hl OK.out i0 i1 i2 i3 hbq c0 c1 c2 c3)
  have HS := Lib.hid H
  have HR := Lib.hid hr
  clear hc hA hI H hr hne ok
  go_enter Tryd.func56, Tryd.ntmps56
  go_wp2_with fail
  refine MI.out.mono ?_
  rintro e W1 ⟨rfl, b1⟩
  have HS1 := Lib.hid (HS.out.next b1)
  have HR1 := Lib.hid (HR.out.next b1)
  have hR1 := Nat.le_trans hR b1.size
  have HB1 := Lib.hid b1
  have r0 := (b1.cell (p := ⟨b, off, none⟩) (by exact hbw)).trans a0
  have r1 := (b1.cell (p := ⟨b, off + 1, none⟩) (by exact hbw)).trans a1
  have r2 := (b1.cell (p := ⟨b, off + 2, none⟩) (by exact hbw)).trans a2
  have r3 := (b1.cell (p := ⟨b, off + 3, none⟩) (by exact hbw)).trans a3
  clear b1 a0 a1 a2 a3
  unfold ptV
  go_wp2_with fail
  refine (AC.out _ HS1.out HR1.out hR1 r0 r1 r2 r3).mono ?_
  rintro e wF HF
  have FIN := Lib.hid (NPost.after HB1.out HF)
  have hee := HF.1
  clear HF
  subst hee
  go_wp2_with fail
  go_end0
  exact FIN.out

set_option maxHeartbeats 8000000 in
set_option maxRecDepth 100000 in
theorem step_quad : StepOk 57 81 4 := by
  intro q R v s a cap zs w H hr hqR hR hl ok hz hA hI hne hcap
  obtain ⟨b, off, rfl, hbq, hc⟩ : ∃ b off : Nat, a = some ⟨b, off, none⟩ ∧ b < q ∧ ∀ i, i < 4 → w.cell? ⟨b, off + i, none⟩ = some (.int .i64 (nA zs i)) := by
    rcases hI with h | ⟨b, off, h1, h2, h3⟩
    · subst h; simp at hz
    · exact ⟨b, off, h1, h2, by rw [hz] at h3; exact h3⟩
  have ox := ok.ox
  have oy := ok.oy
  have px := ok.px
  have py := ok.py
  have hq := H.lt
  have eS : stepM 81 s zs = addM s (segS 4 (s.ox + nA zs 2) (s.oy + nA zs 3) (s.ox + nA zs 0) (s.oy + nA zs 1) 0 0) := by unfold stepM; rfl
  rw [eS]
  clear eS
  have a0 : w.cell? ⟨b, off, none⟩ = some (.int .i64 (nA zs 0)) := hc 0 (by decide)
  have i0 := hA 0
  have a1 : w.cell? ⟨b, off + 1, none⟩ = some (.int .i64 (nA zs 1)) := hc 1 (by decide)
  have i1 := hA 1
  have a2 : w.cell? ⟨b, off + 2, none⟩ = some (.int .i64 (nA zs 2)) := hc 2 (by decide)
  have i2 := hA 2
  have a3 : w.cell? ⟨b, off + 3, none⟩ = some (.int .i64 (nA zs 3)) := hc 3 (by decide)
  have i3 := hA 3
  generalize nA zs 0 = x0 at *
  generalize nA zs 1 = x1 at *
  generalize nA zs 2 = x2 at *
  generalize nA zs 3 = x3 at *
  have hbw : b < w.heap.size := by omega
  have hcapI : (4 : Int) ≤ (cap : Int) := by omega
  have dw : Below w.heap.size w w.drew := (Below.refl _ w).drew
  have HS := Lib.hid (H.next dw)
  have HR := Lib.hid (hr.next dw)
  have HD := Lib.hid dw
  have hRd : R ≤ w.drew.heap.size := hR
  have A1 := Lib.hid (show ∀ W, StAt q v s W → Calls Tryd.prog 78 #[.pointer (some ⟨q, 0, none⟩), .int .i64 x0, .int .i64 x1] W fun e w' => e = .returned (.agg #[.int .i64 (s.ox + x0), .int .i64 (s.oy + x1)]) ∧ Below W.heap.size W w' from fun W h => nat_any q v s x0 x1 W h (i64_sum ox i0) (i64_sum oy i1))
  have A2 := Lib.hid (show ∀ W, StAt q v s W → Calls Tryd.prog 78 #[.pointer (some ⟨q, 0, none⟩), .int .i64 x2, .int .i64 x3] W fun e w' => e = .returned (.agg #[.int .i64 (s.ox + x2), .int .i64 (s.oy + x3)]) ∧ Below W.heap.size W w' from fun W h => nat_any q v s x2 x3 W h (i64_sum ox i2) (i64_sum oy i3))
  have AD := Lib.hid (show ∀ W, StAt q v s W → Segs R v s.out W → R ≤ W.heap.size → Calls Tryd.prog 79 #[.pointer (some ⟨q, 0, none⟩), .agg #[.int .i64 4, .int .i64 (s.ox + x2), .int .i64 (s.oy + x3), .int .i64 (s.ox + x0), .int .i64 (s.oy + x1), .int .i64 (0), .int .i64 (0), .int .i64 0, .int .i64 0, .int .i64 0, .bool false, .bool false]] W (NPost q R (addM s (segS 4 (s.ox + x2) (s.oy + x3) (s.ox + x0) (s.oy + x1) 0 0)) W) from fun W h1 h2 h3 => add_any7 q R v s (segS 4 (s.ox + x2) (s.oy + x3) (s.ox + x0) (s.oy + x1) 0 0) W h1 h2 hqR h3 hl)
  clear hc hA hI H hr hne ok
  go_enter Tryd.func57, Tryd.ntmps57
  go_wp2_with fail
  go_region_held3 (fun w' => w'.cell? ⟨b, off, none⟩ = some (.int .i64 x0) ∧ w'.cell? ⟨b, off + 1, none⟩ = some (.int .i64 x1) ∧ w'.cell? ⟨b, off + 2, none⟩ = some (.int .i64 x2) ∧ w'.cell? ⟨b, off + 3, none⟩ = some (.int .i64 x3)) (first | (simp [go_sem, *]; done) | (exact ⟨by assumption, by assumption, by assumption, by assumption⟩))
    (first
      | (go_at_call 78; (with_reducible refine (A1.out _ HS.out).mono ?_); rintro e w1 ⟨rfl, b1⟩; have HS1 := Lib.hid (HS.out.next b1); have HR1 := Lib.hid (HR.out.next b1); have HD1 := Lib.hid (HD.out.trans (b1.mono HD.out.size)); have hR1 := Nat.le_trans hR HD1.out.size; have r0 := (b1.cell (p := ⟨b, off, none⟩) (by exact Nat.lt_of_lt_of_le hbw HD.out.size)).trans a0; have r1 := (b1.cell (p := ⟨b, off + 1, none⟩) (by exact Nat.lt_of_lt_of_le hbw HD.out.size)).trans a1; have r2 := (b1.cell (p := ⟨b, off + 2, none⟩) (by exact Nat.lt_of_lt_of_le hbw HD.out.size)).trans a2; have r3 := (b1.cell (p := ⟨b, off + 3, none⟩) (by exact Nat.lt_of_lt_of_le hbw HD.out.size)).trans a3; clear b1)
      | (go_at_call 78; (with_reducible refine (A2.out _ HS1.out).mono ?_); rintro e w2 ⟨rfl, b2⟩; have HS2 := Lib.hid (HS1.out.next b2); have HR2 := Lib.hid (HR1.out.next b2); have HD2 := Lib.hid (HD1.out.trans (b2.mono HD1.out.size)); have hR2 := Nat.le_trans hR HD2.out.size; have u0 := (b2.cell (p := ⟨b, off, none⟩) (by exact Nat.lt_of_lt_of_le hbw HD1.out.size)).trans r0; have u1 := (b2.cell (p := ⟨b, off + 1, none⟩) (by exact Nat.lt_of_lt_of_le hbw HD1.out.size)).trans r1; have u2 := (b2.cell (p := ⟨b, off + 2, none⟩) (by exact Nat.lt_of_lt_of_le hbw HD1.out.size)).trans r2; have u3 := (b2.cell (p := ⟨b, off + 3, none⟩) (by exact Nat.lt_of_lt_of_le hbw HD1.out.size)).trans r3; clear b2)
      | (go_at_call 79; (with_reducible refine (AD.out _ HS2.out HR2.out hR2).mono ?_); rintro e wF HF; have FIN := Lib.hid (NPost.after HD2.out HF); have hee := HF.1; have t0 := ((HF.2.2.below (Nat.le_of_lt HS2.out.lt)).cell (p := ⟨b, off, none⟩) (by exact hbq)).trans u0; have t1 := ((HF.2.2.below (Nat.le_of_lt HS2.out.lt)).cell (p := ⟨b, off + 1, none⟩) (by exact hbq)).trans u1; have t2 := ((HF.2.2.below (Nat.le_of_lt HS2.out.lt)).cell (p := ⟨b, off + 2, none⟩) (by exact hbq)).trans u2; have t3 := ((HF.2.2.below (Nat.le_of_lt HS2.out.lt)).cell (p := ⟨b, off + 3, none⟩) (by exact hbq)).trans u3; clear HF; subst hee))
  all_goals
    go_end0
    exact FIN.out

set_option maxHeartbeats 8000000 in
set_option maxRecDepth 100000 in
theorem step_smoothQuad : StepOk 58 84 2 := by
  intro q R v s a cap zs w H hr hqR hR hl ok hz hA hI hne hcap
  obtain ⟨b, off, rfl, hbq, hc⟩ : ∃ b off : Nat, a = some ⟨b, off, none⟩ ∧ b < q ∧ ∀ i, i < 2 → w.cell? ⟨b, off + i, none⟩ = some (.int .i64 (nA zs i)) := by
    rcases hI with h | ⟨b, off, h1, h2, h3⟩
    · subst h; simp at hz
    · exact ⟨b, off, h1, h2, by rw [hz] at h3; exact h3⟩
  have ox := ok.ox
  have oy := ok.oy
  have px := ok.px
  have py := ok.py
  have hq := H.lt
  have eS : stepM 84 s zs = addM s (segS 4 (s.ox + nA zs 0) (s.oy + nA zs 1) (mirM s 4).1 (mirM s 4).2 0 0) := by unfold stepM; rfl
  rw [eS]
  clear eS
  have a0 : w.cell? ⟨b, off, none⟩ = some (.int .i64 (nA zs 0)) := hc 0 (by decide)
  have i0 := hA 0
  have a1 : w.cell? ⟨b, off + 1, none⟩ = some (.int .i64 (nA zs 1)) := hc 1 (by decide)
  have i1 := hA 1
  generalize nA zs 0 = x0 at *
  generalize nA zs 1 = x1 at *
  have hbw : b < w.heap.size := by omega
  have hcapI : (2 : Int) ≤ (cap : Int) := by omega
  have dw : Below w.heap.size w w.drew := (Below.refl _ w).drew
  have HS := Lib.hid (H.next dw)
  have HR := Lib.hid (hr.next dw)
  have HD := Lib.hid dw
  have hRd : R ≤ w.drew.heap.size := hR
  have MI := Lib.hid (mir_any q R v s 4 w.drew HS.out HR.out (hne (by decide)) hl ok (Or.inr rfl))
  unfold MirPost ptV at MI
  generalize mirM s 4 = m at *
  obtain ⟨m1, m2⟩ := m
  have MI2 := Lib.hid (show Calls Tryd.prog 81 #[.pointer (some ⟨q, 0, none⟩), .int .i64 4] w.drew fun e w' => e = .returned (.agg #[.int .i64 m1, .int .i64 m2]) ∧ Below w.drew.heap.size w.drew w' from MI.out)
  have A1 := Lib.hid (show ∀ W, StAt q v s W → Calls Tryd.prog 78 #[.pointer (some ⟨q, 0, none⟩), .int .i64 x0, .int .i64 x1] W fun e w' => e = .returned (.agg #[.int .i64 (s.ox + x0), .int .i64 (s.oy + x1)]) ∧ Below W.heap.size W w' from fun W h => nat_any q v s x0 x1 W h (i64_sum ox i0) (i64_sum oy i1))
  have AD := Lib.hid (show ∀ W, StAt q v s W → Segs R v s.out W → R ≤ W.heap.size → Calls Tryd.prog 79 #[.pointer (some ⟨q, 0, none⟩), .agg #[.int .i64 4, .int .i64 (s.ox + x0), .int .i64 (s.oy + x1), .int .i64 (m1), .int .i64 (m2), .int .i64 (0), .int .i64 (0), .int .i64 0, .int .i64 0, .int .i64 0, .bool false, .bool false]] W (NPost q R (addM s (segS 4 (s.ox + x0) (s.oy + x1) m1 m2 0 0)) W) from fun W h1 h2 h3 => add_any7 q R v s (segS 4 (s.ox + x0) (s.oy + x1) m1 m2 0 0) W h1 h2 hqR h3 hl)
  clear MI hc hA hI H hr hne ok
  go_enter Tryd.func58, Tryd.ntmps58
  go_wp2_with fail
  go_region_held3 (fun w' => w'.cell? ⟨b, off, none⟩ = some (.int .i64 x0) ∧ w'.cell? ⟨b, off + 1, none⟩ = some (.int .i64 x1)) (first | (simp [go_sem, *]; done) | (exact ⟨by assumption, by assumption⟩))
    (first
      | (go_at_call 81; (with_reducible refine MI2.out.mono ?_); rintro e w1 ⟨rfl, b1⟩; have HS1 := Lib.hid (HS.out.next b1); have HR1 := Lib.hid (HR.out.next b1); have HD1 := Lib.hid (HD.out.trans (b1.mono HD.out.size)); have hR1 := Nat.le_trans hR HD1.out.size; have r0 := (b1.cell (p := ⟨b, off, none⟩) (by exact Nat.lt_of_lt_of_le hbw HD.out.size)).trans a0; have r1 := (b1.cell (p := ⟨b, off + 1, none⟩) (by exact Nat.lt_of_lt_of_le hbw HD.out.size)).trans a1; clear b1)
      | (go_at_call 78; (with_reducible refine (A1.out _ HS1.out).mono ?_); rintro e w2 ⟨rfl, b2⟩; have HS2 := Lib.hid (HS1.out.next b2); have HR2 := Lib.hid (HR1.out.next b2); have HD2 := Lib.hid (HD1.out.trans (b2.mono HD1.out.size)); have hR2 := Nat.le_trans hR HD2.out.size; have u0 := (b2.cell (p := ⟨b, off, none⟩) (by exact Nat.lt_of_lt_of_le hbw HD1.out.size)).trans r0; have u1 := (b2.cell (p := ⟨b, off + 1, none⟩) (by exact Nat.lt_of_lt_of_le hbw HD1.out.size)).trans r1; clear b2)
      | (go_at_call 79; (with_reducible refine (AD.out _ HS2.out HR2.out hR2).mono ?_); rintro e wF HF; have FIN := Lib.hid (NPost.after HD2.out HF); have hee := HF.1; have t0 := ((HF.2.2.below (Nat.le_of_lt HS2.out.lt)).cell (p := ⟨b, off, none⟩) (by exact hbq)).trans u0; have t1 := ((HF.2.2.below (Nat.le_of_lt HS2.out.lt)).cell (p := ⟨b, off + 1, none⟩) (by exact hbq)).trans u1; clear HF; subst hee))
  all_goals
    go_end0
    exact FIN.out

set_option maxHeartbeats 8000000 in
set_option maxRecDepth 100000 in
theorem step_arc : StepOk 59 65 7 := by
  intro q R v s a cap zs w H hr hqR hR hl ok hz hA hI hne hcap
  obtain ⟨b, off, rfl, hbq, hc⟩ : ∃ b off : Nat, a = some ⟨b, off, none⟩ ∧ b < q ∧ ∀ i, i < 7 → w.cell? ⟨b, off + i, none⟩ = some (.int .i64 (nA zs i)) := by
    rcases hI with h | ⟨b, off, h1, h2, h3⟩
    · subst h; simp at hz
    · exact ⟨b, off, h1, h2, by rw [hz] at h3; exact h3⟩
  have ox := ok.ox
  have oy := ok.oy
  have px := ok.px
  have py := ok.py
  have hq := H.lt
  have eS : stepM 65 s zs = addM s ⟨5, s.ox + nA zs 5, s.oy + nA zs 6, 0, 0, 0, 0, nA zs 0, nA zs 1, nA zs 2, nA zs 3 == 1, nA zs 4 == 1⟩ := by unfold stepM; rfl
  rw [eS]
  clear eS
  have a0 : w.cell? ⟨b, off, none⟩ = some (.int .i64 (nA zs 0)) := hc 0 (by decide)
  have i0 := hA 0
  have a1 : w.cell? ⟨b, off + 1, none⟩ = some (.int .i64 (nA zs 1)) := hc 1 (by decide)
  have i1 := hA 1
  have a2 : w.cell? ⟨b, off + 2, none⟩ = some (.int .i64 (nA zs 2)) := hc 2 (by decide)
  have i2 := hA 2
  have a3 : w.cell? ⟨b, off + 3, none⟩ = some (.int .i64 (nA zs 3)) := hc 3 (by decide)
  have i3 := hA 3
  have a4 : w.cell? ⟨b, off + 4, none⟩ = some (.int .i64 (nA zs 4)) := hc 4 (by decide)
  have i4 := hA 4
  have a5 : w.cell? ⟨b, off + 5, none⟩ = some (.int .i64 (nA zs 5)) := hc 5 (by decide)
  have i5 := hA 5
  have a6 : w.cell? ⟨b, off + 6, none⟩ = some (.int .i64 (nA zs 6)) := hc 6 (by decide)
  have i6 := hA 6
  generalize nA zs 0 = x0 at *
  generalize nA zs 1 = x1 at *
  generalize nA zs 2 = x2 at *
  generalize nA zs 3 = x3 at *
  generalize nA zs 4 = x4 at *
  generalize nA zs 5 = x5 at *
  generalize nA zs 6 = x6 at *
  have hbw : b < w.heap.size := by omega
  have hcapI : (7 : Int) ≤ (cap : Int) := by omega
  have dw : Below w.heap.size w w.drew := (Below.refl _ w).drew
  have HS := Lib.hid (H.next dw)
  have HR := Lib.hid (hr.next dw)
  have HD := Lib.hid dw
  have hRd : R ≤ w.drew.heap.size := hR
  have A1 := Lib.hid (show ∀ W, StAt q v s W → Calls Tryd.prog 78 #[.pointer (some ⟨q, 0, none⟩), .int .i64 x5, .int .i64 x6] W fun e w' => e = .returned (.agg #[.int .i64 (s.ox + x5), .int .i64 (s.oy + x6)]) ∧ Below W.heap.size W w' from fun W h => nat_any q v s x5 x6 W h (i64_sum ox i5) (i64_sum oy i6))
  have AD := Lib.hid (show ∀ W, StAt q v s W → Segs R v s.out W → R ≤ W.heap.size → Calls Tryd.prog 79 #[.pointer (some ⟨q, 0, none⟩), .agg #[.int .i64 5, .int .i64 (s.ox + x5), .int .i64 (s.oy + x6), .int .i64 0, .int .i64 0, .int .i64 0, .int .i64 0, .int .i64 x0, .int .i64 x1, .int .i64 x2, .bool (x3 == 1), .bool (x4 == 1)]] W (NPost q R (addM s ⟨5, s.ox + x5, s.oy + x6, 0, 0, 0, 0, x0, x1, x2, x3 == 1, x4 == 1⟩) W) from fun W h1 h2 h3 => add_any7 q R v s ⟨5, s.ox + x5, s.oy + x6, 0, 0, 0, 0, x0, x1, x2, x3 == 1, x4 == 1⟩ W h1 h2 hqR h3 hl)
  clear hc hA hI H hr hne ok
  go_enter Tryd.func59, Tryd.ntmps59
  go_wp2_with fail
  go_region_held3 (fun w' => w'.cell? ⟨b, off, none⟩ = some (.int .i64 x0) ∧ w'.cell? ⟨b, off + 1, none⟩ = some (.int .i64 x1) ∧ w'.cell? ⟨b, off + 2, none⟩ = some (.int .i64 x2) ∧ w'.cell? ⟨b, off + 3, none⟩ = some (.int .i64 x3) ∧ w'.cell? ⟨b, off + 4, none⟩ = some (.int .i64 x4) ∧ w'.cell? ⟨b, off + 5, none⟩ = some (.int .i64 x5) ∧ w'.cell? ⟨b, off + 6, none⟩ = some (.int .i64 x6)) (first | (simp [go_sem, *]; done) | (exact ⟨by assumption, by assumption, by assumption, by assumption, by assumption, by assumption, by assumption⟩))
    (first
      | (go_at_call 78; (with_reducible refine (A1.out _ HS.out).mono ?_); rintro e w1 ⟨rfl, b1⟩; have HS1 := Lib.hid (HS.out.next b1); have HR1 := Lib.hid (HR.out.next b1); have HD1 := Lib.hid (HD.out.trans (b1.mono HD.out.size)); have hR1 := Nat.le_trans hR HD1.out.size; have r0 := (b1.cell (p := ⟨b, off, none⟩) (by exact Nat.lt_of_lt_of_le hbw HD.out.size)).trans a0; have r1 := (b1.cell (p := ⟨b, off + 1, none⟩) (by exact Nat.lt_of_lt_of_le hbw HD.out.size)).trans a1; have r2 := (b1.cell (p := ⟨b, off + 2, none⟩) (by exact Nat.lt_of_lt_of_le hbw HD.out.size)).trans a2; have r3 := (b1.cell (p := ⟨b, off + 3, none⟩) (by exact Nat.lt_of_lt_of_le hbw HD.out.size)).trans a3; have r4 := (b1.cell (p := ⟨b, off + 4, none⟩) (by exact Nat.lt_of_lt_of_le hbw HD.out.size)).trans a4; have r5 := (b1.cell (p := ⟨b, off + 5, none⟩) (by exact Nat.lt_of_lt_of_le hbw HD.out.size)).trans a5; have r6 := (b1.cell (p := ⟨b, off + 6, none⟩) (by exact Nat.lt_of_lt_of_le hbw HD.out.size)).trans a6; clear b1)
      | (go_at_call 79; (with_reducible refine (AD.out _ HS1.out HR1.out hR1).mono ?_); rintro e wF HF; have FIN := Lib.hid (NPost.after HD1.out HF); have hee := HF.1; have t0 := ((HF.2.2.below (Nat.le_of_lt HS1.out.lt)).cell (p := ⟨b, off, none⟩) (by exact hbq)).trans r0; have t1 := ((HF.2.2.below (Nat.le_of_lt HS1.out.lt)).cell (p := ⟨b, off + 1, none⟩) (by exact hbq)).trans r1; have t2 := ((HF.2.2.below (Nat.le_of_lt HS1.out.lt)).cell (p := ⟨b, off + 2, none⟩) (by exact hbq)).trans r2; have t3 := ((HF.2.2.below (Nat.le_of_lt HS1.out.lt)).cell (p := ⟨b, off + 3, none⟩) (by exact hbq)).trans r3; have t4 := ((HF.2.2.below (Nat.le_of_lt HS1.out.lt)).cell (p := ⟨b, off + 4, none⟩) (by exact hbq)).trans r4; have t5 := ((HF.2.2.below (Nat.le_of_lt HS1.out.lt)).cell (p := ⟨b, off + 5, none⟩) (by exact hbq)).trans r5; have t6 := ((HF.2.2.below (Nat.le_of_lt HS1.out.lt)).cell (p := ⟨b, off + 6, none⟩) (by exact hbq)).trans r6; clear HF; subst hee))
  all_goals
    go_end0
    exact FIN.out
end Go.Proofs.YtgiibcnakiggaaaDoor
