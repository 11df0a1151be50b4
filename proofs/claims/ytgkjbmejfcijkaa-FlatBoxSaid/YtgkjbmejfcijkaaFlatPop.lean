/-
  Package flat: pop.
-/
import Derived.Test.YtgkjbmejfcijkaaFlatPush
namespace Go.Proofs.Ytgkjbmejfcijkaa
open Go.RowKit Go.Shelf
set_option linter.unusedSimpArgs false

theorem wrap_o1 (o : Nat) (h : o < 21) : wrap64 (o : Int) = (o : Int) := by unfold wrap64; omega
theorem CBox.set9 {n : Nat} {t : TypeId} {w : World} {a0 a1 a2 a3 a4 a5 a6 a7 a8 : Value} (h : CBox n t #[a0, a1, a2, a3, a4, a5, a6, a7, a8] w) (b0 b1 b2 b3 b4 b5 b6 b7 b8 : Value) : CBox n t #[b0, b1, b2, b3, b4, b5, b6, b7, b8] (((((((((w.setCell ⟨n, 0, none⟩ b0).setCell ⟨n, 1, none⟩ b1).setCell ⟨n, 2, none⟩ b2).setCell ⟨n, 3, none⟩ b3).setCell ⟨n, 4, none⟩ b4).setCell ⟨n, 5, none⟩ b5).setCell ⟨n, 6, none⟩ b6).setCell ⟨n, 7, none⟩ b7).setCell ⟨n, 8, none⟩ b8) := by
  unfold CBox at *
  simp only [World.setCell, Array.getElem?_modify, h]
  simp
theorem CBox.other9 {n q : Nat} {t : TypeId} {w : World} {cs : Array Value} (h : CBox n t cs w) (hn : n ≠ q) (b0 b1 b2 b3 b4 b5 b6 b7 b8 : Value) : CBox n t cs (((((((((w.setCell ⟨q, 0, none⟩ b0).setCell ⟨q, 1, none⟩ b1).setCell ⟨q, 2, none⟩ b2).setCell ⟨q, 3, none⟩ b3).setCell ⟨q, 4, none⟩ b4).setCell ⟨q, 5, none⟩ b5).setCell ⟨q, 6, none⟩ b6).setCell ⟨q, 7, none⟩ b7).setCell ⟨q, 8, none⟩ b8) :=
  ((((((((h.other hn _ _).other hn _ _).other hn _ _).other hn _ _).other hn _ _).other hn _ _).other hn _ _).other hn _ _).other hn _ _
theorem but_9n {R B q : Nat} {w w' : World} (h : But R B w w') (hq : q = B ∨ R ≤ q) (v0 v1 v2 v3 v4 v5 v6 v7 v8 : Value) : But R B w (((((((((w'.setCell ⟨q, 0, none⟩ v0).setCell ⟨q, 1, none⟩ v1).setCell ⟨q, 2, none⟩ v2).setCell ⟨q, 3, none⟩ v3).setCell ⟨q, 4, none⟩ v4).setCell ⟨q, 5, none⟩ v5).setCell ⟨q, 6, none⟩ v6).setCell ⟨q, 7, none⟩ v7).setCell ⟨q, 8, none⟩ v8) :=
  ((((((((h.setCell hq _ _).setCell hq _ _).setCell hq _ _).setCell hq _ _).setCell hq _ _).setCell hq _ _).setCell hq _ _).setCell hq _ _).setCell hq _ _
theorem br_ret {f : Func} {k : Nat} (hres : f.results = #[ResultVar.cell k 53]) {n : Nat} {wr : World} {PP : Ending → World → Prop} {a0 a1 a2 a3 a4 a5 a6 a7 a8 : Value} {ts : Array Value} (hp : CBox n 53 #[a0, a1, a2, a3, a4, a5, a6, a7, a8] wr) (hts : ts[k]? = some (.pointer (some ⟨n, 0, none⟩))) (hP : PP (.returned (.agg #[a0, a1, a2, a3, a4, a5, a6, a7, a8])) wr) :
    bodyPost Try.prog f PP .ret { tmps := ts, defers := [] } wr := by
  have c0 : wr.cell? ⟨n, 0, none⟩ = some a0 := hp.c 0 rfl
  have c1 : wr.cell? ⟨n, 1, none⟩ = some a1 := hp.c 1 rfl
  have c2 : wr.cell? ⟨n, 2, none⟩ = some a2 := hp.c 2 rfl
  have c3 : wr.cell? ⟨n, 3, none⟩ = some a3 := hp.c 3 rfl
  have c4 : wr.cell? ⟨n, 4, none⟩ = some a4 := hp.c 4 rfl
  have c5 : wr.cell? ⟨n, 5, none⟩ = some a5 := hp.c 5 rfl
  have c6 : wr.cell? ⟨n, 6, none⟩ = some a6 := hp.c 6 rfl
  have c7 : wr.cell? ⟨n, 7, none⟩ = some a7 := hp.c 7 rfl
  have c8 : wr.cell? ⟨n, 8, none⟩ = some a8 := hp.c 8 rfl
  exact bodyPost_ret (v := .agg #[a0, a1, a2, a3, a4, a5, a6, a7, a8]) (by simp [results, hres, go_sem, c0, c1, c2, c3, c4, c5, c6, c7, c8, hts]) rfl hP
set_option maxHeartbeats 4000000 in
set_option maxRecDepth 100000 in
theorem pop_any (n : Nat) (s : List (Crv × Nat)) (x : Crv × Nat) (w : World) (h : Stk n (x :: s) w) (hl : s.length < 21) :
    Calls Try.prog 26 #[.pointer (some ⟨n, 0, none⟩)] w fun e w' => e = .returned (.agg (brX x)) ∧ Stk n s w' ∧ But w.heap.size n w w' := by
  obtain ⟨cs, hb, hc⟩ := h
  have hlt := hb.lt
  have HP := Lib.hid hc.pop
  have ht : ∀ j, j < 9 → cs[s.length * 9 + j]? = (brX x)[j]? := fun j hj => hc.top hl hj
  obtain ⟨⟨px, py, qx, qy, rx, ry, sx, sy⟩, m⟩ := x
  have hnum := hc.num
  have hsz := hc.size
  unfold brX brA at *
  dsimp only at *
  generalize cutsI m = k at *
  rw [List.length_cons] at hnum
  push_cast at hnum
  generalize s.length = o at *
  have HT := Lib.hid ht
  have k1 := CBox.new w 53 #[.int .i64 0, .int .i64 0, .int .i64 0, .int .i64 0, .int .i64 0, .int .i64 0, .int .i64 0, .int .i64 0, .int .i64 0]
  have b1 := (Below.refl w.heap.size w).alloc (Nat.le_refl _) (.cells #[.int .i64 0, .int .i64 0, .int .i64 0, .int .i64 0, .int .i64 0, .int .i64 0, .int .i64 0, .int .i64 0, .int .i64 0] 53)
  have HR := Lib.hid k1
  have HS := Lib.hid (hb.next b1)
  have HB := Lib.hid b1
  have HN := Lib.hid hnum
  have hw := wrap_o1 o hl
  have hne := Nat.ne_of_lt hlt
  have HL := Lib.hid hl; have HSZ := Lib.hid hsz; have HNE := Lib.hid hne
  clear k1 b1 hb hc hnum ht hlt hl hsz hne
  go_enter Try.func26, Try.ntmps26
  go_upto_region 1 with fail
  generalize w.alloc (.cells #[.int .i64 0, .int .i64 0, .int .i64 0, .int .i64 0, .int .i64 0, .int .i64 0, .int .i64 0, .int .i64 0, .int .i64 0] 53) = w1 at *
  have n0 : w1.cell? ⟨n, 189, none⟩ = some (.int .i64 ((o : Int) + 1)) := HS.out.c 189 HN.out
  have n1 : w1.frozen? ⟨n, 189, none⟩ = false := HS.out.z _
  go_upto_region 2 with fail
  have HS2 := Lib.hid (HS.out.setI 189 (.int .i64 (o : Int)))
  have HR2 := Lib.hid (HR.out.other (Ne.symm HNE.out) 189 (.int .i64 (o : Int)))
  have HB2 := Lib.hid ((But.of_below (B := n) HB.out).setCell (.inl rfl) 189 (.int .i64 (o : Int)))
  clear n0 n1
  generalize w1.setCell ⟨n, 189, none⟩ (.int .i64 (o : Int)) = w2 at *
  have m0 : w2.cell? ⟨n, 189, none⟩ = some (.int .i64 (o : Int)) := HS2.out.c 189 (Array.getElem?_setIfInBounds_self_of_lt (by rw [HSZ.out]; decide))
  have HT2 := Lib.hid (fun j hj => (Array.getElem?_setIfInBounds_ne (xs := cs) (i := 189) (j := o * 9 + j) (a := .int .i64 (o : Int)) (by have := HL.out; omega)).trans (HT.out j hj))
  have y0 : w2.cell? ⟨n, o * 9, none⟩ = some (.int .i64 px) := HS2.out.c _ (HT2.out 0 (by decide))
  have y1 : w2.cell? ⟨n, o * 9 + 1, none⟩ = some (.int .i64 py) := HS2.out.c _ (HT2.out 1 (by decide))
  have y2 : w2.cell? ⟨n, o * 9 + 2, none⟩ = some (.int .i64 qx) := HS2.out.c _ (HT2.out 2 (by decide))
  have y3 : w2.cell? ⟨n, o * 9 + 3, none⟩ = some (.int .i64 qy) := HS2.out.c _ (HT2.out 3 (by decide))
  have y4 : w2.cell? ⟨n, o * 9 + 4, none⟩ = some (.int .i64 rx) := HS2.out.c _ (HT2.out 4 (by decide))
  have y5 : w2.cell? ⟨n, o * 9 + 5, none⟩ = some (.int .i64 ry) := HS2.out.c _ (HT2.out 5 (by decide))
  have y6 : w2.cell? ⟨n, o * 9 + 6, none⟩ = some (.int .i64 sx) := HS2.out.c _ (HT2.out 6 (by decide))
  have y7 : w2.cell? ⟨n, o * 9 + 7, none⟩ = some (.int .i64 sy) := HS2.out.c _ (HT2.out 7 (by decide))
  have y8 : w2.cell? ⟨n, o * 9 + 8, none⟩ = some (.int .i64 k) := HS2.out.c _ (HT2.out 8 (by decide))
  have r0 : w2.cell? ⟨w.heap.size, 0, none⟩ = some (.int .i64 0) := HR2.out.c 0 rfl
  have g0 := HR2.out.z 0
  have r1 : w2.cell? ⟨w.heap.size, 1, none⟩ = some (.int .i64 0) := HR2.out.c 1 rfl
  have g1 := HR2.out.z 1
  have r2 : w2.cell? ⟨w.heap.size, 2, none⟩ = some (.int .i64 0) := HR2.out.c 2 rfl
  have g2 := HR2.out.z 2
  have r3 : w2.cell? ⟨w.heap.size, 3, none⟩ = some (.int .i64 0) := HR2.out.c 3 rfl
  have g3 := HR2.out.z 3
  have r4 : w2.cell? ⟨w.heap.size, 4, none⟩ = some (.int .i64 0) := HR2.out.c 4 rfl
  have g4 := HR2.out.z 4
  have r5 : w2.cell? ⟨w.heap.size, 5, none⟩ = some (.int .i64 0) := HR2.out.c 5 rfl
  have g5 := HR2.out.z 5
  have r6 : w2.cell? ⟨w.heap.size, 6, none⟩ = some (.int .i64 0) := HR2.out.c 6 rfl
  have g6 := HR2.out.z 6
  have r7 : w2.cell? ⟨w.heap.size, 7, none⟩ = some (.int .i64 0) := HR2.out.c 7 rfl
  have g7 := HR2.out.z 7
  have r8 : w2.cell? ⟨w.heap.size, 8, none⟩ = some (.int .i64 0) := HR2.out.c 8 rfl
  have g8 := HR2.out.z 8
  have hoi : (o : Int) < 21 := by have := HL.out; omega
  have hoi0 : (0 : Int) ≤ (o : Int) := by omega
  go_region_with fail
  all_goals (
    have p1 : CBox w.heap.size 53 #[.int .i64 px, .int .i64 py, .int .i64 qx, .int .i64 qy, .int .i64 rx, .int .i64 ry, .int .i64 sx, .int .i64 sy, .int .i64 k] (((((((((w2.setCell ⟨w.heap.size, 0, none⟩ (.int .i64 px)).setCell ⟨w.heap.size, 1, none⟩ (.int .i64 py)).setCell ⟨w.heap.size, 2, none⟩ (.int .i64 qx)).setCell ⟨w.heap.size, 3, none⟩ (.int .i64 qy)).setCell ⟨w.heap.size, 4, none⟩ (.int .i64 rx)).setCell ⟨w.heap.size, 5, none⟩ (.int .i64 ry)).setCell ⟨w.heap.size, 6, none⟩ (.int .i64 sx)).setCell ⟨w.heap.size, 7, none⟩ (.int .i64 sy)).setCell ⟨w.heap.size, 8, none⟩ (.int .i64 k)).drew := (HR2.out.set9 _ _ _ _ _ _ _ _ _).drew
    have p2 : But w.heap.size n w (((((((((w2.setCell ⟨w.heap.size, 0, none⟩ (.int .i64 px)).setCell ⟨w.heap.size, 1, none⟩ (.int .i64 py)).setCell ⟨w.heap.size, 2, none⟩ (.int .i64 qx)).setCell ⟨w.heap.size, 3, none⟩ (.int .i64 qy)).setCell ⟨w.heap.size, 4, none⟩ (.int .i64 rx)).setCell ⟨w.heap.size, 5, none⟩ (.int .i64 ry)).setCell ⟨w.heap.size, 6, none⟩ (.int .i64 sx)).setCell ⟨w.heap.size, 7, none⟩ (.int .i64 sy)).setCell ⟨w.heap.size, 8, none⟩ (.int .i64 k)).drew := (but_9n HB2.out (.inr (Nat.le_refl _)) _ _ _ _ _ _ _ _ _).drew
    have p3 : CBox n 56 (cs.setIfInBounds 189 (.int .i64 (o : Int))) (((((((((w2.setCell ⟨w.heap.size, 0, none⟩ (.int .i64 px)).setCell ⟨w.heap.size, 1, none⟩ (.int .i64 py)).setCell ⟨w.heap.size, 2, none⟩ (.int .i64 qx)).setCell ⟨w.heap.size, 3, none⟩ (.int .i64 qy)).setCell ⟨w.heap.size, 4, none⟩ (.int .i64 rx)).setCell ⟨w.heap.size, 5, none⟩ (.int .i64 ry)).setCell ⟨w.heap.size, 6, none⟩ (.int .i64 sx)).setCell ⟨w.heap.size, 7, none⟩ (.int .i64 sy)).setCell ⟨w.heap.size, 8, none⟩ (.int .i64 k)).drew := (HS2.out.other9 HNE.out _ _ _ _ _ _ _ _ _).drew
    generalize (((((((((w2.setCell ⟨w.heap.size, 0, none⟩ (.int .i64 px)).setCell ⟨w.heap.size, 1, none⟩ (.int .i64 py)).setCell ⟨w.heap.size, 2, none⟩ (.int .i64 qx)).setCell ⟨w.heap.size, 3, none⟩ (.int .i64 qy)).setCell ⟨w.heap.size, 4, none⟩ (.int .i64 rx)).setCell ⟨w.heap.size, 5, none⟩ (.int .i64 ry)).setCell ⟨w.heap.size, 6, none⟩ (.int .i64 sx)).setCell ⟨w.heap.size, 7, none⟩ (.int .i64 sy)).setCell ⟨w.heap.size, 8, none⟩ (.int .i64 k)).drew = w3 at *
    clear y0 r0 g0 y1 r1 g1 y2 r2 g2 y3 r3 g3 y4 r4 g4 y5 r5 g5 y6 r6 g6 y7 r7 g7 y8 r8 g8 m0 hoi hoi0
    have P1 := Lib.hid p1; have P2 := Lib.hid p2; have P3 := Lib.hid p3
    clear p1 p2 p3
    go_wp2_with fail
    exact br_ret Try.results26 P1.out rfl ⟨rfl, ⟨_, P3.out, HP.out⟩, P2.out⟩)
end Go.Proofs.Ytgkjbmejfcijkaa
