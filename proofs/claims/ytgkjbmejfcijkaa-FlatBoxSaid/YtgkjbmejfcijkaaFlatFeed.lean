/-
  Package flat: the iterator of the pieces, as what it hands to a loop's body.
-/
import Derived.Test.YtgkjbmejfcijkaaFlatMu
import Derived.Test.YtgkjbmejfcijkaaJRow
namespace Go.Proofs.Ytgkjbmejfcijkaa
open Go.RowKit Go.Shelf
attribute [local go_sem] Oper.semAt_some
set_option linter.unusedSimpArgs false

theorem AbideO.stk {J : List Crv → World → Prop} {D n : Nat} (h : AbideO T12 D J) {pre : List Crv} {s : List (Crv × Nat)} {W W' : World} (hj : J pre W) (hn : D ≤ n) (hs : Stk n s W) (hb : But W.heap.size n W W') : J pre W' := by
  obtain ⟨cs, h1, _⟩ := hs
  exact h.abide.priv _ _ _ _ _ _ _ hj hn (by unfold T12; decide) h1 hb
theorem Stk.num {n : Nat} {s : List (Crv × Nat)} {w : World} (h : Stk n s w) : w.cell? ⟨n, 189, none⟩ = some (.int .i64 (s.length : Int)) := by
  obtain ⟨cs, h1, h2⟩ := h
  exact h1.c 189 h2.num
theorem Stk.keeps {n a b D : Nat} {s : List (Crv × Nat)} {w w' : World} (h : Stk n s w) (k : KeepsT T12 a b D w w') (hn : D ≤ n) : Stk n s w' := by
  obtain ⟨cs, h1, h2⟩ := h
  exact ⟨cs, k.priv _ _ _ _ hn (by unfold T12; decide) h1, h2⟩
set_option maxRecDepth 100000 in
set_option maxHeartbeats 4000000 in
theorem flat_feed (c : Crv) (hc : c.right) (be ca cb : Nat) (w0 : World) (hE : CBox be 25 c.arr w0) (hb1 : ca ≤ be) (hb2 : be < cb) (hcb : cb ≤ w0.heap.size) :
    FeedsO Try.prog T12 ca cb encC (pieces12 20 c) Fence.wide 6 24 #[.pointer (some ⟨be, 0, none⟩)] w0 := by
  intro l J Jx W hW aJ aJx hY h0
  have hEW : CBox be 25 c.arr W := by
    unfold CBox at *
    exact (hW.block be hb1 hb2).trans hE
  have HE := Lib.hid hEW
  have HY := Lib.hid hY
  have HJ := Lib.hid aJ
  have hcW : cb ≤ W.heap.size := Nat.le_trans hcb hW.size
  have HC := Lib.hid hcW
  have HRI := Lib.hid hc
  clear hY aJ aJx hEW hE hcb hc hW hcW
  refine callsIn_of_wp Try.func24 rfl trivial ?_ rfl
  simp only [Try.ntmps24, List.size_toArray, List.length_cons, List.length_nil, Nat.reduceAdd, Nat.reduceSub, Array.replicate_succ, Array.replicate_zero, List.push_toArray, List.append_toArray, List.nil_append, List.cons_append]
  have bA := (Below.refl W.heap.size W).alloc (Nat.le_refl _) (.cells Try.zeroCells56 56)
  have HSn := Lib.hid (show Stk W.heap.size [] (W.alloc (.cells Try.zeroCells56 56)) from ⟨_, CBox.new W 56 _, StkC.nil rfl rfl⟩)
  have HE1 := Lib.hid (HE.out.next bA)
  have HJ1 := Lib.hid (HJ.out.abide.new _ _ _ h0 bA)
  have HM1 := Lib.hid (Mid.of_below (lo := ca) (bA.mono HC.out))
  have HS1 := Lib.hid bA.size
  clear bA h0 HE
  have PU := Lib.hid (fun w h => (callsIn_wide (n := 6 - 1)).2 (push_any W.heap.size [] (c, 20) w h (by decide)))
  unfold brX brA at PU
  rw [show cutsI 20 = 0 from rfl] at PU
  unfold Crv.arr at HE1
  dsimp only at *
  have x0 : (W.alloc (.cells Try.zeroCells56 56)).cell? ⟨be, 0, none⟩ = some (.int .i64 c.px) := HE1.out.c 0 rfl
  have x1 : (W.alloc (.cells Try.zeroCells56 56)).cell? ⟨be, 1, none⟩ = some (.int .i64 c.py) := HE1.out.c 1 rfl
  have x2 : (W.alloc (.cells Try.zeroCells56 56)).cell? ⟨be, 2, none⟩ = some (.int .i64 c.qx) := HE1.out.c 2 rfl
  have x3 : (W.alloc (.cells Try.zeroCells56 56)).cell? ⟨be, 3, none⟩ = some (.int .i64 c.qy) := HE1.out.c 3 rfl
  have x4 : (W.alloc (.cells Try.zeroCells56 56)).cell? ⟨be, 4, none⟩ = some (.int .i64 c.rx) := HE1.out.c 4 rfl
  have x5 : (W.alloc (.cells Try.zeroCells56 56)).cell? ⟨be, 5, none⟩ = some (.int .i64 c.ry) := HE1.out.c 5 rfl
  have x6 : (W.alloc (.cells Try.zeroCells56 56)).cell? ⟨be, 6, none⟩ = some (.int .i64 c.sx) := HE1.out.c 6 rfl
  have x7 : (W.alloc (.cells Try.zeroCells56 56)).cell? ⟨be, 7, none⟩ = some (.int .i64 c.sy) := HE1.out.c 7 rfl
  gi_wp2_with fail
  refine ⟨trivial, (PU.out _ HSn.out).mono ?_⟩
  rintro o W2 ⟨rfl, hst, hbt⟩
  clear x0 x1 x2 x3 x4 x5 x6 x7 PU HE1
  generalize (W.alloc (.cells Try.zeroCells56 56)) = W1 at *
  have HS2 := Lib.hid hst
  have HJ2 := Lib.hid (HJ.out.stk HJ1.out (Nat.le_refl _) HSn.out hbt)
  have HM2 := Lib.hid (HM1.out.trans (hbt.mid (Nat.le_trans HC.out HS1.out) (.inr HC.out)))
  have HZ2 := Lib.hid (Nat.le_trans HS1.out hbt.size)
  have hst0 : [] ++ stackL [(c, 20)] = pieces12 20 c := by simp [stackL]
  have HP2 := Lib.hid hst0
  clear hst hbt HSn HJ1 HM1 HS1 hst0
  gi_wp2_with fail
  gi_loopw [] (fun wr => PceInv c W.heap.size ca cb W.heap.size W J wr) (fun wr => muW W.heap.size wr)
  case atStart => exact ⟨_, _, HS2.out, stackOk_one HRI.out, HJ2.out, HP2.out, HM2.out, HZ2.out⟩
  case round =>
    obtain ⟨s, pre, hS, hOk, hJ, hp, hM, hsz⟩ := hrel
    clear HS2 HJ2 HP2 HM2 HZ2
    cases s with
    | nil =>
      have n0 := hS.num
      have hp1 : pre = pieces12 20 c := by simpa [stackL] using hp
      have HP1 := Lib.hid hp1; have HJ1 := Lib.hid hJ
      clear hS hOk hJ hp hM hsz hp1
      rw [show ((([] : List (Crv × Nat)).length : Nat) : Int) = 0 from rfl] at n0
      gi_wp2_with fail
      go_end0
      exact ⟨⟨_, rfl⟩, .inl (by rw [← HP1.out]; exact HJ1.out)⟩
    | cons xm t =>
      obtain ⟨x, m⟩ := xm
      have hr := hOk.1.2
      have hl := hOk.1.1
      have PO := Lib.hid (fun w h => (callsIn_wide (n := 6 - 1)).2 (pop_any W.heap.size t (x, m) w h (by omega)))
      have PI := Lib.hid (fun w => (callsIn_wide (n := 6 - 1)).2 (piece_any x m w hr))
      have n0 := hS.num
      have hmu := hS.mu (stackOk_len hOk)
      have HMU := Lib.hid hmu
      have n1 : (((x, m) :: t).length : Int) > 0 := by simp only [List.length_cons]; omega
      generalize (((x, m) :: t).length : Int) = z at *
      have HS := Lib.hid hS; have HOk := Lib.hid hOk; have HJ3 := Lib.hid hJ; have HP := Lib.hid hp; have HM := Lib.hid hM; have HSZ := Lib.hid hsz
      obtain ⟨k, hk⟩ : ∃ k, cutsI m = k := ⟨_, rfl⟩
      unfold brX brA at PO PI
      dsimp only at PO PI
      rw [hk] at PO PI
      clear hS hOk hJ hp hM hsz hmu hr hl
      by_cases hf : x.flat ∨ m = 0
      · have hB := decide_eq_true hf
        have hsl := stackL_leaf t hf
        have hpre : pre ++ [x] ++ stackL t = pieces12 20 c := by rw [← HP.out, hsl]; simp
        have HPR := Lib.hid hpre
        have HPX := Lib.hid (show pre ++ [x] <+: pieces12 20 c by rw [← hpre]; exact List.prefix_append _ _)
        have Y := Lib.hid (fun W1 hj hs => HY.out pre x W1 hj hs HPX.out)
        unfold encC Crv.val Crv.arr at Y
        rw [hB] at PI
        clear hB hsl hpre hf
        gi_wp2_with fail
        refine ⟨trivial, (PO.out _ HS.out).mono ?_⟩
        rintro o w2 ⟨rfl, hst, hbt⟩
        have bz := (Below.refl w2.heap.size w2).alloc (Nat.le_refl _) (.cells #[.int .i64 x.px, .int .i64 x.py, .int .i64 x.qx, .int .i64 x.qy, .int .i64 x.rx, .int .i64 x.ry, .int .i64 x.sx, .int .i64 x.sy, .int .i64 k] 53)
        have HB2 := Lib.hid (CBox.new w2 53 #[.int .i64 x.px, .int .i64 x.py, .int .i64 x.qx, .int .i64 x.qy, .int .i64 x.rx, .int .i64 x.ry, .int .i64 x.sx, .int .i64 x.sy, .int .i64 k])
        have HS2 := Lib.hid (hst.next bz)
        have HJ2 := Lib.hid (HJ.out.abide.new _ _ _ (HJ.out.stk HJ3.out (Nat.le_refl _) HS.out hbt) bz)
        have HM2 := Lib.hid ((HM.out.trans (hbt.mid (Nat.le_trans HC.out HSZ.out) (.inr HC.out))).trans (Mid.of_below (bz.mono (Nat.le_trans HC.out (Nat.le_trans HSZ.out hbt.size)))))
        have HZ2 := Lib.hid (Nat.le_trans (Nat.le_trans HSZ.out hbt.size) bz.size)
        have HQ2 := Lib.hid (Nat.le_trans HSZ.out hbt.size)
        clear n0 n1 hst hbt bz HS HJ3 HM HSZ
        have x0 : (w2.alloc (.cells #[.int .i64 x.px, .int .i64 x.py, .int .i64 x.qx, .int .i64 x.qy, .int .i64 x.rx, .int .i64 x.ry, .int .i64 x.sx, .int .i64 x.sy, .int .i64 k] 53)).cell? ⟨w2.heap.size, 0, none⟩ = some (.int .i64 x.px) := HB2.out.c 0 rfl
        have x1 : (w2.alloc (.cells #[.int .i64 x.px, .int .i64 x.py, .int .i64 x.qx, .int .i64 x.qy, .int .i64 x.rx, .int .i64 x.ry, .int .i64 x.sx, .int .i64 x.sy, .int .i64 k] 53)).cell? ⟨w2.heap.size, 1, none⟩ = some (.int .i64 x.py) := HB2.out.c 1 rfl
        have x2 : (w2.alloc (.cells #[.int .i64 x.px, .int .i64 x.py, .int .i64 x.qx, .int .i64 x.qy, .int .i64 x.rx, .int .i64 x.ry, .int .i64 x.sx, .int .i64 x.sy, .int .i64 k] 53)).cell? ⟨w2.heap.size, 2, none⟩ = some (.int .i64 x.qx) := HB2.out.c 2 rfl
        have x3 : (w2.alloc (.cells #[.int .i64 x.px, .int .i64 x.py, .int .i64 x.qx, .int .i64 x.qy, .int .i64 x.rx, .int .i64 x.ry, .int .i64 x.sx, .int .i64 x.sy, .int .i64 k] 53)).cell? ⟨w2.heap.size, 3, none⟩ = some (.int .i64 x.qy) := HB2.out.c 3 rfl
        have x4 : (w2.alloc (.cells #[.int .i64 x.px, .int .i64 x.py, .int .i64 x.qx, .int .i64 x.qy, .int .i64 x.rx, .int .i64 x.ry, .int .i64 x.sx, .int .i64 x.sy, .int .i64 k] 53)).cell? ⟨w2.heap.size, 4, none⟩ = some (.int .i64 x.rx) := HB2.out.c 4 rfl
        have x5 : (w2.alloc (.cells #[.int .i64 x.px, .int .i64 x.py, .int .i64 x.qx, .int .i64 x.qy, .int .i64 x.rx, .int .i64 x.ry, .int .i64 x.sx, .int .i64 x.sy, .int .i64 k] 53)).cell? ⟨w2.heap.size, 5, none⟩ = some (.int .i64 x.ry) := HB2.out.c 5 rfl
        have x6 : (w2.alloc (.cells #[.int .i64 x.px, .int .i64 x.py, .int .i64 x.qx, .int .i64 x.qy, .int .i64 x.rx, .int .i64 x.ry, .int .i64 x.sx, .int .i64 x.sy, .int .i64 k] 53)).cell? ⟨w2.heap.size, 6, none⟩ = some (.int .i64 x.sx) := HB2.out.c 6 rfl
        have x7 : (w2.alloc (.cells #[.int .i64 x.px, .int .i64 x.py, .int .i64 x.qx, .int .i64 x.qy, .int .i64 x.rx, .int .i64 x.ry, .int .i64 x.sx, .int .i64 x.sy, .int .i64 k] 53)).cell? ⟨w2.heap.size, 7, none⟩ = some (.int .i64 x.sy) := HB2.out.c 7 rfl
        have x8 : (w2.alloc (.cells #[.int .i64 x.px, .int .i64 x.py, .int .i64 x.qx, .int .i64 x.qy, .int .i64 x.rx, .int .i64 x.ry, .int .i64 x.sx, .int .i64 x.sy, .int .i64 k] 53)).cell? ⟨w2.heap.size, 8, none⟩ = some (.int .i64 k) := HB2.out.c 8 rfl
        gi_wp2_with fail
        refine ⟨trivial, (PI.out _).mono ?_⟩
        clear x0 x1 x2 x3 x4 x5 x6 x7 x8
        generalize w2.alloc (.cells #[.int .i64 x.px, .int .i64 x.py, .int .i64 x.qx, .int .i64 x.qy, .int .i64 x.rx, .int .i64 x.ry, .int .i64 x.sx, .int .i64 x.sy, .int .i64 k] 53) = w3 at *
        generalize w2.heap.size = q2 at *
        rintro o w4 ⟨rfl, b4⟩
        have HB4 := Lib.hid (HB2.out.next b4); have HS4 := Lib.hid (HS2.out.next b4); have HJ4 := Lib.hid (HJ.out.abide.new _ _ _ HJ2.out b4); have HM4 := Lib.hid (HM2.out.trans (Mid.of_below (b4.mono (Nat.le_trans HC.out HZ2.out)))); have HZ4 := Lib.hid (Nat.le_trans HZ2.out b4.size)
        clear b4 HB2 HS2 HJ2 HM2 HZ2 PO PI
        have Y4 := Lib.hid (Y.out _ HJ4.out HZ4.out)
        obtain ⟨fn, tmps, assign, body, hy, hR⟩ := Y4.out
        have x0 : w4.cell? ⟨q2, 0, none⟩ = some (.int .i64 x.px) := HB4.out.c 0 rfl
        have x1 : w4.cell? ⟨q2, 1, none⟩ = some (.int .i64 x.py) := HB4.out.c 1 rfl
        have x2 : w4.cell? ⟨q2, 2, none⟩ = some (.int .i64 x.qx) := HB4.out.c 2 rfl
        have x3 : w4.cell? ⟨q2, 3, none⟩ = some (.int .i64 x.qy) := HB4.out.c 3 rfl
        have x4 : w4.cell? ⟨q2, 4, none⟩ = some (.int .i64 x.rx) := HB4.out.c 4 rfl
        have x5 : w4.cell? ⟨q2, 5, none⟩ = some (.int .i64 x.ry) := HB4.out.c 5 rfl
        have x6 : w4.cell? ⟨q2, 6, none⟩ = some (.int .i64 x.sx) := HB4.out.c 6 rfl
        have x7 : w4.cell? ⟨q2, 7, none⟩ = some (.int .i64 x.sy) := HB4.out.c 7 rfl
        gi_wp2_with fail
        refine hR.mono ?_
        clear x0 x1 x2 x3 x4 x5 x6 x7
        rintro o W3 (⟨rfl, hJ5, hk5, _⟩ | ⟨rfl, hJx5, _⟩)
        · have HS5 := Lib.hid (HS4.out.keeps hk5 (Nat.le_refl _))
          have HM5 := Lib.hid (HM4.out.trans hk5.mid)
          have HZ5 := Lib.hid (Nat.le_trans HZ4.out hk5.mid.size)
          have HJ5 := Lib.hid hJ5
          clear hk5 hJ5 hy hR
          gi_wp2_with fail
          go_roundw
          case rel => exact ⟨_, _, HS5.out, HOk.out.2, HJ5.out, HPR.out, HM5.out, HZ5.out⟩
          case measure =>
            rw [HMU.out, HS5.out.mu (stackOk_len HOk.out.2)]
            exact stackMu_leaf x m t
        · gi_wp2
          refine bodyPost_ret (results_none rfl _ _ _) rfl ?_
          exact ⟨⟨_, rfl⟩, .inr ⟨_, HPX.out, hJx5⟩⟩
      · have hB := decide_eq_false hf
        obtain ⟨m2, rfl⟩ : ∃ m2, m = m2 + 1 := ⟨m - 1, by omega⟩
        have hr := HOk.out.1.2
        have hm := HOk.out.1.1
        have hok2 := stackOk_cut HOk.out
        have hcut : pre ++ stackL ((x.cutA, m2) :: (x.cutB, m2) :: t) = pieces12 20 c := by rw [← HP.out, stackL_cut m2 t (fun h => hf (.inl h))]
        have CU := Lib.hid (fun w => (callsIn_wide (n := 6 - 1)).2 (bcut_any x m2 w hr (by omega)))
        have P1 := Lib.hid (fun w h => (callsIn_wide (n := 6 - 1)).2 (push_any W.heap.size t (x.cutB, m2) w h (by omega)))
        have P2 := Lib.hid (fun w h => (callsIn_wide (n := 6 - 1)).2 (push_any W.heap.size ((x.cutB, m2) :: t) (x.cutA, m2) w h (by simp only [List.length_cons]; omega)))
        have MUc := Lib.hid (stackMu_cut x m2 t)
        have OK2 := Lib.hid hok2; have HCUT := Lib.hid hcut
        unfold brX brA at CU P1 P2
        dsimp only at CU P1 P2
        rw [hk] at CU
        obtain ⟨k2, hk2⟩ : ∃ k2, cutsI m2 = k2 := ⟨_, rfl⟩
        rw [hk2] at CU P1 P2
        rw [hB] at PI
        generalize x.cutA = a at *
        generalize x.cutB = b at *
        clear hB hf hok2 hcut hr hm hk hk2
        gi_wp2_with fail
        refine ⟨trivial, (PO.out _ HS.out).mono ?_⟩
        rintro o w2 ⟨rfl, hst, hbt⟩
        have bz := (Below.refl w2.heap.size w2).alloc (Nat.le_refl _) (.cells #[.int .i64 x.px, .int .i64 x.py, .int .i64 x.qx, .int .i64 x.qy, .int .i64 x.rx, .int .i64 x.ry, .int .i64 x.sx, .int .i64 x.sy, .int .i64 k] 53)
        have HB2 := Lib.hid (CBox.new w2 53 #[.int .i64 x.px, .int .i64 x.py, .int .i64 x.qx, .int .i64 x.qy, .int .i64 x.rx, .int .i64 x.ry, .int .i64 x.sx, .int .i64 x.sy, .int .i64 k])
        have HS2 := Lib.hid (hst.next bz)
        have HJ2 := Lib.hid (HJ.out.abide.new _ _ _ (HJ.out.stk HJ3.out (Nat.le_refl _) HS.out hbt) bz)
        have HM2 := Lib.hid ((HM.out.trans (hbt.mid (Nat.le_trans HC.out HSZ.out) (.inr HC.out))).trans (Mid.of_below (bz.mono (Nat.le_trans HC.out (Nat.le_trans HSZ.out hbt.size)))))
        have HZ2 := Lib.hid (Nat.le_trans (Nat.le_trans HSZ.out hbt.size) bz.size)
        clear n0 n1 hst hbt bz HS HJ3 HM HSZ
        have x0 : (w2.alloc (.cells #[.int .i64 x.px, .int .i64 x.py, .int .i64 x.qx, .int .i64 x.qy, .int .i64 x.rx, .int .i64 x.ry, .int .i64 x.sx, .int .i64 x.sy, .int .i64 k] 53)).cell? ⟨w2.heap.size, 0, none⟩ = some (.int .i64 x.px) := HB2.out.c 0 rfl
        have x1 : (w2.alloc (.cells #[.int .i64 x.px, .int .i64 x.py, .int .i64 x.qx, .int .i64 x.qy, .int .i64 x.rx, .int .i64 x.ry, .int .i64 x.sx, .int .i64 x.sy, .int .i64 k] 53)).cell? ⟨w2.heap.size, 1, none⟩ = some (.int .i64 x.py) := HB2.out.c 1 rfl
        have x2 : (w2.alloc (.cells #[.int .i64 x.px, .int .i64 x.py, .int .i64 x.qx, .int .i64 x.qy, .int .i64 x.rx, .int .i64 x.ry, .int .i64 x.sx, .int .i64 x.sy, .int .i64 k] 53)).cell? ⟨w2.heap.size, 2, none⟩ = some (.int .i64 x.qx) := HB2.out.c 2 rfl
        have x3 : (w2.alloc (.cells #[.int .i64 x.px, .int .i64 x.py, .int .i64 x.qx, .int .i64 x.qy, .int .i64 x.rx, .int .i64 x.ry, .int .i64 x.sx, .int .i64 x.sy, .int .i64 k] 53)).cell? ⟨w2.heap.size, 3, none⟩ = some (.int .i64 x.qy) := HB2.out.c 3 rfl
        have x4 : (w2.alloc (.cells #[.int .i64 x.px, .int .i64 x.py, .int .i64 x.qx, .int .i64 x.qy, .int .i64 x.rx, .int .i64 x.ry, .int .i64 x.sx, .int .i64 x.sy, .int .i64 k] 53)).cell? ⟨w2.heap.size, 4, none⟩ = some (.int .i64 x.rx) := HB2.out.c 4 rfl
        have x5 : (w2.alloc (.cells #[.int .i64 x.px, .int .i64 x.py, .int .i64 x.qx, .int .i64 x.qy, .int .i64 x.rx, .int .i64 x.ry, .int .i64 x.sx, .int .i64 x.sy, .int .i64 k] 53)).cell? ⟨w2.heap.size, 5, none⟩ = some (.int .i64 x.ry) := HB2.out.c 5 rfl
        have x6 : (w2.alloc (.cells #[.int .i64 x.px, .int .i64 x.py, .int .i64 x.qx, .int .i64 x.qy, .int .i64 x.rx, .int .i64 x.ry, .int .i64 x.sx, .int .i64 x.sy, .int .i64 k] 53)).cell? ⟨w2.heap.size, 6, none⟩ = some (.int .i64 x.sx) := HB2.out.c 6 rfl
        have x7 : (w2.alloc (.cells #[.int .i64 x.px, .int .i64 x.py, .int .i64 x.qx, .int .i64 x.qy, .int .i64 x.rx, .int .i64 x.ry, .int .i64 x.sx, .int .i64 x.sy, .int .i64 k] 53)).cell? ⟨w2.heap.size, 7, none⟩ = some (.int .i64 x.sy) := HB2.out.c 7 rfl
        have x8 : (w2.alloc (.cells #[.int .i64 x.px, .int .i64 x.py, .int .i64 x.qx, .int .i64 x.qy, .int .i64 x.rx, .int .i64 x.ry, .int .i64 x.sx, .int .i64 x.sy, .int .i64 k] 53)).cell? ⟨w2.heap.size, 8, none⟩ = some (.int .i64 k) := HB2.out.c 8 rfl
        gi_wp2_with fail
        refine ⟨trivial, (PI.out _).mono ?_⟩
        clear x0 x1 x2 x3 x4 x5 x6 x7 x8
        generalize w2.alloc (.cells #[.int .i64 x.px, .int .i64 x.py, .int .i64 x.qx, .int .i64 x.qy, .int .i64 x.rx, .int .i64 x.ry, .int .i64 x.sx, .int .i64 x.sy, .int .i64 k] 53) = w3 at *
        generalize w2.heap.size = q2 at *
        rintro o w4 ⟨rfl, b4⟩
        have HB4 := Lib.hid (HB2.out.next b4); have HS4 := Lib.hid (HS2.out.next b4); have HJ4 := Lib.hid (HJ.out.abide.new _ _ _ HJ2.out b4); have HM4 := Lib.hid (HM2.out.trans (Mid.of_below (b4.mono (Nat.le_trans HC.out HZ2.out)))); have HZ4 := Lib.hid (Nat.le_trans HZ2.out b4.size)
        clear b4 HB2 HS2 HJ2 HM2 HZ2 PO PI
        have x0 : w4.cell? ⟨q2, 0, none⟩ = some (.int .i64 x.px) := HB4.out.c 0 rfl
        have x1 : w4.cell? ⟨q2, 1, none⟩ = some (.int .i64 x.py) := HB4.out.c 1 rfl
        have x2 : w4.cell? ⟨q2, 2, none⟩ = some (.int .i64 x.qx) := HB4.out.c 2 rfl
        have x3 : w4.cell? ⟨q2, 3, none⟩ = some (.int .i64 x.qy) := HB4.out.c 3 rfl
        have x4 : w4.cell? ⟨q2, 4, none⟩ = some (.int .i64 x.rx) := HB4.out.c 4 rfl
        have x5 : w4.cell? ⟨q2, 5, none⟩ = some (.int .i64 x.ry) := HB4.out.c 5 rfl
        have x6 : w4.cell? ⟨q2, 6, none⟩ = some (.int .i64 x.sx) := HB4.out.c 6 rfl
        have x7 : w4.cell? ⟨q2, 7, none⟩ = some (.int .i64 x.sy) := HB4.out.c 7 rfl
        have x8 : w4.cell? ⟨q2, 8, none⟩ = some (.int .i64 k) := HB4.out.c 8 rfl
        gi_wp2_with fail
        refine ⟨trivial, (CU.out _).mono ?_⟩
        clear x0 x1 x2 x3 x4 x5 x6 x7 x8
        rintro o w5 ⟨rfl, b5⟩
        obtain ⟨j1, j2, j3⟩ := boxes_two w5 #[.int .i64 a.px, .int .i64 a.py, .int .i64 a.qx, .int .i64 a.qy, .int .i64 a.rx, .int .i64 a.ry, .int .i64 a.sx, .int .i64 a.sy, .int .i64 k2] #[.int .i64 b.px, .int .i64 b.py, .int .i64 b.qx, .int .i64 b.qy, .int .i64 b.rx, .int .i64 b.ry, .int .i64 b.sx, .int .i64 b.sy, .int .i64 k2] 53 53
        have bb := b5.trans (j3.mono b5.size)
        have HA6 := Lib.hid j1; have HB6 := Lib.hid j2
        have HS6 := Lib.hid (HS4.out.next bb); have HJ6 := Lib.hid (HJ.out.abide.new _ _ _ HJ4.out bb); have HM6 := Lib.hid (HM4.out.trans (Mid.of_below (bb.mono (Nat.le_trans HC.out HZ4.out)))); have HZ6 := Lib.hid (Nat.le_trans HZ4.out bb.size)
        have HN6 := Lib.hid (Nat.lt_of_lt_of_le HS4.out.lt b5.size)
        clear j1 j2 j3 b5 bb HB4 HS4 HJ4 HM4 HZ4 CU
        have y0 : ((w5.alloc (.cells #[.int .i64 a.px, .int .i64 a.py, .int .i64 a.qx, .int .i64 a.qy, .int .i64 a.rx, .int .i64 a.ry, .int .i64 a.sx, .int .i64 a.sy, .int .i64 k2] 53)).alloc (.cells #[.int .i64 b.px, .int .i64 b.py, .int .i64 b.qx, .int .i64 b.qy, .int .i64 b.rx, .int .i64 b.ry, .int .i64 b.sx, .int .i64 b.sy, .int .i64 k2] 53)).cell? ⟨w5.heap.size + 1, 0, none⟩ = some (.int .i64 b.px) := HB6.out.c 0 rfl
        have y1 : ((w5.alloc (.cells #[.int .i64 a.px, .int .i64 a.py, .int .i64 a.qx, .int .i64 a.qy, .int .i64 a.rx, .int .i64 a.ry, .int .i64 a.sx, .int .i64 a.sy, .int .i64 k2] 53)).alloc (.cells #[.int .i64 b.px, .int .i64 b.py, .int .i64 b.qx, .int .i64 b.qy, .int .i64 b.rx, .int .i64 b.ry, .int .i64 b.sx, .int .i64 b.sy, .int .i64 k2] 53)).cell? ⟨w5.heap.size + 1, 1, none⟩ = some (.int .i64 b.py) := HB6.out.c 1 rfl
        have y2 : ((w5.alloc (.cells #[.int .i64 a.px, .int .i64 a.py, .int .i64 a.qx, .int .i64 a.qy, .int .i64 a.rx, .int .i64 a.ry, .int .i64 a.sx, .int .i64 a.sy, .int .i64 k2] 53)).alloc (.cells #[.int .i64 b.px, .int .i64 b.py, .int .i64 b.qx, .int .i64 b.qy, .int .i64 b.rx, .int .i64 b.ry, .int .i64 b.sx, .int .i64 b.sy, .int .i64 k2] 53)).cell? ⟨w5.heap.size + 1, 2, none⟩ = some (.int .i64 b.qx) := HB6.out.c 2 rfl
        have y3 : ((w5.alloc (.cells #[.int .i64 a.px, .int .i64 a.py, .int .i64 a.qx, .int .i64 a.qy, .int .i64 a.rx, .int .i64 a.ry, .int .i64 a.sx, .int .i64 a.sy, .int .i64 k2] 53)).alloc (.cells #[.int .i64 b.px, .int .i64 b.py, .int .i64 b.qx, .int .i64 b.qy, .int .i64 b.rx, .int .i64 b.ry, .int .i64 b.sx, .int .i64 b.sy, .int .i64 k2] 53)).cell? ⟨w5.heap.size + 1, 3, none⟩ = some (.int .i64 b.qy) := HB6.out.c 3 rfl
        have y4 : ((w5.alloc (.cells #[.int .i64 a.px, .int .i64 a.py, .int .i64 a.qx, .int .i64 a.qy, .int .i64 a.rx, .int .i64 a.ry, .int .i64 a.sx, .int .i64 a.sy, .int .i64 k2] 53)).alloc (.cells #[.int .i64 b.px, .int .i64 b.py, .int .i64 b.qx, .int .i64 b.qy, .int .i64 b.rx, .int .i64 b.ry, .int .i64 b.sx, .int .i64 b.sy, .int .i64 k2] 53)).cell? ⟨w5.heap.size + 1, 4, none⟩ = some (.int .i64 b.rx) := HB6.out.c 4 rfl
        have y5 : ((w5.alloc (.cells #[.int .i64 a.px, .int .i64 a.py, .int .i64 a.qx, .int .i64 a.qy, .int .i64 a.rx, .int .i64 a.ry, .int .i64 a.sx, .int .i64 a.sy, .int .i64 k2] 53)).alloc (.cells #[.int .i64 b.px, .int .i64 b.py, .int .i64 b.qx, .int .i64 b.qy, .int .i64 b.rx, .int .i64 b.ry, .int .i64 b.sx, .int .i64 b.sy, .int .i64 k2] 53)).cell? ⟨w5.heap.size + 1, 5, none⟩ = some (.int .i64 b.ry) := HB6.out.c 5 rfl
        have y6 : ((w5.alloc (.cells #[.int .i64 a.px, .int .i64 a.py, .int .i64 a.qx, .int .i64 a.qy, .int .i64 a.rx, .int .i64 a.ry, .int .i64 a.sx, .int .i64 a.sy, .int .i64 k2] 53)).alloc (.cells #[.int .i64 b.px, .int .i64 b.py, .int .i64 b.qx, .int .i64 b.qy, .int .i64 b.rx, .int .i64 b.ry, .int .i64 b.sx, .int .i64 b.sy, .int .i64 k2] 53)).cell? ⟨w5.heap.size + 1, 6, none⟩ = some (.int .i64 b.sx) := HB6.out.c 6 rfl
        have y7 : ((w5.alloc (.cells #[.int .i64 a.px, .int .i64 a.py, .int .i64 a.qx, .int .i64 a.qy, .int .i64 a.rx, .int .i64 a.ry, .int .i64 a.sx, .int .i64 a.sy, .int .i64 k2] 53)).alloc (.cells #[.int .i64 b.px, .int .i64 b.py, .int .i64 b.qx, .int .i64 b.qy, .int .i64 b.rx, .int .i64 b.ry, .int .i64 b.sx, .int .i64 b.sy, .int .i64 k2] 53)).cell? ⟨w5.heap.size + 1, 7, none⟩ = some (.int .i64 b.sy) := HB6.out.c 7 rfl
        have y8 : ((w5.alloc (.cells #[.int .i64 a.px, .int .i64 a.py, .int .i64 a.qx, .int .i64 a.qy, .int .i64 a.rx, .int .i64 a.ry, .int .i64 a.sx, .int .i64 a.sy, .int .i64 k2] 53)).alloc (.cells #[.int .i64 b.px, .int .i64 b.py, .int .i64 b.qx, .int .i64 b.qy, .int .i64 b.rx, .int .i64 b.ry, .int .i64 b.sx, .int .i64 b.sy, .int .i64 k2] 53)).cell? ⟨w5.heap.size + 1, 8, none⟩ = some (.int .i64 k2) := HB6.out.c 8 rfl
        gi_wp2_with fail
        refine ⟨trivial, (P1.out _ HS6.out).mono ?_⟩
        clear y0 y1 y2 y3 y4 y5 y6 y7 y8
        generalize (w5.alloc (.cells #[.int .i64 a.px, .int .i64 a.py, .int .i64 a.qx, .int .i64 a.qy, .int .i64 a.rx, .int .i64 a.ry, .int .i64 a.sx, .int .i64 a.sy, .int .i64 k2] 53)).alloc (.cells #[.int .i64 b.px, .int .i64 b.py, .int .i64 b.qx, .int .i64 b.qy, .int .i64 b.rx, .int .i64 b.ry, .int .i64 b.sx, .int .i64 b.sy, .int .i64 k2] 53) = w6 at *
        rintro o w7 ⟨rfl, hst, hbt⟩
        have HA7 := Lib.hid (show CBox w5.heap.size 53 #[.int .i64 a.px, .int .i64 a.py, .int .i64 a.qx, .int .i64 a.qy, .int .i64 a.rx, .int .i64 a.ry, .int .i64 a.sx, .int .i64 a.sy, .int .i64 k2] w7 from (hbt.block _ HA6.out.lt (by have := HN6.out; omega)).trans HA6.out)
        have HJ7 := Lib.hid (HJ.out.stk HJ6.out (Nat.le_refl _) HS6.out hbt)
        have HM7 := Lib.hid (HM6.out.trans (hbt.mid (Nat.le_trans HC.out HZ6.out) (.inr HC.out)))
        have HZ7 := Lib.hid (Nat.le_trans HZ6.out hbt.size)
        have HS7 := Lib.hid hst
        clear hst hbt HA6 HB6 HS6 HJ6 HM6 HZ6 P1
        generalize w5.heap.size = q5 at *
        have y0 : w7.cell? ⟨q5, 0, none⟩ = some (.int .i64 a.px) := HA7.out.c 0 rfl
        have y1 : w7.cell? ⟨q5, 1, none⟩ = some (.int .i64 a.py) := HA7.out.c 1 rfl
        have y2 : w7.cell? ⟨q5, 2, none⟩ = some (.int .i64 a.qx) := HA7.out.c 2 rfl
        have y3 : w7.cell? ⟨q5, 3, none⟩ = some (.int .i64 a.qy) := HA7.out.c 3 rfl
        have y4 : w7.cell? ⟨q5, 4, none⟩ = some (.int .i64 a.rx) := HA7.out.c 4 rfl
        have y5 : w7.cell? ⟨q5, 5, none⟩ = some (.int .i64 a.ry) := HA7.out.c 5 rfl
        have y6 : w7.cell? ⟨q5, 6, none⟩ = some (.int .i64 a.sx) := HA7.out.c 6 rfl
        have y7 : w7.cell? ⟨q5, 7, none⟩ = some (.int .i64 a.sy) := HA7.out.c 7 rfl
        have y8 : w7.cell? ⟨q5, 8, none⟩ = some (.int .i64 k2) := HA7.out.c 8 rfl
        gi_wp2_with fail
        refine ⟨trivial, (P2.out _ HS7.out).mono ?_⟩
        clear y0 y1 y2 y3 y4 y5 y6 y7 y8
        rintro o w8 ⟨rfl, hst, hbt⟩
        have HJ8 := Lib.hid (HJ.out.stk HJ7.out (Nat.le_refl _) HS7.out hbt)
        have HM8 := Lib.hid (HM7.out.trans (hbt.mid (Nat.le_trans HC.out HZ7.out) (.inr HC.out)))
        have HZ8 := Lib.hid (Nat.le_trans HZ7.out hbt.size)
        have HS8 := Lib.hid hst
        clear hst hbt HA7 HS7 HJ7 HM7 HZ7 P2
        gi_wp2_with fail
        go_roundw
        case rel => exact ⟨_, _, HS8.out, OK2.out, HJ8.out, HCUT.out, HM8.out, HZ8.out⟩
        case measure =>
          rw [HMU.out, HS8.out.mu (stackOk_len OK2.out)]
          exact MUc.out
end Go.Proofs.Ytgkjbmejfcijkaa
