/- Joined: OutStr, RowIn, RowBox, OutEdges, NormMore, PathRd. -/
import Derived.Test.YtbjabclgekkpaaaGreatDoorQOM01
import Derived.Test.YtbjabclgekkpaaaGreatDoorQOM02
import Derived.Test.YtbjabclgekkpaaaGreatDoorQOM07
import Derived.Test.YtbjabclgekkpaaaGreatDoorQOM08
import Derived.Test.YtbjabclgekkpaaaGreatDoorQOM19
import Derived.Test.YtbjabclgekkpaaaGreatDoorQOM21
import Derived.OwnWalkIn
namespace Go.Proofs.YtbjabclgekkpaaaGreatDoor
open Go.RowKit Go.Shelf
attribute [local go_sem] Oper.semAt_some
set_option linter.unusedSimpArgs false
/-- The type of the iterator's own variable. -/
def T13 (t : TypeId) : Prop := t = 74
/-- A stroke as it is handed over: a row of its own, and its error's number. -/
def encS (R : Nat) (x : List Edg × Int) (args : Array Value) (W : World) : Prop := ∃ v, args = #[v, .int .i64 x.2] ∧ Edgs R v x.1 W
theorem rdS_keep {a : Option Addr} {l : List Seg} {w w' : World} (h : RdS a l w) (hs : w.heap.size ≤ w'.heap.size) (hb : l ≠ [] → ∀ b off, a = some ⟨b, off, none⟩ → w'.heap[b]? = w.heap[b]?) : RdS a l w' := by
  by_cases hz : l = []
  · exact .inl hz
  rcases h with h | ⟨b, off, ha, hlt, hc⟩
  · exact .inl h
  · have k := hb hz b off ha
    have c := fun o => World.cell?_of_block (w := w) (w' := w') (a := ⟨b, o, none⟩) k
    exact .inr ⟨b, off, ha, Nat.lt_of_lt_of_le hlt hs, fun i hi => by
      obtain ⟨h0, h1, h2, h3, h4, h5, h6, h7, h8, h9, h10, h11⟩ := hc i hi
      exact ⟨(c _).trans h0, (c _).trans h1, (c _).trans h2, (c _).trans h3, (c _).trans h4, (c _).trans h5, (c _).trans h6, (c _).trans h7, (c _).trans h8, (c _).trans h9, (c _).trans h10, (c _).trans h11⟩⟩
def intN : Value → Int
  | .int _ n => n
  | _ => 0
/-- What the loop keeps. -/
def StrInv (D : Pen → Seg → List Edg × Int) (m : Mtx) (l : List Seg) (q : Nat) (Pr : Nat → Prop) (w0 : World) (n : Nat) (J : List (List Edg × Int) → World → Prop) (v : Value) (wr : World) : Prop :=
  ∃ i : Nat, i ≤ l.length ∧ v = .int .i64 (i : Int) ∧ ∃ pre s, PenB q m s wr ∧ PenIn s ∧ J pre wr ∧ pre ++ strO D m s (l.drop i) = allO D m l ∧ KeepP Pr w0 wr ∧ n ≤ wr.heap.size
theorem AbideO.pen {D n : Nat} {J : List (List Edg × Int) → World → Prop} (h : AbideO T13 D J) {pre : List (List Edg × Int)} {m : Mtx} {s : Pen} {W W' : World} (hj : J pre W) (hn : D ≤ n) (hs : PenB n m s W) (hb : But W.heap.size n W W') : J pre W' :=
  h.abide.priv _ _ _ _ _ _ _ hj hn rfl hs hb
theorem PenB.keeps {n D : Nat} {Pr : Nat → Prop} {m : Mtx} {s : Pen} {w w' : World} (h : PenB n m s w) (k : KeepsV T13 Pr D w w') (hn : D ≤ n) : PenB n m s w' := k.priv _ _ _ _ hn rfl h
theorem KeepP.but {Pr : Nat → Prop} {w0 w w' : World} {q : Nat} (h : KeepP Pr w0 w) (b : But w.heap.size q w w') (hp : ∀ k, Pr k → k < w0.heap.size) (hq : w0.heap.size ≤ q) : KeepP Pr w0 w' :=
  ⟨Nat.le_trans h.1 b.size, fun k hk => (b.block k (Nat.lt_of_lt_of_le (hp k hk) h.1) (by have := hp k hk; omega)).trans (h.2 k hk)⟩
theorem KeepP.next {Pr : Nat → Prop} {w0 w w' : World} (h : KeepP Pr w0 w) (b : Below w.heap.size w w') (hp : ∀ k, Pr k → k < w0.heap.size) : KeepP Pr w0 w' :=
  ⟨Nat.le_trans h.1 b.size, fun k hk => (b.block k (Nat.lt_of_lt_of_le (hp k hk) h.1)).trans (h.2 k hk)⟩
theorem KeepP.keeps {T : TypeId → Prop} {Pr : Nat → Prop} {D : Nat} {w0 w w' : World} (h : KeepP Pr w0 w) (k : KeepsV T Pr D w w') : KeepP Pr w0 w' := ⟨Nat.le_trans h.1 k.size, fun b hb => (k.mid b hb).trans (h.2 b hb)⟩
theorem seg_at {a : Option Addr} {l : List Seg} {w : World} (h : RdS a l w) {i : Nat} (hi : i < l.length) : ∃ b off, a = some ⟨b, off, none⟩ ∧ b < w.heap.size ∧ SegAt b (off + i * 12) (l.getD i zeroS) w := by
  obtain ⟨b, off, h1, h2, h3⟩ := h.pos (by omega)
  exact ⟨b, off, h1, h2, h3 i hi⟩
set_option maxRecDepth 100000 in
set_option maxHeartbeats 8000000 in
theorem strokes_feed (D : Pen → Seg → List Edg × Int) (m : Mtx) (hm : MI64 m) (Kd : Seg → Prop) (DK : DrawOk m D Kd) (a : Option Addr) (l : List Seg) (cap : Nat) (hl : l.length ≤ 1000) (hS : ∀ g ∈ l, SegI g) (hK : ∀ g ∈ l, Kd g)
    (bm bl : Nat) (w0 : World) (hm0 : CBox bm 23 m.cells w0) (hl0 : CBox bl 24 #[.slice a l.length cap] w0) (hr : RdS a l w0) (Pr : Nat → Prop) (hpm : Pr bm) (hpl : Pr bl) (hpa : l ≠ [] → ∀ b off, a = some ⟨b, off, none⟩ → Pr b) (hPr : ∀ k, Pr k → k < w0.heap.size) :
    FeedsV Tryz.prog T13 Pr encS (allO D m l) Fence.wide 6 24 #[.pointer (some ⟨bm, 0, none⟩), .pointer (some ⟨bl, 0, none⟩)] w0 := by
  intro l' J Jx W hW aJ aJx hY h0
  have HM := Lib.hid (show CBox bm 23 m.cells W from (hW.2 bm hpm).trans hm0)
  have HL := Lib.hid (show CBox bl 24 #[.slice a l.length cap] W from (hW.2 bl hpl).trans hl0)
  have HRd := Lib.hid (rdS_keep hr hW.1 (fun z b off e => hW.2 b (hpa z b off e)))
  have HKeep := Lib.hid hW; have HY := Lib.hid hY; have HJ := Lib.hid aJ; have HP := Lib.hid hPr
  have HPA := Lib.hid (fun (X : World) (h : KeepP Pr w0 X) => show CBox bl 24 #[.slice a l.length cap] X ∧ RdS a l X from ⟨(h.2 bl hpl).trans hl0, rdS_keep hr h.1 (fun z b off e => h.2 b (hpa z b off e))⟩)
  have AR := Lib.hid (fun w => (callsIn_wide (n := 6 - 1)).2 (aright8 m w hm))
  have NR := Lib.hid (fun w (h : RdS a l w) r hr => (callsIn_wide (n := 6 - 1)).2 (right_any7 a l cap w hl h hS r hr))
  have FI := Lib.hid (fun q s w (hs : PenIn s) (h : PenB q m s w) => (callsIn_wide (n := 6 - 1)).2 (finish_any q m s w h hm hs))
  have DR := Lib.hid (fun q s g w (hs : PenIn s) (hg : aloneP g) (hk : Kd g) (h : PenB q m s w) => (callsIn_wide (n := 6 - 1)).2 (DK s g q w hs hg hk h))
  have HKd := Lib.hid hK; have HSg := Lib.hid hS
  clear hY aJ aJx hW hm0 hl0 hr hpm hpl hpa hPr DK hm hS hK
  have hwl : (l.length : Int) ≤ 1000 := by omega
  refine callsIn_of_wp Tryz.func24 rfl trivial ?_ rfl
  simp only [Tryz.ntmps24, List.size_toArray, List.length_cons, List.length_nil, Nat.reduceAdd, Nat.reduceSub, Array.replicate_succ, Array.replicate_zero, List.push_toArray, List.append_toArray, List.nil_append, List.cons_append]
  obtain ⟨M, hM⟩ : ∃ M, m = M := ⟨_, rfl⟩
  rw [hM] at AR HM
  have hMc : decide M.right = decide m.right := by rw [hM]
  obtain ⟨ma, mb, mc, md, me, mf⟩ := M
  unfold Mtx.val at AR
  unfold Mtx.cells at AR HM
  dsimp only at AR HM
  rw [hMc] at AR
  have x0 : W.cell? ⟨bm, 0, none⟩ = some (.int .i64 ma) := HM.out.c 0 rfl
  have x1 : W.cell? ⟨bm, 1, none⟩ = some (.int .i64 mb) := HM.out.c 1 rfl
  have x2 : W.cell? ⟨bm, 2, none⟩ = some (.int .i64 mc) := HM.out.c 2 rfl
  have x3 : W.cell? ⟨bm, 3, none⟩ = some (.int .i64 md) := HM.out.c 3 rfl
  have x4 : W.cell? ⟨bm, 4, none⟩ = some (.int .i64 me) := HM.out.c 4 rfl
  have x5 : W.cell? ⟨bm, 5, none⟩ = some (.int .i64 mf) := HM.out.c 5 rfl
  by_cases hmr : m.right
  case neg =>
    have HALL := Lib.hid (show allO D m l = [([], 1)] from by unfold allO; rw [if_neg (fun h => hmr h.1)])
    have HPX := Lib.hid (show [] ++ [(([], 1) : List Edg × Int)] <+: allO D m l by rw [HALL.out]; exact List.prefix_refl _)
    rw [decide_eq_false hmr] at AR
    gi_wp2_with fail
    refine ⟨trivial, (AR.out _).mono ?_⟩
    rintro o W1 ⟨rfl, b1⟩
    have HJ1 := Lib.hid (HJ.out.abide.new _ _ _ h0 b1); have HS1 := Lib.hid b1.size
    clear x0 x1 x2 x3 x4 x5 b1 h0
    rw [show [] ++ [(([], 1) : List Edg × Int)] = [([], 1)] from rfl] at HPX
    try simp only [List.nil_append] at HY
    have Y := HY.out [] ([], 1) #[.slice none 0 0, .int .i64 1] W1 HJ1.out HS1.out HPX.out ⟨_, rfl, edgs_nil _ _⟩
    obtain ⟨fn, tmps, assign, body, hy, hR⟩ := Y
    gi_wp2_with fail
    refine ⟨trivial, ?_⟩
    gi_wp2_with fail
    refine hR.mono ?_
    rintro o W3 (⟨rfl, hJ5, _, _⟩ | ⟨rfl, hJx5, _⟩)
    · have HJ5 := Lib.hid hJ5
      clear hJ5 hy hR
      gi_wp2
      refine bodyPost_ret (results_none rfl _ _ _) rfl ?_
      exact ⟨⟨_, rfl⟩, .inl (by rw [HALL.out]; exact HJ5.out)⟩
    · have HJ5 := Lib.hid hJx5
      clear hJx5 hy hR
      gi_wp2
      refine bodyPost_ret (results_none rfl _ _ _) rfl ?_
      exact ⟨⟨_, rfl⟩, .inr ⟨[([], 1)], HPX.out, HJ5.out⟩⟩
  case pos =>
    rw [decide_eq_true hmr] at AR
    gi_wp2_with fail
    refine ⟨trivial, (AR.out _).mono ?_⟩
    rintro o W1 ⟨rfl, b1⟩
    have HJ1 := Lib.hid (HJ.out.abide.new _ _ _ h0 b1); have HS1 := Lib.hid b1.size
    have HM1 := Lib.hid (HM.out.next b1); have HL1 := Lib.hid (HL.out.next b1); have HR1 := Lib.hid (HRd.out.next b1); have HK1 := Lib.hid (HKeep.out.next b1 HP.out)
    clear x0 x1 x2 x3 x4 x5 b1 h0 HM HL HRd AR
    have y0 : W1.cell? ⟨bl, 0, none⟩ = some (.slice a l.length cap) := HL1.out.c 0 rfl
    by_cases hrp : rightP l 0 0 false
    case neg =>
      have HALL := Lib.hid (show allO D m l = [([], 1)] from by unfold allO; rw [if_neg (fun h => hrp h.2)])
      have HPX := Lib.hid (show [(([], 1) : List Edg × Int)] <+: allO D m l by rw [HALL.out]; exact List.prefix_refl _)
      gi_wp2_with fail
      refine ⟨trivial, (NR.out _ HR1.out false ⟨fun h => (by cases h), fun h => absurd h hrp⟩).mono ?_⟩
      rintro o W2 ⟨rfl, b2⟩
      have HJ2 := Lib.hid (HJ.out.abide.new _ _ _ HJ1.out b2); have HS2 := Lib.hid (Nat.le_trans HS1.out b2.size)
      clear y0 b2 HJ1 HS1 HM1 HL1 HR1 HK1
      have Y := HY.out [] ([], 1) #[.slice none 0 0, .int .i64 1] W2 HJ2.out HS2.out HPX.out ⟨_, rfl, edgs_nil _ _⟩
      obtain ⟨fn, tmps, assign, body, hy, hR⟩ := Y
      gi_wp2_with fail
      refine hR.mono ?_
      rintro o W3 (⟨rfl, hJ5, _, _⟩ | ⟨rfl, hJx5, _⟩)
      · have HJ5 := Lib.hid hJ5
        clear hJ5 hy hR
        gi_wp2
        refine bodyPost_ret (results_none rfl _ _ _) rfl ?_
        exact ⟨⟨_, rfl⟩, .inl (by rw [HALL.out]; exact HJ5.out)⟩
      · have HJ5 := Lib.hid hJx5
        clear hJx5 hy hR
        gi_wp2
        refine bodyPost_ret (results_none rfl _ _ _) rfl ?_
        exact ⟨⟨_, rfl⟩, .inr ⟨[([], 1)], HPX.out, HJ5.out⟩⟩
    case pos =>
      gi_wp2_with fail
      refine ⟨trivial, (NR.out _ HR1.out true ⟨fun _ => hrp, fun _ => rfl⟩).mono ?_⟩
      rintro o W2 ⟨rfl, b2⟩
      have HJ2 := Lib.hid (HJ.out.abide.new _ _ _ HJ1.out b2); have HS2 := Lib.hid (Nat.le_trans HS1.out b2.size)
      have HM2 := Lib.hid (HM1.out.next b2); have HL2 := Lib.hid (HL1.out.next b2); have HK2 := Lib.hid (HK1.out.next b2 HP.out)
      have hall : [] ++ strO D m Pen.zero (l.drop 0) = allO D m l := by rw [List.drop_zero]; unfold allO; rw [if_pos ⟨hmr, hrp⟩]; rfl
      have HALL := Lib.hid hall
      clear y0 b2 HJ1 HS1 HM1 HL1 HR1 HK1 NR hall
      have x0 : W2.cell? ⟨bm, 0, none⟩ = some (.int .i64 ma) := HM2.out.c 0 rfl
      have x1 : W2.cell? ⟨bm, 1, none⟩ = some (.int .i64 mb) := HM2.out.c 1 rfl
      have x2 : W2.cell? ⟨bm, 2, none⟩ = some (.int .i64 mc) := HM2.out.c 2 rfl
      have x3 : W2.cell? ⟨bm, 3, none⟩ = some (.int .i64 md) := HM2.out.c 3 rfl
      have x4 : W2.cell? ⟨bm, 4, none⟩ = some (.int .i64 me) := HM2.out.c 4 rfl
      have x5 : W2.cell? ⟨bm, 5, none⟩ = some (.int .i64 mf) := HM2.out.c 5 rfl
      have k1 : PenB W2.heap.size m Pen.zero (W2.alloc (.cells #[.int .i64 ma, .int .i64 mb, .int .i64 mc, .int .i64 md, .int .i64 me, .int .i64 mf, .int .i64 0, .int .i64 0, .int .i64 0, .int .i64 0, .bool false] 74)) := by rw [hM]; exact CBox.new W2 _ _
      have k2 := (Below.refl W2.heap.size W2).alloc (Nat.le_refl _) (.cells #[.int .i64 ma, .int .i64 mb, .int .i64 mc, .int .i64 md, .int .i64 me, .int .i64 mf, .int .i64 0, .int .i64 0, .int .i64 0, .int .i64 0, .bool false] 74)
      have HP3 := Lib.hid k1; have HJ3 := Lib.hid (HJ.out.abide.new _ _ _ HJ2.out k2); have HS3 := Lib.hid (Nat.le_trans HS2.out k2.size); have HK3 := Lib.hid (HK2.out.next k2 HP.out)
      have HL3 := Lib.hid (HL2.out.next k2)
      have y0 : (W2.alloc (.cells #[.int .i64 ma, .int .i64 mb, .int .i64 mc, .int .i64 md, .int .i64 me, .int .i64 mf, .int .i64 0, .int .i64 0, .int .i64 0, .int .i64 0, .bool false] 74)).cell? ⟨bl, 0, none⟩ = some (.slice a l.length cap) := HL3.out.c 0 rfl
      clear k1 k2 HJ2 HM2 HL2 HK2
      gi_wp2_with fail
      clear x0 x1 x2 x3 x4 x5 y0
      generalize (W2.alloc (.cells #[.int .i64 ma, .int .i64 mb, .int .i64 mc, .int .i64 md, .int .i64 me, .int .i64 mf, .int .i64 0, .int .i64 0, .int .i64 0, .int .i64 0, .bool false] 74)) = W3 at *
      obtain ⟨q, hq⟩ : ∃ q, W2.heap.size = q := ⟨_, rfl⟩
      have HWQ := Lib.hid (show W.heap.size ≤ q by have := HS2.out; omega)
      have HW0 := Lib.hid (show w0.heap.size ≤ q by have := HKeep.out.1; have := HS2.out; omega)
      rw [hq] at HP3 ⊢
      clear hq HS2 HL3
      have FI2 := Lib.hid (FI.out q); have DR2 := Lib.hid (DR.out q)
      clear FI DR HKeep
      gi_loopw [21] (fun v wr => StrInv D m l q Pr w0 W.heap.size J v wr) (fun v _ => ((l.length : Int) - intN v).toNat)
      case atStart => exact ⟨0, Nat.zero_le _, rfl, [], Pen.zero, HP3.out, penIn_zero, HJ3.out, HALL.out, HK3.out, HS3.out⟩
      case round =>
        obtain ⟨i, hi, rfl, pre, s, hp, hpi, hj, hpre, hk, hsz⟩ := hrel
        clear HP3 HJ3 HALL HK3 HS3
        by_cases hc : i < l.length
        · have d1 : decide ((i : Int) < (l.length : Int)) = true := decide_eq_true (by omega)
          have hmem := mem_seg hc
          have HAL := Lib.hid (rightP_all hrp _ hmem); have HKD := Lib.hid (HKd.out _ hmem)
          obtain ⟨b, off, ha, hb, hseg⟩ := seg_at (HPA.out wr hk).2 hc
          subst ha
          rw [drop_seg hc, strO] at hpre
          generalize l.getD i zeroS = g at *
          have HPX := Lib.hid (show pre ++ [D s g] <+: allO D m l by rw [← hpre]; exact ⟨strO D m (stepO s g) (l.drop (i + 1)), by simp⟩)
          have HPN := Lib.hid (show (pre ++ [D s g]) ++ strO D m (stepO s g) (l.drop (i + 1)) = allO D m l by rw [← hpre]; simp)
          clear hpre hmem
          have hi0 : (0 : Int) ≤ (i : Int) := by omega
          have hi1 : (i : Int) < (l.length : Int) := by omega
          have DRg := Lib.hid (fun w h => DR2.out s g w hpi HAL.out HKD.out h)
          have HNX := Lib.hid (penIn_step hpi HAL.out.2.2.2.1)
          unfold StrP at DRg
          obtain ⟨st, hst⟩ : ∃ st, stepO s g = st := ⟨_, rfl⟩
          rw [hst] at DRg HNX HPN
          obtain ⟨r, hr⟩ : ∃ r, D s g = r := ⟨_, rfl⟩
          rw [hr] at DRg HPX HPN
          clear hst hr HAL HKD
          obtain ⟨kd, tx, ty, ax, ay, cx, cy, rx, ry, tn, lg, sw⟩ := g
          obtain ⟨c0, c1, c2, c3, c4, c5, c6, c7, c8, c9, c10, c11⟩ := hseg
          unfold Seg.arr at DRg
          dsimp only at *
          have k1 := CBox.new wr 51 #[.int .i64 kd, .int .i64 tx, .int .i64 ty, .int .i64 ax, .int .i64 ay, .int .i64 cx, .int .i64 cy, .int .i64 rx, .int .i64 ry, .int .i64 tn, .bool lg, .bool sw]
          have k2 := (Below.refl wr.heap.size wr).alloc (Nat.le_refl _) (.cells #[.int .i64 kd, .int .i64 tx, .int .i64 ty, .int .i64 ax, .int .i64 ay, .int .i64 cx, .int .i64 cy, .int .i64 rx, .int .i64 ry, .int .i64 tn, .bool lg, .bool sw] 51)
          have HG4 := Lib.hid k1; have HP4 := Lib.hid (show PenB q m s _ from CBox.next hp k2); have HJ4 := Lib.hid (HJ.out.abide.new _ _ _ hj k2); have HK4 := Lib.hid (hk.next k2 HP.out); have HS4 := Lib.hid (Nat.le_trans hsz k2.size)
          clear k1 k2 hp hj hk
          have z0 := HG4.out.c 0 rfl; have z1 := HG4.out.c 1 rfl; have z2 := HG4.out.c 2 rfl; have z3 := HG4.out.c 3 rfl; have z4 := HG4.out.c 4 rfl; have z5 := HG4.out.c 5 rfl; have z6 := HG4.out.c 6 rfl; have z7 := HG4.out.c 7 rfl; have z8 := HG4.out.c 8 rfl; have z9 := HG4.out.c 9 rfl; have z10 := HG4.out.c 10 rfl; have z11 := HG4.out.c 11 rfl
          gi_wp2_with fail
          refine ⟨trivial, (DRg.out _ HP4.out).mono ?_⟩
          clear c0 c1 c2 c3 c4 c5 c6 c7 c8 c9 c10 c11 z0 z1 z2 z3 z4 z5 z6 z7 z8 z9 z10 z11
          generalize (wr.alloc (.cells #[.int .i64 kd, .int .i64 tx, .int .i64 ty, .int .i64 ax, .int .i64 ay, .int .i64 cx, .int .i64 cy, .int .i64 rx, .int .i64 ry, .int .i64 tn, .bool lg, .bool sw] 51)) = w4 at *
          rintro o w5 ⟨v, rfl, hv, hp5, hb5⟩
          obtain ⟨av, cv, rfl, _⟩ := Lay8.own.shape hv
          have HV5 := Lib.hid (Lay8.own.low hv HS4.out); have HP5 := Lib.hid hp5; have HJ5 := Lib.hid (HJ.out.pen HJ4.out HWQ.out HP4.out hb5); have HK5 := Lib.hid (HK4.out.but hb5 HP.out HW0.out); have HS5 := Lib.hid (Nat.le_trans HS4.out hb5.size)
          clear hv hp5 hb5 HP4 HJ4 HK4 HS4 HG4
          obtain ⟨fn, tmps, assign, body, hy, hR⟩ := HY.out pre r #[.slice av r.1.length cv, .int .i64 r.2] w5 HJ5.out HS5.out HPX.out ⟨_, rfl, HV5.out⟩
          gi_wp2_with fail
          refine hR.mono ?_
          rintro o W6 (⟨rfl, hJ6, hk6, _⟩ | ⟨rfl, hJx6, _⟩)
          · have HP6 := Lib.hid (HP5.out.keeps hk6 HWQ.out); have HJ6 := Lib.hid hJ6; have HK6 := Lib.hid (HK5.out.keeps hk6); have HS6 := Lib.hid (Nat.le_trans HS5.out hk6.size)
            clear hJ6 hk6 hy hR
            gi_wp2_with fail
            go_roundw
            case rel => exact ⟨i + 1, hc, by push_cast; rfl, _, st, HP6.out, HNX.out, HJ6.out, HPN.out, HK6.out, HS6.out⟩
            case measure => simp only [intN]; omega
          · have HJ6 := Lib.hid hJx6
            clear hJx6 hy hR
            gi_wp2
            refine bodyPost_ret (results_none rfl _ _ _) rfl ?_
            exact ⟨⟨_, rfl⟩, .inr ⟨_, HPX.out, HJ6.out⟩⟩
        · have d1 : decide ((i : Int) < (l.length : Int)) = false := decide_eq_false (by omega)
          obtain rfl : i = l.length := by omega
          rw [List.drop_length, strO] at hpre
          have HPX := Lib.hid (show pre ++ [finO m s] <+: allO D m l by rw [← hpre]; exact List.prefix_refl _)
          have HPE := Lib.hid hpre
          have FIs := Lib.hid (FI2.out s wr hpi hp)
          unfold StrP at FIs
          generalize finO m s = r at *
          have HP4 := Lib.hid hp; have HJ4 := Lib.hid hj; have HS4 := Lib.hid hsz
          clear hpre hp hj hk hsz
          gi_wp2_with fail
          refine ⟨trivial, FIs.out.mono ?_⟩
          rintro o w5 ⟨v, rfl, hv, hp5, hb5⟩
          obtain ⟨av, cv, rfl, _⟩ := Lay8.own.shape hv
          have HV5 := Lib.hid (Lay8.own.low hv HS4.out); have HJ5 := Lib.hid (HJ.out.pen HJ4.out HWQ.out HP4.out hb5); have HS5 := Lib.hid (Nat.le_trans HS4.out hb5.size)
          clear hv hp5 hb5 HP4 HJ4 HS4
          obtain ⟨fn, tmps, assign, body, hy, hR⟩ := HY.out pre r #[.slice av r.1.length cv, .int .i64 r.2] w5 HJ5.out HS5.out HPX.out ⟨_, rfl, HV5.out⟩
          gi_wp2_with fail
          refine hR.mono ?_
          rintro o W6 (⟨rfl, hJ6, _, _⟩ | ⟨rfl, hJx6, _⟩)
          · have HJ6 := Lib.hid hJ6
            clear hJ6 hy hR
            gi_wp2_with fail
            go_end0
            exact ⟨⟨_, rfl⟩, .inl (by rw [← HPE.out]; exact HJ6.out)⟩
          · have HJ6 := Lib.hid hJx6
            clear hJx6 hy hR
            gi_wp2_with fail
            go_end0
            exact ⟨⟨_, rfl⟩, .inr ⟨_, HPX.out, HJ6.out⟩⟩
/-- The blocks that the loop's body leaves alone: those that the segments may lie in, and the iterator's two captured ones. -/
def PrS (B bm bl k : Nat) : Prop := k < B ∨ k = bm ∨ k = bl
set_option maxRecDepth 100000 in
set_option maxHeartbeats 4000000 in
theorem strokes_any (D : Pen → Seg → List Edg × Int) (m : Mtx) (hm : MI64 m) (Kd : Seg → Prop) (DK : DrawOk m D Kd) (a : Option Addr) (l : List Seg) (cap : Nat) (hl : l.length ≤ 1000) (hS : ∀ g ∈ l, SegI g) (hK : ∀ g ∈ l, Kd g) (B : Nat) (w : World) (hB : B ≤ w.heap.size) (ha : l ≠ [] → ∀ b off, a = some ⟨b, off, none⟩ → b < B) (hr : RdS a l w) :
    Calls Tryz.prog 16 #[m.val, .slice a l.length cap] w fun e w' => ∃ bm bl, e = .returned (.func (.func 24) #[] #[.pointer (some ⟨bm, 0, none⟩), .pointer (some ⟨bl, 0, none⟩)]) ∧ Below w.heap.size w w' ∧ (w.heap.size ≤ bm ∧ bl = bm + 1) ∧ CBox bm 23 m.cells w' ∧ CBox bl 24 #[.slice a l.length cap] w' ∧
      FeedsV Tryz.prog T13 (PrS B bm bl) encS (allO D m l) Fence.wide 6 24 #[.pointer (some ⟨bm, 0, none⟩), .pointer (some ⟨bl, 0, none⟩)] w' := by
  have hmf : ∀ (fn : Fn) (first cap : Array Value) (w : World), (Instr.makeFunc fn first cap).run Tryz.prog w = .ok (.func fn first cap) w := fun _ _ _ _ => rfl
  obtain ⟨k1, k2, k3⟩ := boxes_two w m.cells #[.slice a l.length cap] 23 24
  have hF := strokes_feed D m hm Kd DK a l cap hl hS hK _ _ _ k1 k2 (hr.next k3) (PrS B w.heap.size (w.heap.size + 1)) (.inr (.inl rfl)) (.inr (.inr rfl)) (fun z b off e => .inl (ha z b off e)) (by
    intro k hk
    have := k2.lt
    rcases hk with hk | hk | hk <;> omega)
  have H1 := Lib.hid k1; have H2 := Lib.hid k2; have H3 := Lib.hid k3; have HF := Lib.hid hF
  clear k1 k2 k3 hF DK hr ha hK hS hm
  generalize allO D m l = RES at *
  obtain ⟨ma, mb, mc, md, me, mf⟩ := m
  unfold Mtx.val
  unfold Mtx.cells at *
  dsimp only at *
  go_enter Tryz.func16, Tryz.ntmps16
  go_wp2_with fail
  go_ret
  exact ⟨_, _, rfl, H3.out, ⟨Nat.le_refl _, rfl⟩, H1.out, H2.out, HF.out⟩
end Go.Proofs.YtbjabclgekkpaaaGreatDoor
namespace Go.Proofs.YtbjabclgekkpaaaGreatDoor
open Go.RowKit Go.Shelf
theorem grown_refl (w : World) (row : Option Nat) : w.grownBy w row := ⟨rfl, rfl, rfl, Nat.le_refl _, fun _ _ _ => rfl⟩
theorem edg_cat_in {F : Fence} {N : Nat} {ops : Array Oper} {rest : List Oper} {o : Oper} {a : Act} {Q : Exit → Act → World → Prop} (w : World) (hgd : o.guard = none) (s x : Operand)
    (ho : o.op = .call { callee := .builtin .append, args := #[s, x], argTypes := #[27, 27] }) {B R : Nat} {v u : Value} {l M : List Edg} (hown : edgL.own B v l w) (hs : a.eval s = v) (hu : edgL.own R u M w) (hx : a.eval x = u) (hk : l.length + M.length ≤ 100000000) (hB : B ≤ w.heap.size)
    (h : ∀ v' w', edgL.own B v' (l ++ M) w' → w.grownBy w' v.ownBlock → wpListIn F N Tryz.prog ops Q rest (a.put o.dst v') w') :
    wpListIn F N Tryz.prog ops Q (o :: rest) a w := by
  obtain ⟨i0, hi, hz0, hz1, hz2⟩ := info_parts info_edg
  rcases hu.2 with ⟨rfl, h0⟩ | ⟨g, cap, cur, rfl, _⟩
  · obtain rfl : M = [] := List.length_eq_zero_iff.1 h0
    obtain ⟨aa, cap, rfl, hle⟩ := hown.shape
    rw [List.append_nil] at h
    refine wpListIn_plain hgd fun K hK' => ?_
    have hrun : (Builtin.append_ #[27, 27] o.type #[.slice aa l.length cap, .slice none 0 0]).run Tryz.prog w = .ok (.slice aa l.length cap) w :=
      run_append_nothing w _ _ o.type 42 i0 Tryz.underlying27 hi _ _ _ hle _ (Src.ofNil _ Tryz.underlying27 _)
    unfold Oper.wpIn
    refine ⟨?_, ?_⟩
    · simp [Oper.about, ho, resolve, Target.leads, Sem.run_pure]
    · rw [Oper.semAt_plain F _ _ (by rw [ho]; intro c hc'; cases hc')]
      simp [execOp, ho, resolve, invoke, builtin, hs, hx, hrun, Result.andThen]
      exact hK' _ _ (h _ _ hown (grown_refl w _))
  · have hc := fun j u' hj => hu.cell (j := j) (u := u') hj
    refine wpListIn_append_own _ hgd s x 27 ho B 42 i0 _ 4 32 Tryz.underlying27 hi hz0 hz1 hz2 rfl (by decide) v l.length (edgL.flat l) hs hown ⟨g, 0, none⟩ M.length cap (edgL.flat M) hx (edgL.flat_len M) ?_ (edgL.flat_one M) (by unfold maxLen; omega) (by omega) hB ?_
    · intro j u' hj
      have hadd : ∀ off, (⟨g, off, none⟩ : Addr).add j = ⟨g, off + j, none⟩ := fun off => by simp [Addr.add]
      rw [hadd, Nat.zero_add]
      exact hc j u' hj
    · intro v' w' hown' hg _
      refine h v' w' ?_ hg
      unfold Lay8.own; rw [edgL.flat_append, List.length_append]; exact hown'
end Go.Proofs.YtbjabclgekkpaaaGreatDoor
namespace Go.Proofs.YtbjabclgekkpaaaGreatDoor
open Go.RowKit Go.Shelf
theorem Lay8.own.not_box {α : Type} {L : Lay8 α} {W : World} {R n : Nat} {t : TypeId} {cs : Array Value} {v : Value} {l : List α} (hr : L.own R v l W) (h : CBox n t cs W) (ht : t ≠ L.e) : some n ≠ v.ownBlock := by
  intro hq
  obtain ⟨_, _, cur, hc⟩ := hr.type n hq.symm
  unfold CBox at h
  rw [h] at hc
  injection hc with hc
  injection hc with _ hc _
  exact ht hc
/-- What a round has left that appends to the row in box n. -/
structure RowStep {α : Type} (L : Lay8 α) (T : TypeId → Prop) (a b D n R : Nat) (t : TypeId) (v' : Value) (l : List α) (X Y : World) : Prop where
  others : KeepsOthers X Y
  keeps : KeepsT T a b D X Y
  box : CBox n t #[v'] Y
  row : L.own R v' l Y
  size : X.heap.size ≤ Y.heap.size
  boxes : ∀ n' t' cs', CBox n' t' cs' X → n' ≠ n → t' ≠ L.e → CBox n' t' cs' Y
  below : ∀ B w, Below B w X → B ≤ n → B ≤ R → B ≤ X.heap.size → Below B w Y
theorem rowbox_step {α : Type} {L : Lay8 α} {T : TypeId → Prop} {a b D n R : Nat} {t : TypeId} {v v' : Value} {l m : List α} {X w1 : World} (hv : CBox n t #[v] X) (hrow : L.own R v l X) (hown : L.own R v' m w1) (hg : X.grownBy w1 v.ownBlock) (ht : t ≠ L.e) (hT : ¬ T L.e)
    (hn : n < D) (hR : D ≤ R) (hb : b ≤ D) (hna : n < a ∨ b ≤ n) (hD : D ≤ X.heap.size) : RowStep L T a b D n R t v' m X (w1.setCell ⟨n, 0, none⟩ v') := by
  have hne := hrow.not_box hv ht
  have hv1 := hv.grown hg hne
  have hne' := hown.not_box hv1 ht
  have hblk : ∀ k, k < X.heap.size → k ≠ n → some k ≠ v.ownBlock → (w1.setCell ⟨n, 0, none⟩ v').heap[k]? = X.heap[k]? := fun k hk h1 h2 =>
    (Below.heap_setCell _ _ _ _ (by exact h1)).trans (hg.block k hk h2)
  have hsz : X.heap.size ≤ (w1.setCell ⟨n, 0, none⟩ v').heap.size := by have := hg.size; simp [World.setCell]; omega
  have hq : ∀ k, v.ownBlock = some k → R ≤ k ∧ ∃ cur, X.heap[k]? = some (.cells cur L.e (0, 0)) := fun k e => (hrow.type k e).2
  refine ⟨⟨hsz, fun k o ho hc => ?_⟩, ⟨⟨hsz, fun k h1 h2 => ?_⟩, fun k t' cs z hk ht' hc => ?_⟩, ?_, ?_, hsz, fun n' t' cs' h h1 h2 => ?_, fun B w h h1 h2 h3 => ?_⟩
  · refine (hblk k (Array.getElem?_eq_some_iff.1 ho).1 (fun e => ?_) (fun e => ?_)).trans ho
    · subst e
      unfold CBox at hv
      rw [hv] at ho
      cases ho
      cases hc
    · obtain ⟨_, cur, hcur⟩ := hq k e.symm
      rw [hcur] at ho
      cases ho
      cases hc
  · exact hblk k (by omega) (by omega) (fun e => by have := (hq k e.symm).1; omega)
  · refine (hblk k (Array.getElem?_eq_some_iff.1 hc).1 (by omega) (fun e => ?_)).trans hc
    obtain ⟨_, cur, hcur⟩ := hq k e.symm
    rw [hcur] at hc
    injection hc with hc
    injection hc with _ hc _
    exact hT (hc ▸ ht')
  · exact hv1.set 0 v' (show (0 : Nat) < 1 by decide)
  · exact hown.stay fun q hqq => Below.heap_setCell _ _ _ _ (fun e => hne' (by have e' : q = n := e; rw [← e']; exact hqq.symm))
  · have hnn : some n' ≠ v.ownBlock := hrow.not_box h h2
    exact (h.grown hg hnn).other h1 0 v'
  · exact Below.setCell (h.grown hg h3 fun k e => Nat.le_trans h2 (hq k e).1) (by exact h1) _
end Go.Proofs.YtbjabclgekkpaaaGreatDoor
namespace Go.Proofs.YtbjabclgekkpaaaGreatDoor
open Go.RowKit Go.Shelf
attribute [local go_sem] Oper.semAt_some
set_option linter.unusedSimpArgs false
theorem FeedsV.wideAny {β : Type} {P : Program} {T : TypeId → Prop} {Pr : Nat → Prop} {m n : Nat} {Enc : Nat → β → Array Value → World → Prop} {RES : List β} {gf : Nat} {lb : Array Value} {w0 : World} (h : FeedsV P T Pr Enc RES Fence.wide m gf lb w0) : FeedsV P T Pr Enc RES Fence.wide n gf lb w0 := by
  intro l J Jx W hm hj hjx hy h0
  refine (callsIn_wide (n := n)).2 ((callsIn_wide (n := m)).1 (h l J Jx W hm hj hjx (fun pre x args W1 h1 h2 h3 h4 => ?_) h0))
  obtain ⟨fn, tmps, assign, body, hr, hR⟩ := hy pre x args W1 h1 h2 h3 h4
  exact ⟨fn, tmps, assign, body, hr, RoundIn.wideAny hR⟩
theorem enters13 : ∀ (args : Array Value) (W : World), (callFunc 24 args).run Tryz.prog W = .ok (.enter 24 args) W := enters_of Tryz.func24 (by kernel_rfl) rfl
theorem keepsV_refl (T : TypeId → Prop) (Pr : Nat → Prop) (D : Nat) (X : World) : KeepsV T Pr D X X := ⟨Nat.le_refl _, fun _ _ => rfl, fun _ _ _ _ _ _ h => h⟩
theorem keepsF_refl (D : Nat) (X : World) : KeepsFrom D X X := ⟨Nat.le_refl _, fun _ _ _ h _ => h⟩
theorem keepsF_set {D n o : Nat} {X Y : World} {v : Value} (h : KeepsFrom D X Y) (hn : n < D) : KeepsFrom D X (Y.setCell ⟨n, o, none⟩ v) :=
  ⟨by have := h.1; simpa [World.setCell] using this, fun k ob hk ho hc => (Below.heap_setCell _ _ _ _ (by exact fun e => by have e' : k = n := e; omega)).trans (h.2 k ob hk ho hc)⟩
/-- The results' boxes of Edges behind a loop. -/
theorem edges_ret {F : Fence} {n : Nat} {f : Func} (hres : f.results = #[ResultVar.cell 4 27, ResultVar.cell 5 28]) {q1 q2 D R : Nat} {w wr : World} {v : Value} {r : List Edg × Int} {ts : Array Value}
    (h1 : CBox q1 27 #[v] wr) (h2 : CBox q2 28 #[.int .i64 r.2] wr) (hv : edgL.own R v r.1 wr) (hR : w.heap.size ≤ R) (hb : Below w.heap.size w wr) (t4 : ts[4]? = some (.pointer (some ⟨q1, 0, none⟩))) (t5 : ts[5]? = some (.pointer (some ⟨q2, 0, none⟩))) (hK : wr.heap[D]? = some (.deferred (some []))) (hD : w.heap.size ≤ D) :
    bodyPostM F n Tryz.prog f (fun e w' => ∃ v, e = .returned (.tuple #[v, .int .i64 r.2]) ∧ Edgs w.heap.size v r.1 w' ∧ Below w.heap.size w w') .ret { tmps := ts, defers := [{ target := .collected D, args := #[] }] } wr := by
  have hne : ∀ q t cs, CBox q t cs wr → q ≠ D := by
    rintro q t cs h rfl
    unfold CBox at h
    rw [h] at hK
    cases hK
  have k1 : CBox q1 27 #[v] (wr.putObj D (.deferred none)) := (World.putObj_heap_other (hne _ _ _ h1)).trans h1
  have k2 : CBox q2 28 #[.int .i64 r.2] (wr.putObj D (.deferred none)) := (World.putObj_heap_other (hne _ _ _ h2)).trans h2
  have c1 := k1.c 0 rfl
  have c2 := k2.c 0 rfl
  have kb : Below w.heap.size w (wr.putObj D (.deferred none)) := hb.grown (grownBy_putObj' wr D _) hb.size fun k e => by cases e; exact hD
  have kv : edgL.own w.heap.size v r.1 (wr.putObj D (.deferred none)) := (hv.stay fun q hq => World.putObj_heap_other fun e => by
    obtain ⟨cur, hc⟩ := (hv.type q hq).2.2
    rw [e, hK] at hc
    cases hc).low hR
  refine ⟨by simp, .inl ⟨_, _, rfl, run_takeDeferred hK, ?_⟩⟩
  exact ⟨.tuple #[v, .int .i64 r.2], by simp [results, hres, go_sem, c1, c2, t4, t5], v, rfl, kv, kb⟩
set_option maxRecDepth 100000 in
set_option maxHeartbeats 8000000 in
theorem edges_any (D : Pen → Seg → List Edg × Int) (m : Mtx) (hm : MI64 m) (Kd : Seg → Prop) (DK : DrawOk m D Kd) (a : Option Addr) (l : List Seg) (cap : Nat) (hl : l.length ≤ 1000) (hS : ∀ g ∈ l, SegI g) (hK : ∀ g ∈ l, Kd g) (hN : ∀ x ∈ allO D m l, x.1.length ≤ 40960) (w : World) (hr : RdS a l w) :
    Calls Tryz.prog 9 #[m.val, .slice a l.length cap] w fun e w' => ∃ v, e = .returned (.tuple #[v, .int .i64 (outO D m l).2]) ∧ Edgs w.heap.size v (outO D m l).1 w' ∧ Below w.heap.size w w' := by
  refine (callsIn_wide (n := 6)).1 ?_
  have ha : l ≠ [] → ∀ b off, a = some ⟨b, off, none⟩ → b < w.heap.size := fun z b off e => by
    rcases hr with h | ⟨b', off', h1, h2, _⟩
    · exact absurd h z
    · rw [e] at h1; cases h1; exact h2
  have ST := Lib.hid (fun w' (b : Below w.heap.size w w') => strokes_any D m hm Kd DK a l cap hl hS hK w.heap.size w' b.size ha (hr.next b))
  have hlen : (allO D m l).length ≤ 1001 := by
    unfold allO
    split
    · rw [strO_length]; omega
    · simp
  clear DK hK hS hm ha hr
  unfold outO
  generalize allO D m l = RES at *
  obtain ⟨r, hr⟩ : ∃ r, joinO [] RES = r := ⟨_, rfl⟩
  rw [hr]
  have HR0 := Lib.hid hr
  clear hr
  have HN := Lib.hid hN
  clear hN
  obtain ⟨ma, mb, mc, md, me, mf⟩ := m
  unfold Mtx.val at *
  unfold Mtx.cells at *
  dsimp only at *
  obtain ⟨k1, k2, k3, k4, k5⟩ := boxes_four w #[.int .i64 ma, .int .i64 mb, .int .i64 mc, .int .i64 md, .int .i64 me, .int .i64 mf] #[.slice none 0 0] #[.int .i64 0] #[.slice none 0 0] 23 27 28 27
  have HM0 := Lib.hid k1; have HA0 := Lib.hid k2; have HE0 := Lib.hid k3; have HT0 := Lib.hid k4; have HB0 := Lib.hid k5
  clear k1 k2 k3 k4 k5
  refine callsIn_of_wp_marks Tryz.func9 rfl trivial ?_ rfl
  simp only [Tryz.ntmps9, List.size_toArray, List.length_cons, List.length_nil, Nat.reduceAdd, Nat.reduceSub, Array.replicate_succ, Array.replicate_zero, List.push_toArray, List.append_toArray, List.nil_append, List.cons_append]
  refine wpIn_wide.2 ?_
  go_upto_region 2 with fail
  generalize ((((w.alloc (.cells #[.int .i64 ma, .int .i64 mb, .int .i64 mc, .int .i64 md, .int .i64 me, .int .i64 mf] 23)).alloc (.cells #[.slice none 0 0] 27)).alloc (.cells #[.int .i64 0] 28)).alloc (.cells #[.slice none 0 0] 27)) = w1 at *
  have x0 : w1.cell? ⟨w.heap.size, 0, none⟩ = some (.int .i64 ma) := HM0.out.c 0 rfl
  have x1 : w1.cell? ⟨w.heap.size, 1, none⟩ = some (.int .i64 mb) := HM0.out.c 1 rfl
  have x2 : w1.cell? ⟨w.heap.size, 2, none⟩ = some (.int .i64 mc) := HM0.out.c 2 rfl
  have x3 : w1.cell? ⟨w.heap.size, 3, none⟩ = some (.int .i64 md) := HM0.out.c 3 rfl
  have x4 : w1.cell? ⟨w.heap.size, 4, none⟩ = some (.int .i64 me) := HM0.out.c 4 rfl
  have x5 : w1.cell? ⟨w.heap.size, 5, none⟩ = some (.int .i64 mf) := HM0.out.c 5 rfl
  go_wp2_with fail
  refine (ST.out _ HB0.out).mono ?_
  clear x0 x1 x2 x3 x4 x5
  rintro o W0 ⟨bm, bl, rfl, b2, ⟨hbm, rfl⟩, cm, cl, hfe⟩
  have HT := Lib.hid (HT0.out.next b2); have HA := Lib.hid (HA0.out.next b2); have HE := Lib.hid (HE0.out.next b2); have HB := Lib.hid (HB0.out.trans (b2.mono HB0.out.size))
  have hfe5 := FeedsV.wideAny (n := 5) hfe
  have l3 : w.heap.size + 1 + 1 + 1 < W0.heap.size := HT.out.lt
  have lbm := CBox.lt cm; have lbl := CBox.lt cl
  have l1 : w.heap.size + 1 + 1 + 1 < w1.heap.size := HT0.out.lt
  have HCM := Lib.hid cm; have HCL := Lib.hid cl
  clear hfe ST b2 HM0 HA0 HE0 HT0 HB0 cm cl
  go_wp2
  refine (wpIn_wide (n := 6)).1 ?_
  have AB : AbideO T13 W0.heap.size (fun (pre : List (List Edg × Int)) X => (∃ v, CBox (w.heap.size + 1 + 1 + 1) 27 #[v] X ∧ edgL.own W0.heap.size v (catO pre) X) ∧ (CBox (w.heap.size + 1) 27 #[.slice none 0 0] X ∧ CBox (w.heap.size + 1 + 1) 28 #[.int .i64 0] X) ∧ (Below w.heap.size w X ∧ W0.heap.size ≤ X.heap.size) ∧ cleanO pre) :=
    (abideO_rowbox (by unfold T13; decide) (by omega) catO).and (((abideO_box (by omega)).and (abideO_box (by omega))).and ((abideO_below (by omega)).and (abideO_pre cleanO)))
  have HAB := Lib.hid AB
  have ABX : ∀ c : Code, AbideO T13 W0.heap.size (fun (pre : List (List Edg × Int)) X => c = .ret ∧ ∃ z, (z ≠ 0 ∧ ∃ p L, pre = p ++ [(L, z)] ∧ cleanO p) ∧ (CBox (w.heap.size + 1) 27 #[.slice none 0 0] X ∧ (CBox (w.heap.size + 1 + 1) 28 #[.int .i64 z] X ∧ (Below w.heap.size w X ∧ W0.heap.size ≤ X.heap.size)))) := fun c =>
    (AbideO.some fun z => ((abideO_pre (fun pre => z ≠ 0 ∧ ∃ p L, pre = p ++ [(L, z)] ∧ cleanO p)).and ((abideO_box (by omega)).and ((abideO_box (by omega)).and (abideO_below (by omega)))))).pure (c = .ret)
  have hle : ∀ pre, pre <+: RES → (catO pre).length ≤ 41000960 ∧ ∀ x ∈ pre, x.1.length ≤ 40960 := fun pre hp => by
    have h1 : ∀ x ∈ pre, x.1.length ≤ 40960 := fun x hx => HN.out x (hp.subset hx)
    have h2 := catO_len h1
    have h3 := hp.length_le
    have h4 : pre.length * 40960 ≤ 1001 * 40960 := Nat.mul_le_mul_right _ (by omega)
    exact ⟨by omega, h1⟩
  have HLE := Lib.hid hle
  clear hle hlen HN
  refine wpIn_feedsV (T := T13) (Pr := PrS w.heap.size bm (bm + 1)) (Enc := encS) (RES := RES) rfl (by decide) (gf := 24) (lb := #[.pointer (some ⟨bm, 0, none⟩), .pointer (some ⟨bm + 1, 0, none⟩)]) rfl trivial enters13
    hfe5 (KeepP.refl _ _) (by intro k hk; rcases hk with hk | hk | hk <;> omega) (by rintro R x args W ⟨v, rfl, _⟩; rfl) (by rintro R R' x args W h ⟨v, rfl, hv⟩; exact ⟨v, rfl, Lay8.own.low hv h⟩)
    (fun (pre : List (List Edg × Int)) X => (∃ v, CBox (w.heap.size + 1 + 1 + 1) 27 #[v] X ∧ edgL.own W0.heap.size v (catO pre) X) ∧ (CBox (w.heap.size + 1) 27 #[.slice none 0 0] X ∧ CBox (w.heap.size + 1 + 1) 28 #[.int .i64 0] X) ∧ (Below w.heap.size w X ∧ W0.heap.size ≤ X.heap.size) ∧ cleanO pre) (fun c => (fun (pre : List (List Edg × Int)) X => c = .ret ∧ ∃ z, (z ≠ 0 ∧ ∃ p L, pre = p ++ [(L, z)] ∧ cleanO p) ∧ (CBox (w.heap.size + 1) 27 #[.slice none 0 0] X ∧ (CBox (w.heap.size + 1 + 1) 28 #[.int .i64 z] X ∧ (Below w.heap.size w X ∧ W0.heap.size ≤ X.heap.size))))) AB ABX ⟨⟨_, HT.out, Lay8.own_nil _ _⟩, ⟨HA.out, HE.out⟩, ⟨HB.out, Nat.le_refl _⟩, fun _ h => by cases h⟩
    (fun x a' X => ∃ u, edgL.own W0.heap.size u x.1 X ∧ a' = { tmps := #[.agg #[.int .i64 ma, .int .i64 mb, .int .i64 mc, .int .i64 md, .int .i64 me, .int .i64 mf], .slice a l.length cap, .pointer (some ⟨w.heap.size, 0, none⟩), undef, .pointer (some ⟨w.heap.size + 1, 0, none⟩), .pointer (some ⟨w.heap.size + 1 + 1, 0, none⟩), .pointer (some ⟨w.heap.size + 1 + 1 + 1, 0, none⟩), u, .int .i64 x.2, .agg #[.int .i64 ma, .int .i64 mb, .int .i64 mc, .int .i64 md, .int .i64 me, .int .i64 mf], .slice a l.length cap, .func (.func 24) #[] #[.pointer (some ⟨bm, 0, none⟩), .pointer (some ⟨bm + 1, 0, none⟩)], u, .int .i64 x.2, undef, undef, undef, undef, undef, undef, undef], defers := [] }) ?own ?assign ?body ?done ?stop
  case own =>
    rintro x a' _ X X' row ⟨u, h1, h3⟩ hg hr
    exact ⟨u, h1.free hg (fun r e => (hr r e).2), h3⟩
  case assign =>
    rintro l' pre x args X K hj hws hpx ⟨u, rfl, hu⟩ hK
    have HK := Lib.hid hK; have HJ := Lib.hid hj; have HU := Lib.hid hu
    clear hK hj hu AB ABX
    gi_wp2
    exact HK.out _ _ (keepsF_refl _ _) (keepsV_refl _ _ _ _) HJ.out ⟨u, HU.out, rfl⟩
  case body =>
    rintro l' pre x a' X ⟨⟨v, hv, hrow⟩, ⟨h1, h2⟩, ⟨hbe, hsz⟩, hcl⟩ ⟨u, hu, rfl⟩ hws hpx
    have hc1 := (HLE.out pre ((List.prefix_append pre [x]).trans hpx)).1
    have hc2 := (HLE.out _ hpx).2 x (by simp)
    obtain ⟨L, e⟩ := x
    dsimp only at *
    have HV := Lib.hid hv; have HR := Lib.hid hrow; have HU := Lib.hid hu; have H1 := Lib.hid h1; have H2 := Lib.hid h2; have HBe := Lib.hid hbe; have HCl := Lib.hid hcl
    clear hv hrow hu h1 h2 hbe hcl AB ABX HAB hpx
    by_cases he : e = 0
    · subst he
      have hcat := Lib.hid (catO_snoc pre (L, 0))
      have hcln := Lib.hid (cleanO_snoc (x := (L, 0)) HCl.out rfl)
      generalize catO pre = cs at *
      obtain ⟨ra, rc, rfl, hrc⟩ := HR.out.shape
      have o0 : X.cell? ⟨w.heap.size + 1 + 1 + 1, 0, none⟩ = some (.slice ra cs.length rc) := HV.out.c 0 rfl
      have f0 := HV.out.z 0
      have hno3 := HR.out.not_box HV.out (by decide); have hno1 := HR.out.not_box H1.out (by decide); have hno2 := HR.out.not_box H2.out (by decide)
      gi_wp2_with (gi_at_builtin; refine edg_cat_in _ rfl (.tmp 17) (.tmp 18) rfl HR.out rfl HU.out rfl (by omega) hsz ?_; intro v' w2 hown' hg1; obtain ⟨a3, n3, c3, rfl⟩ : ∃ a n c, v' = .slice a n c := (by obtain ⟨a3, c3, h, _⟩ := hown'.shape; exact ⟨_, _, _, h⟩); have HV1 := HV.out.grown hg1 hno3; have c1 : w2.cell? ⟨w.heap.size + 1 + 1 + 1, 0, none⟩ = some (.slice ra cs.length rc) := HV1.c 0 rfl; have f1 := HV1.z 0; have STP := Lib.hid (rowbox_step (T := T13) (a := bm) (b := bm + 2) (D := W0.heap.size) HV.out HR.out hown' hg1 (by decide) (by unfold T13; decide) (by omega) (Nat.le_refl _) (by omega) (.inl (by omega)) hsz); clear HV1 hown' hg1)
      obtain ⟨q1, q2, q3, q4, q5, q6, q7⟩ := STP.out
      refine ⟨q1.from _, ⟨q5, fun k hk => ?_, q2.priv⟩, ⟨_, q3, by rw [hcat.out]; exact q4⟩, ⟨q6 _ _ _ H1.out (by omega) (by decide), q6 _ _ _ H2.out (by omega) (by decide)⟩, ⟨q7 _ _ HBe.out (by omega) (by omega) (by omega), Nat.le_trans hsz q5⟩, hcln.out⟩
      rcases hk with hk | hk | hk
      · exact (q7 _ _ (Below.refl w.heap.size X) (by omega) (by omega) (by omega)).block k hk
      · exact q2.mid.block k (by omega) (by omega)
      · exact q2.mid.block k (by omega) (by omega)
    · have o1 : X.cell? ⟨w.heap.size + 1, 0, none⟩ = some (.slice none 0 0) := H1.out.c 0 rfl
      have o2 : X.cell? ⟨w.heap.size + 1 + 1, 0, none⟩ = some (.int .i64 0) := H2.out.c 0 rfl
      have f1 := H1.out.z 0; have f2 := H2.out.z 0
      have n1 : ¬ w.heap.size + 1 = w.heap.size + 1 + 1 := by omega
      have n2 : ¬ w.heap.size + 1 + 1 = w.heap.size + 1 := by omega
      have d1 : (e != 0) = true := bne_iff_ne.2 he
      have HE0 := Lib.hid he
      clear he
      gi_wp2_with fail
      exact ⟨keepsF_set (keepsF_set (keepsF_refl _ _) (by omega)) (by omega), rfl, e, ⟨HE0.out, pre, L, rfl, HCl.out⟩, (H1.out.set 0 _ (show (0 : Nat) < 1 by decide)).other n1 0 _, (H2.out.other n2 0 _).set 0 _ (show (0 : Nat) < 1 by decide), Below.setCell (Below.setCell HBe.out (by exact Nat.le_succ _) _) (by show w.heap.size ≤ w.heap.size + 1 + 1; omega) _, by simpa [World.setCell] using hsz⟩
  case done =>
    rintro D X hD ⟨⟨v, hv, hrow⟩, ⟨h1, h2⟩, ⟨hbe, hsz⟩, hcl⟩ hK
    have hj := HR0.out.symm.trans (join_all hcl)
    subst hj
    have HV := Lib.hid hv; have HR := Lib.hid hrow; have H1 := Lib.hid h1; have H2 := Lib.hid h2; have HBe := Lib.hid hbe; have HKd := Lib.hid hK
    have hne1 : ¬ w.heap.size + 1 = D := by omega
    have hne2 : ¬ w.heap.size + 1 + 1 = D := by omega
    clear hv hrow h1 h2 hbe hcl hK AB ABX HAB HR0
    have o0 : X.cell? ⟨w.heap.size + 1 + 1 + 1, 0, none⟩ = some v := HV.out.c 0 rfl
    have o1 : X.cell? ⟨w.heap.size + 1, 0, none⟩ = some (.slice none 0 0) := H1.out.c 0 rfl
    have o2 : X.cell? ⟨w.heap.size + 1 + 1, 0, none⟩ = some (.int .i64 0) := H2.out.c 0 rfl
    have f1 := H1.out.z 0; have f2 := H2.out.z 0
    have n1 : ¬ w.heap.size + 1 = w.heap.size + 1 + 1 := by omega
    have n2 : ¬ w.heap.size + 1 + 1 = w.heap.size + 1 := by omega
    obtain ⟨ra, rc, rfl, hrc⟩ := HR.out.shape
    go_wp2_with fail
    exact edges_ret (r := (catO RES, 0)) Tryz.results9 ((H1.out.set 0 _ (show (0 : Nat) < 1 by decide)).other n1 0 _) ((H2.out.other n2 0 _).set 0 _ (show (0 : Nat) < 1 by decide)) (edgs_set (edgs_set HR.out (by omega)) (by omega)) (by omega) (Below.setCell (Below.setCell HBe.out (by exact Nat.le_succ _) _) (by show w.heap.size ≤ w.heap.size + 1 + 1; omega) _) (by rfl) (by rfl)
      ((Below.heap_setCell _ _ _ _ (by exact fun e => hne2 e.symm)).trans ((Below.heap_setCell _ _ _ _ (by exact fun e => hne1 e.symm)).trans HKd.out)) (by omega)
  case stop =>
    rintro D c pre X hD ⟨post, hpost⟩ ⟨rfl, z, ⟨hz, p, L, rfl, hcl⟩, h1, h2, hbe, hsz⟩ hK
    have hj : r = ([], z) := by rw [← HR0.out, ← hpost, List.append_assoc]; exact join_stop hcl hz
    subst hj
    have H1 := Lib.hid h1; have H2 := Lib.hid h2; have HBe := Lib.hid hbe; have HKd := Lib.hid hK
    clear h1 h2 hbe hcl hK AB ABX HAB hpost HR0
    gi_wp2_with fail
    exact edges_ret (r := ([], z)) (R := w.heap.size) Tryz.results9 H1.out H2.out (Lay8.own_nil _ _) (Nat.le_refl _) HBe.out (by rfl) (by rfl) HKd.out (by omega)
end Go.Proofs.YtbjabclgekkpaaaGreatDoor
namespace Go.Proofs.YtbjabclgekkpaaaGreatDoor
theorem openM_out (s : NS) : ∃ x, (openM s).out = s.out ++ x ∧ x.length ≤ 1 := by
  unfold openM
  split
  · exact ⟨[], by simp, by simp⟩
  · exact ⟨[segS 1 s.px s.py 0 0 0 0], rfl, by simp⟩
theorem openM_q {s : NS} (h : NOk s) : In32 (openM s).qx ∧ In32 (openM s).qy := by
  unfold openM
  split
  · exact ⟨h.qx, h.qy⟩
  · exact ⟨h.px, h.py⟩
theorem addM_out (s : NS) (g : Seg) : (∃ x, (addM s g).out = s.out ++ x ∧ 0 < x.length ∧ x.length ≤ 2) ∧ lastM (addM s g) = g := by
  obtain ⟨x, h1, h2⟩ := openM_out s
  refine ⟨⟨x ++ [g], ?_, by simp, by simp; omega⟩, ?_⟩
  · show (openM s).out ++ [g] = _
    rw [h1, List.append_assoc]
  · exact last_of (l := (openM s).out) rfl
/-- A sum's bounds. -/
def In34 (z : Int) : Prop := -17179869184 < z ∧ z < 17179869184
theorem In34.i64 {z : Int} (h : In34 z) : I64 z := by unfold In34 at h; exact ⟨by omega, by omega⟩
theorem In32.w {z : Int} (h : In32 z) : In34 z := by unfold In32 at h; exact ⟨by omega, by omega⟩
theorem in_sum {a b : Int} (ha : In32 a) (hb : In32 b) : In34 (a + b) := by unfold In32 at ha hb; exact ⟨by omega, by omega⟩
theorem in_mir {a b : Int} (ha : In32 a) (hb : In32 b) : In34 (2 * a - b) := by unfold In32 at ha hb; exact ⟨by omega, by omega⟩
theorem z34 : In34 0 := ⟨by decide, by decide⟩
theorem z32 : In32 0 := ⟨by decide, by decide⟩
theorem mir_in {s : NS} (h : NOk s) (hne : s.out ≠ []) (k : Int) : In34 (mirM s k).1 ∧ In34 (mirM s k).2 := by
  obtain ⟨_, _, h1, h2, h3, h4, _⟩ := h.last hne
  unfold mirM
  split
  · split
    · exact ⟨in_mir h.px h3, in_mir h.py h4⟩
    · exact ⟨in_mir h.px h1, in_mir h.py h2⟩
  · exact ⟨h.px.w, h.py.w⟩
theorem seg_i {k x y a b c d : Int} (hk : I64 k) (h1 : In34 x) (h2 : In34 y) (h3 : In34 a) (h4 : In34 b) (h5 : In34 c) (h6 : In34 d) : SegI (segS k x y a b c d) :=
  ⟨hk, h1.i64, h2.i64, h3.i64, h4.i64, h5.i64, h6.i64, z34.i64, z34.i64, z34.i64⟩
theorem I64.small {k : Int} (h : 0 ≤ k ∧ k ≤ 9) : I64 k := ⟨by omega, by omega⟩
/-- One command. -/
structure Took (s s' : NS) : Prop where
  out : ∃ x, s'.out = s.out ++ x ∧ 0 < x.length ∧ x.length ≤ 2
  seg : SegI (lastM s')
  ok : inB (lastM s') → NOk s'
theorem took_add {s : NS} (h : NOk s) (g : Seg) (hg : SegI g) : Took s (addM s g) := by
  obtain ⟨h1, h2⟩ := addM_out s g
  obtain ⟨q1, q2⟩ := openM_q h
  refine ⟨h1, by rw [h2]; exact hg, fun hb => ?_⟩
  rw [h2] at hb
  exact ⟨hb.1, hb.2.1, q1, q2, h.ox, h.oy, fun _ => by rw [h2]; exact hb⟩
theorem took_step {s : NS} (h : NOk s) (L : Nat) (a : List Int) (hA : ∀ i, In32 (nA a i)) (hne : L ≠ 77 → s.out ≠ []) : Took s (stepM L s a) := by
  have X := fun i => in_sum h.ox (hA i)
  have Y := fun i => in_sum h.oy (hA i)
  unfold stepM
  by_cases h77 : L = 77
  · rw [if_pos h77]
    have hl : lastM (begM s (s.ox + nA a 0) (s.oy + nA a 1)) = segS 1 (s.ox + nA a 0) (s.oy + nA a 1) 0 0 0 0 := last_of (l := s.out) rfl
    refine ⟨⟨_, rfl, by simp, by simp⟩, ?_, fun hb => ?_⟩
    · rw [hl]; exact seg_i (I64.small (by decide)) (X 0) (Y 1) z34 z34 z34 z34
    · rw [hl] at hb
      exact ⟨hb.1, hb.2.1, hb.1, hb.2.1, h.ox, h.oy, fun _ => by rw [hl]; exact hb⟩
  · rw [if_neg h77]
    have hn := hne h77
    split
    · exact took_add h _ (seg_i (I64.small (by decide)) (X 0) (Y 1) z34 z34 z34 z34)
    split
    · exact took_add h _ (seg_i (I64.small (by decide)) (X 0) h.py.w z34 z34 z34 z34)
    split
    · exact took_add h _ (seg_i (I64.small (by decide)) h.px.w (Y 0) z34 z34 z34 z34)
    split
    · exact took_add h _ (seg_i (I64.small (by decide)) (X 4) (Y 5) (X 0) (Y 1) (X 2) (Y 3))
    split
    · exact took_add h _ (seg_i (I64.small (by decide)) (X 2) (Y 3) (mir_in h hn 3).1 (mir_in h hn 3).2 (X 0) (Y 1))
    split
    · exact took_add h _ (seg_i (I64.small (by decide)) (X 2) (Y 3) (X 0) (Y 1) z34 z34)
    split
    · exact took_add h _ (seg_i (I64.small (by decide)) (X 0) (Y 1) (mir_in h hn 4).1 (mir_in h hn 4).2 z34 z34)
    split
    · exact took_add h _ ⟨show I64 5 from I64.small (by decide), (X 5).i64, (Y 6).i64, z34.i64, z34.i64, z34.i64, z34.i64, (hA 0).w.i64, (hA 1).w.i64, (hA 2).w.i64⟩
    · obtain ⟨h1, h2⟩ := addM_out s (segS 6 s.qx s.qy 0 0 0 0)
      obtain ⟨q1, q2⟩ := openM_q h
      have h3 : ∀ x y z t, lastM ⟨(addM s (segS 6 s.qx s.qy 0 0 0 0)).out, x, y, z, t, false, s.ox, s.oy⟩ = segS 6 s.qx s.qy 0 0 0 0 := fun _ _ _ _ => h2
      refine ⟨h1, ?_, fun hb => ?_⟩
      · rw [h3]; exact seg_i (I64.small (by decide)) h.qx.w h.qy.w z34 z34 z34 z34
      · exact ⟨h.qx, h.qy, q1, q2, h.ox, h.oy, fun _ => hb⟩
theorem took_take {s : NS} (h : NOk s) (c : Cmd) (hc : CmdW c) (hne : capL c.letter ≠ 77 → s.out ≠ []) : Took s (takeM s c) := by
  have T := took_step (org_ok h c.letter) (capL c.letter) c.args hc.at hne
  exact ⟨T.out, T.seg, T.ok⟩
theorem nok_zero : NOk NS.zero := ⟨z32, z32, z32, z32, z32, z32, fun h => absurd rfl h⟩
/-- The table holds what takes a letter. -/
theorem tab_at (c : Nat) (h : cntL c ≠ 99) : ∃ f, tabV[capL c - 65]? = some (.func (.func f) #[] #[]) ∧ Taken f (capL c) (cntL c) ∧ 65 ≤ capL c ∧ capL c - 65 < 26 := by
  obtain ⟨ten, hcnt⟩ := cap_ten h
  rw [← hcnt]
  rcases ten with e | e | e | e | e | e | e | e | e | e <;> rw [e]
  · exact ⟨_, rfl, ⟨step_move, fun _ _ => by kernel_rfl⟩, by decide, by decide⟩
  · exact ⟨_, rfl, ⟨step_line, fun _ _ => by kernel_rfl⟩, by decide, by decide⟩
  · exact ⟨_, rfl, ⟨step_across, fun _ _ => by kernel_rfl⟩, by decide, by decide⟩
  · exact ⟨_, rfl, ⟨step_down, fun _ _ => by kernel_rfl⟩, by decide, by decide⟩
  · exact ⟨_, rfl, ⟨step_cubic, fun _ _ => by kernel_rfl⟩, by decide, by decide⟩
  · exact ⟨_, rfl, ⟨step_smoothCubic, fun _ _ => by kernel_rfl⟩, by decide, by decide⟩
  · exact ⟨_, rfl, ⟨step_quad, fun _ _ => by kernel_rfl⟩, by decide, by decide⟩
  · exact ⟨_, rfl, ⟨step_smoothQuad, fun _ _ => by kernel_rfl⟩, by decide, by decide⟩
  · exact ⟨_, rfl, ⟨step_arc, fun _ _ => by kernel_rfl⟩, by decide, by decide⟩
  · exact ⟨_, rfl, ⟨step_finish, fun _ _ => by kernel_rfl⟩, by decide, by decide⟩
end Go.Proofs.YtbjabclgekkpaaaGreatDoor
namespace Go.Proofs.YtbjabclgekkpaaaGreatDoor
open Go.ChangeShapes Go.WideShapes Go.ChangeAt Go.RowKit Go.Shelf
def ltr (l : List Cmd) (i : Nat) : Nat := (l.getD i ⟨0, []⟩).letter
def ars (l : List Cmd) (i : Nat) : List Int := (l.getD i ⟨0, []⟩).args
theorem ltr_at {l : List Cmd} {i : Nat} {x : Cmd} (h : l[i]? = some x) : ltr l i = x.letter ∧ ars l i = x.args := by
  unfold ltr ars; simp [List.getD, h]
theorem at_some (l : List Cmd) {i : Nat} (h : i < l.length) : l[i]? = some ⟨ltr l i, ars l i⟩ := by
  rw [List.getElem?_eq_getElem h]
  have := ltr_at (List.getElem?_eq_getElem h)
  rw [this.1, this.2]
/-- The i-th command lies at a place. -/
structure CmdAt (b o : Nat) (l : List Cmd) (i : Nat) (aa : Option Addr) (ac : Nat) (w : World) : Prop where
  c0 : w.cell? ⟨b, o, none⟩ = some (.int .u8 (ltr l i : Int))
  c1 : w.cell? ⟨b, o + 1, none⟩ = some (.slice aa (ars l i).length ac)
  row : IntsK .i64 aa (ars l i) w
  lt : ltr l i < 256
  len : (ars l i).length ≤ maxLen
/-- The live cells of a slice of commands. -/
def RdC (a : Option Addr) (l : List Cmd) (w : World) : Prop :=
  l = [] ∨ ∃ b off : Nat, a = some ⟨b, off, none⟩ ∧ b < w.heap.size ∧ ∀ i, i < l.length → ∃ aa ac, CmdAt b (off + i * 2) l i aa ac w
theorem RdC.pos {a : Option Addr} {l : List Cmd} {w : World} (h : RdC a l w) (hl : 0 < l.length) : ∃ b off : Nat, a = some ⟨b, off, none⟩ ∧ b < w.heap.size ∧ ∀ i, i < l.length → ∃ aa ac, CmdAt b (off + i * 2) l i aa ac w := by
  rcases h with rfl | h
  · exact absurd hl (by decide)
  · exact h
theorem flatC_at : ∀ (l : List Cmd) (vs : List Value), vs.length = l.length → ∀ i x a, l[i]? = some x → vs[i]? = some a → (flatC l vs)[i * 2]? = some (.int .u8 (x.letter : Int)) ∧ (flatC l vs)[i * 2 + 1]? = some a := by
  intro l
  induction l with
  | nil => intro vs _ i x a h; simp at h
  | cons y l ih =>
    intro vs hv i x a hx ha
    cases vs with
    | nil => simp at hv
    | cons v vs =>
      cases i with
      | zero =>
        obtain rfl : y = x := by simpa using hx
        obtain rfl : v = a := by simpa using ha
        exact ⟨rfl, rfl⟩
      | succ i =>
        have := ih vs (by simpa using hv) i x a (by simpa using hx) (by simpa using ha)
        rw [show (i + 1) * 2 = i * 2 + 1 + 1 from by omega]
        exact this
theorem own_cell {W : World} {R : Nat} {e : TypeId} {sz k : Nat} {b off : Nat} {len cap : Nat} {xs : List Value} (h : W.ownsRow R e sz (.slice (some ⟨b, off, none⟩) len cap) k xs) {i : Nat} {u : Value} (hi : xs[i]? = some u) : W.cell? ⟨b, off + i, none⟩ = some u := by
  rcases h.2 with ⟨h0, _⟩ | ⟨g, cap', cur, hv, hR, hg, h1, h2, h3, h4⟩
  · cases h0
  · cases hv
    rw [Nat.zero_add]
    unfold World.cell?
    rw [hg]
    show cur[i]? = some u
    rw [← h4] at hi
    have := (List.getElem?_eq_some_iff.1 hi).1
    rw [List.length_take] at this
    rw [List.getElem?_take, if_pos (by omega)] at hi
    simpa using hi
/-- A row of numbers of the call's own, read. -/
theorem ints_own {W : World} {R : Nat} {a : Option Addr} {len cap k : Nat} {zs : List Int} (h : W.ownsRow R 2 1 (.slice a len cap) k (ints zs)) : IntsK .i64 a zs W := by
  by_cases hz : zs = []
  · exact .inl hz
  · have hl := h.1
    obtain ⟨b, off, rfl, hb⟩ : ∃ b off, a = some ⟨b, off, none⟩ ∧ b < W.heap.size := by
      rcases h.2 with ⟨_, h2⟩ | ⟨g, cap', cur, hv, hR, hg, _⟩
      · rw [h2] at hl
        exact absurd (List.length_eq_zero_iff.1 (by simpa [ints] using hl)) hz
      · cases hv; exact ⟨g, 0, rfl, (Array.getElem?_eq_some_iff.1 hg).1⟩
    exact .inr ⟨b, off, rfl, hb, fun i hi => own_cell h (by simp [ints, List.getD, List.getElem?_eq_getElem hi])⟩
/-- What Parse leaves can be read. -/
theorem Cmds.reads {R : Nat} {v : Value} {l : List Cmd} {W : World} (h : Cmds R v l W) (hl : ∀ x ∈ l, x.args.length ≤ maxLen) : ∃ a cap, v = .slice a l.length cap ∧ RdC a l W := by
  obtain ⟨avs, h1, h2, h3⟩ := h
  obtain ⟨a, cap, rfl⟩ := own_shape h2
  refine ⟨a, cap, rfl, ?_⟩
  by_cases hz : l = []
  · exact .inl hz
  · have hpos : 0 < l.length := List.length_pos_iff.2 hz
    obtain ⟨b, off, rfl, hb⟩ : ∃ b off, a = some ⟨b, off, none⟩ ∧ b < W.heap.size := by
      rcases h2.2 with ⟨_, h0⟩ | ⟨g, cap', cur, hv, hR, hg, _⟩
      · omega
      · cases hv; exact ⟨g, 0, rfl, (Array.getElem?_eq_some_iff.1 hg).1⟩
    refine .inr ⟨b, off, rfl, hb, fun i hi => ?_⟩
    have hx := at_some l hi
    have ha : avs[i]? = some avs[i] := List.getElem?_eq_getElem (by omega)
    obtain ⟨e0, e1⟩ := flatC_at l avs h1 i _ _ hx ha
    obtain ⟨o, hc⟩ := h3 i _ _ hx ha
    obtain ⟨aa, ac, hs⟩ := own_shape o
    rw [hs] at e1 o
    refine ⟨aa, ac, own_cell h2 e0, own_cell h2 e1, ints_own o, hc, ?_⟩
    exact hl ⟨ltr l i, ars l i⟩ (List.mem_of_getElem? hx)
/-- No group has more arguments than seven. -/
theorem args_len (X : Tx) (c : Nat) : ∀ (n k i : Nat) (acc : List Int) xs j, argsL X c n k i acc = .inl (xs, j) → xs.length = acc.length + n := by
  intro n
  induction n with
  | zero => intro k i acc xs j h; obtain ⟨rfl, rfl⟩ : acc = xs ∧ i = j := by simpa [argsL] using h
            rfl
  | succ n ih =>
    intro k i acc xs j h
    rw [args_step] at h
    split at h
    · have := ih _ _ _ _ _ h
      rw [List.length_append] at this
      simp at this; omega
    · cases h
theorem path_len (X : Tx) : ∀ (f : Nat) (st : Option Nat) (i : Nat) (out : List Cmd), (∀ x ∈ out, x.args.length ≤ 99) → (∀ x ∈ (pathL X f st i out).1, x.args.length ≤ 99) := by
  intro f
  induction f with
  | zero => intro st i out h; cases st <;> exact h
  | succ f ih =>
    intro st i out h
    cases st with
    | none =>
      unfold pathL
      split
      · split
        · exact h
        · split
          · exact ih _ _ _ (by intro x hx; rcases List.mem_append.1 hx with hx | hx; exact h x hx; simp at hx; subst hx; exact Nat.zero_le _)
          · exact ih _ _ _ h
      · exact h
    | some c =>
      unfold pathL
      split
      · exact h
      · rename_i xs j he
        have hl := args_len X c _ _ _ _ _ _ he
        have h' : ∀ x ∈ out ++ [⟨c, xs⟩], x.args.length ≤ 99 := by
          intro x hx
          rcases List.mem_append.1 hx with hx | hx
          · exact h x hx
          · simp at hx; subst hx; show xs.length ≤ 99; have := cnt_le c; simp at hl; omega
        split
        · exact ih _ _ _ h'
        · split
          · exact ih _ _ _ h'
          · exact ih _ _ _ h'
theorem all_len (X : Tx) : ∀ x ∈ (pathAll X).1, x.args.length ≤ maxLen := fun x hx => Nat.le_trans (path_len X _ _ _ [] (fun x h => by cases h) x hx) (by unfold maxLen; omega)
end Go.Proofs.YtbjabclgekkpaaaGreatDoor
