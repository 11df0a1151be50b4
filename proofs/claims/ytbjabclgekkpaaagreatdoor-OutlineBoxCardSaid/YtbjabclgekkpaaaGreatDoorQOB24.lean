/- Joined: OutBoxC, OutFn, DecLaid, ScanLaid, PathLaid. -/
import Derived.Test.YtbjabclgekkpaaaGreatDoorCards
import Derived.Test.YtbjabclgekkpaaaGreatDoorQOB07
import Derived.Test.YtbjabclgekkpaaaGreatDoorQOB10
import Derived.Test.YtbjabclgekkpaaaGreatDoorQOB11
import Derived.Test.YtbjabclgekkpaaaGreatDoorQOB18
import Derived.Test.YtbjabclgekkpaaaGreatDoorQOB22
import Derived.Test.YtbjabclgekkpaaaGreatDoorQOB23
import Derived.Test.YtbjabclgekkpaaaGreatDoorTie
import Derived.BigRegion
import Derived.Deep.RegionHeld3
import Derived.HandedShaped
import Derived.LaidMore
import Derived.Lay
import Derived.OpenShut
import Derived.ProofKit
import Derived.SevenTiedAt
import Derived.Shelf.Vars
import Derived.Stop.Joined
namespace Go.Proofs.YtbjabclgekkpaaaGreatDoor
open Go.RowKit Go.Shelf
set_option linter.unusedSimpArgs false
def mn3 (a b c : Int) : Int := min a (min b c)
def mx3 (a b c : Int) : Int := max a (max b c)
theorem run_min_ints3 {P : Program} (w : World) (ts : Array TypeId) (t : TypeId) (k : IntKind) (x y z : Int) :
    (Builtin.min_ ts t #[.int k x, .int k y, .int k z]).run P w = .ok (.int k (mn3 x y z)) w := by
  have e : ∀ a b : Int, (if b < a then b else a) = min a b := fun a b => by omega
  simp [Builtin.min_, Builtin.min2, e, mn3, Int.min_assoc]
theorem run_max_ints3 {P : Program} (w : World) (ts : Array TypeId) (t : TypeId) (k : IntKind) (x y z : Int) :
    (Builtin.max_ ts t #[.int k x, .int k y, .int k z]).run P w = .ok (.int k (mx3 x y z)) w := by
  have e : ∀ a b : Int, (if a < b then b else a) = max a b := fun a b => by omega
  simp [Builtin.max_, Builtin.max2, e, mx3, Int.max_assoc]
attribute [local go_sem high] run_min_ints3 run_max_ints3
/-- What the box is after so many edges: it holds their ends, and each of its sides has an end of one of all. -/
structure BoxQ (l : List Edg) (i : Nat) (lx ly hx hy : Int) : Prop where
  inn : ∀ p ∈ ptsE (l.take i), (lx ≤ p.1 ∧ p.1 ≤ hx) ∧ (ly ≤ p.2 ∧ p.2 ≤ hy)
  a : ∃ p ∈ ptsE l, p.1 = lx
  b : ∃ p ∈ ptsE l, p.1 = hx
  c : ∃ p ∈ ptsE l, p.2 = ly
  d : ∃ p ∈ ptsE l, p.2 = hy
theorem boxQ_zero {l : List Edg} {g : Edg} (h : l[0]? = some g) : BoxQ l 0 g.px g.py g.px g.py :=
  have m := (ptsE_mem h).1
  ⟨fun p hp => by simp [ptsE] at hp, ⟨_, m, rfl⟩, ⟨_, m, rfl⟩, ⟨_, m, rfl⟩, ⟨_, m, rfl⟩⟩
theorem mn3_one (a b c : Int) : mn3 a b c = a ∨ mn3 a b c = b ∨ mn3 a b c = c := by unfold mn3; omega
theorem mx3_one (a b c : Int) : mx3 a b c = a ∨ mx3 a b c = b ∨ mx3 a b c = c := by unfold mx3; omega
theorem mn3_le (a b c : Int) : mn3 a b c ≤ a ∧ mn3 a b c ≤ b ∧ mn3 a b c ≤ c := by unfold mn3; omega
theorem mx3_le (a b c : Int) : a ≤ mx3 a b c ∧ b ≤ mx3 a b c ∧ c ≤ mx3 a b c := by unfold mx3; omega
theorem boxQ_next {l : List Edg} {i : Nat} {g : Edg} {lx ly hx hy : Int} (h : BoxQ l i lx ly hx hy) (hg : l[i]? = some g) : BoxQ l (i + 1) (mn3 lx g.px g.qx) (mn3 ly g.py g.qy) (mx3 hx g.px g.qx) (mx3 hy g.py g.qy) := by
  obtain ⟨m1, m2⟩ := ptsE_mem hg
  have n1 := mn3_le lx g.px g.qx; have n2 := mn3_le ly g.py g.qy; have n3 := mx3_le hx g.px g.qx; have n4 := mx3_le hy g.py g.qy
  refine ⟨fun p hp => ?_, ?_, ?_, ?_, ?_⟩
  · rw [ptsE_take hg] at hp
    rcases List.mem_append.1 hp with hp | hp
    · obtain ⟨⟨k1, k2⟩, k3, k4⟩ := h.inn p hp
      omega
    · simp only [List.mem_cons, List.not_mem_nil, or_false] at hp
      rcases hp with rfl | rfl
      · dsimp only; omega
      · dsimp only; omega
  · rcases mn3_one lx g.px g.qx with e | e | e <;> rw [e]
    · exact h.a
    · exact ⟨_, m1, rfl⟩
    · exact ⟨_, m2, rfl⟩
  · rcases mx3_one hx g.px g.qx with e | e | e <;> rw [e]
    · exact h.b
    · exact ⟨_, m1, rfl⟩
    · exact ⟨_, m2, rfl⟩
  · rcases mn3_one ly g.py g.qy with e | e | e <;> rw [e]
    · exact h.c
    · exact ⟨_, m1, rfl⟩
    · exact ⟨_, m2, rfl⟩
  · rcases mx3_one hy g.py g.qy with e | e | e <;> rw [e]
    · exact h.d
    · exact ⟨_, m1, rfl⟩
    · exact ⟨_, m2, rfl⟩
theorem boxQ_end {l : List Edg} {lx ly hx hy : Int} (h : BoxQ l l.length lx ly hx hy) (hl : l ≠ []) : BoxP l lx ly hx hy true := by
  refine ⟨fun e => absurd e hl, fun _ => ⟨rfl, fun p hp => h.inn p (by rw [List.take_length]; exact hp), ⟨h.a, h.b⟩, h.c, h.d⟩⟩
/-- What the loop keeps. -/
def BoxInv (l : List Edg) (w : World) (v : Value) (wr : World) : Prop :=
  ∃ (i : Nat) (lx ly hx hy : Int), i ≤ l.length ∧ v = .int .i64 (i : Int) ∧ BoxQ l i lx ly hx hy ∧ CBox w.heap.size 40 #[.int .i64 lx, .int .i64 ly] wr ∧ CBox (w.heap.size + 1) 40 #[.int .i64 hx, .int .i64 hy] wr ∧ Below w.heap.size w wr
theorem below_2 {w w' : World} {n B : Nat} (h : Below B w w') (hn : B ≤ n) (x y : Value) : Below B w ((w'.setCell ⟨n, 0, none⟩ x).setCell ⟨n, 1, none⟩ y) := Below.setCell (Below.setCell h (by exact hn) _) (by exact hn) _
theorem CBox.set2 {n : Nat} {t : TypeId} {w : World} {a b : Value} (h : CBox n t #[a, b] w) (x y : Value) : CBox n t #[x, y] ((w.setCell ⟨n, 0, none⟩ x).setCell ⟨n, 1, none⟩ y) := CBox.set (CBox.set h 0 x (show 0 < 2 by decide)) 1 y (show 1 < 2 by decide)
theorem CBox.other2 {n q : Nat} {t : TypeId} {cs : Array Value} {w : World} (h : CBox n t cs w) (hn : n ≠ q) (x y : Value) : CBox n t cs ((w.setCell ⟨q, 0, none⟩ x).setCell ⟨q, 1, none⟩ y) := (h.other hn 0 x).other hn 1 y
theorem box_ret {f : Func} (hres : f.results = #[ResultVar.cell 2 40, ResultVar.cell 3 40, ResultVar.tmp 4]) {n k : Nat} {w wr : World} {lx ly hx hy : Int} {ok : Bool} {ts : Array Value} {l : List Edg} (h1 : CBox n 40 #[.int .i64 lx, .int .i64 ly] wr) (h2 : CBox k 40 #[.int .i64 hx, .int .i64 hy] wr) (hb : Below w.heap.size w wr)
    (t2 : ts[2]? = some (.pointer (some ⟨n, 0, none⟩))) (t3 : ts[3]? = some (.pointer (some ⟨k, 0, none⟩))) (t4 : ts[4]? = some (.bool ok)) (hP : BoxP l lx ly hx hy ok) :
    bodyPost Tryz.prog f (fun e w' => ∃ lx ly hx hy ok, e = .returned (.tuple #[.agg #[.int .i64 lx, .int .i64 ly], .agg #[.int .i64 hx, .int .i64 hy], .bool ok]) ∧ BoxP l lx ly hx hy ok ∧ Below w.heap.size w w') .ret { tmps := ts, defers := [] } wr := by
  have c0 := h1.c 0 rfl; have c1 := h1.c 1 rfl; have d0 := h2.c 0 rfl; have d1 := h2.c 1 rfl
  exact bodyPost_ret (v := .tuple #[.agg #[.int .i64 lx, .int .i64 ly], .agg #[.int .i64 hx, .int .i64 hy], .bool ok]) (by simp [results, hres, go_sem, c0, c1, d0, d1, t2, t3, t4]) rfl ⟨lx, ly, hx, hy, ok, rfl, hP, hb⟩
set_option maxHeartbeats 4000000 in
set_option maxRecDepth 100000 in
theorem box_ok : BoxOk := by
  intro a l cap w hr hI hl
  obtain ⟨k1, k2, k3⟩ := boxes_two w #[.int .i64 0, .int .i64 0] #[.int .i64 0, .int .i64 0] 40 40
  have HL0 := Lib.hid k1; have HH0 := Lib.hid k2; have HB0 := Lib.hid k3; have HR := Lib.hid hr
  clear k1 k2 k3 hr hI
  have n12 : ¬ w.heap.size = w.heap.size + 1 := by omega
  have n21 : ¬ w.heap.size + 1 = w.heap.size := by omega
  go_enter Tryz.func13, Tryz.ntmps13
  go_upto_region 1 with fail
  generalize ((w.alloc (.cells #[.int .i64 0, .int .i64 0] 40)).alloc (.cells #[.int .i64 0, .int .i64 0] 40)) = w1 at *
  by_cases h0 : l = []
  · subst h0
    have x0 : w1.cell? ⟨w.heap.size, 0, none⟩ = some (.int .i64 0) := HL0.out.c 0 rfl
    have x1 : w1.cell? ⟨w.heap.size, 1, none⟩ = some (.int .i64 0) := HL0.out.c 1 rfl
    have y0 : w1.cell? ⟨w.heap.size + 1, 0, none⟩ = some (.int .i64 0) := HH0.out.c 0 rfl
    have y1 : w1.cell? ⟨w.heap.size + 1, 1, none⟩ = some (.int .i64 0) := HH0.out.c 1 rfl
    have z0 := HL0.out.z 0; have z1 := HL0.out.z 1; have r0 := HH0.out.z 0; have r1 := HH0.out.z 1
    go_wp2_with fail
    exact box_ret Tryz.results13 ((HL0.out.set2 (.int .i64 0) (.int .i64 0)).other2 n12 _ _) ((HH0.out.other2 n21 _ _).set2 (.int .i64 0) (.int .i64 0)) (below_2 (below_2 HB0.out (Nat.le_refl _) _ _) (Nat.le_succ _) _ _) rfl rfl rfl ⟨fun _ => ⟨rfl, rfl, rfl, rfl, rfl⟩, fun h => absurd rfl h⟩
  · have hlp : 0 < l.length := List.length_pos_iff.2 h0
    obtain ⟨g, hg⟩ : ∃ g, l[0]? = some g := ⟨_, List.getElem?_eq_getElem hlp⟩
    have HQ0 := Lib.hid (boxQ_zero hg)
    have HR1 := Lib.hid (Lay8.rd.next HR.out HB0.out)
    obtain ⟨bb, off, ha, hbb, e0, e1, _⟩ := RdE.at HR1.out hg
    subst ha
    have hbl : bb < w.heap.size := by
      rcases HR.out with h | ⟨b', o', h1, h2, _⟩
      · exact absurd h h0
      · cases h1; exact h2
    simp only [Nat.zero_mul, Nat.add_zero] at e0 e1
    obtain ⟨gx, gy, gu, gv⟩ := g
    dsimp only at e0 e1 HQ0
    have d0 : ((l.length : Int) == 0) = false := beq_eq_false_iff_ne.2 (by omega)
    have d1 : (0 : Int) < (l.length : Int) := by omega
    have nb1 : ¬ bb = w.heap.size := by omega
    have nb2 : ¬ bb = w.heap.size + 1 := by omega
    have nb3 : ¬ w.heap.size = bb := by omega
    have nb4 : ¬ w.heap.size + 1 = bb := by omega
    go_upto_region 3 with fail
    go_cut [12] (fun _ wc => CBox w.heap.size 40 #[.int .i64 gx, .int .i64 gy] wc ∧ CBox (w.heap.size + 1) 40 #[.int .i64 gx, .int .i64 gy] wc ∧ Below w.heap.size w wc)
    case first =>
      have z0 := HL0.out.z 0; have z1 := HL0.out.z 1; have r0 := HH0.out.z 0; have r1 := HH0.out.z 1
      have x0 : w1.cell? ⟨w.heap.size, 0, none⟩ = some (.int .i64 0) := HL0.out.c 0 rfl
      have x1 : w1.cell? ⟨w.heap.size, 1, none⟩ = some (.int .i64 0) := HL0.out.c 1 rfl
      have y0 : w1.cell? ⟨w.heap.size + 1, 0, none⟩ = some (.int .i64 0) := HH0.out.c 0 rfl
      have y1 : w1.cell? ⟨w.heap.size + 1, 1, none⟩ = some (.int .i64 0) := HH0.out.c 1 rfl
      go_region_with fail
      all_goals
        go_wp2_with fail
        go_meet
        first
        | exact ⟨(((HL0.out.set2 (.int .i64 gx) (.int .i64 gy)).other2 n12 (.int .i64 gx) (.int .i64 gy)).drew), (((HH0.out.other2 n21 (.int .i64 gx) (.int .i64 gy)).set2 (.int .i64 gx) (.int .i64 gy)).drew), ((below_2 (below_2 HB0.out (Nat.le_refl _) (.int .i64 gx) (.int .i64 gy)) (Nat.le_succ _) (.int .i64 gx) (.int .i64 gy)).drew)⟩
        | exact ⟨(((HL0.out.other2 n12 (.int .i64 gx) (.int .i64 gy)).set2 (.int .i64 gx) (.int .i64 gy)).drew), (((HH0.out.set2 (.int .i64 gx) (.int .i64 gy)).other2 n21 (.int .i64 gx) (.int .i64 gy)).drew), ((below_2 (below_2 HB0.out (Nat.le_succ _) (.int .i64 gx) (.int .i64 gy)) (Nat.le_refl _) (.int .i64 gx) (.int .i64 gy)).drew)⟩
    case rest =>
      obtain ⟨hl1, hh1, hb1⟩ := hcut
      generalize wc = w2 at *
      have HL1 := Lib.hid hl1; have HH1 := Lib.hid hh1; have HB1 := Lib.hid hb1
      clear hl1 hh1 hb1 HL0 HH0 HB0 HR1 hbb e0 e1 hg d0 d1 nb1 nb2 nb3 nb4
      go_wp2_with fail
      go_loopw [22] (fun v wr => BoxInv l w v wr) (fun v _ => ((l.length : Int) - intB v).toNat)
      case atStart => exact ⟨0, _, _, _, _, Nat.zero_le _, rfl, HQ0.out, HL1.out, HH1.out, HB1.out⟩
      case round =>
        obtain ⟨i, lx, ly, hx, hy, hi, rfl, hq, h1, h2, hb⟩ := hrel
        have HQ := Lib.hid hq; have H1 := Lib.hid h1; have H2 := Lib.hid h2; have HB := Lib.hid hb
        clear hq h1 h2 hb HL1 HH1 HB1 HQ0
        by_cases hc : i < l.length
        · have d1 : decide ((i : Int) < (l.length : Int)) = true := decide_eq_true (by omega)
          obtain ⟨g, hg⟩ : ∃ g, l[i]? = some g := ⟨_, List.getElem?_eq_getElem hc⟩
          have HN := Lib.hid (boxQ_next HQ.out hg)
          obtain ⟨b2, o2, ha, hbb, c0, c1, c2, c3⟩ := RdE.at (Lay8.rd.next HR.out HB.out) hg
          cases ha
          have hi0 : (0 : Int) ≤ (i : Int) := by omega
          have hi1 : (i : Int) < (l.length : Int) := by omega
          clear hg
          obtain ⟨gpx, gpy, gqx, gqy⟩ := g
          dsimp only at *
          have hs := H2.out.lt
          have k1 := CBox.new wr 42 #[.int .i64 gpx, .int .i64 gpy, .int .i64 gqx, .int .i64 gqy]
          have k2 := (Below.refl wr.heap.size wr).alloc (Nat.le_refl _) (.cells #[.int .i64 gpx, .int .i64 gpy, .int .i64 gqx, .int .i64 gqy] 42)
          have HE := Lib.hid k1; have H1' := Lib.hid (H1.out.next k2); have H2' := Lib.hid (H2.out.next k2); have HB' := Lib.hid (HB.out.trans (k2.mono HB.out.size))
          clear k1 k2 HQ H1 H2 HB
          go_upto_region 7 with fail
          clear c0 c1 c2 c3
          generalize (wr.alloc (.cells #[.int .i64 gpx, .int .i64 gpy, .int .i64 gqx, .int .i64 gqy] 42)) = w3 at *
          generalize wr.heap.size = qe at *
          have x0 : w3.cell? ⟨qe, 0, none⟩ = some (.int .i64 gpx) := HE.out.c 0 rfl
          have x1 : w3.cell? ⟨qe, 1, none⟩ = some (.int .i64 gpy) := HE.out.c 1 rfl
          have x2 : w3.cell? ⟨qe, 2, none⟩ = some (.int .i64 gqx) := HE.out.c 2 rfl
          have x3 : w3.cell? ⟨qe, 3, none⟩ = some (.int .i64 gqy) := HE.out.c 3 rfl
          have a0 : w3.cell? ⟨w.heap.size, 0, none⟩ = some (.int .i64 lx) := H1'.out.c 0 rfl
          have a1 : w3.cell? ⟨w.heap.size, 1, none⟩ = some (.int .i64 ly) := H1'.out.c 1 rfl
          have b0 : w3.cell? ⟨w.heap.size + 1, 0, none⟩ = some (.int .i64 hx) := H2'.out.c 0 rfl
          have b1 : w3.cell? ⟨w.heap.size + 1, 1, none⟩ = some (.int .i64 hy) := H2'.out.c 1 rfl
          have z0 := H1'.out.z 0; have z1 := H1'.out.z 1; have r0 := H2'.out.z 0; have r1 := H2'.out.z 1
          have m1 : ¬ qe = w.heap.size := by omega
          have m2 : ¬ qe = w.heap.size + 1 := by omega
          have m3 : ¬ w.heap.size = qe := by omega
          have m4 : ¬ w.heap.size + 1 = qe := by omega
          go_wp2_with fail
          go_roundw
          case rel => exact ⟨i + 1, _, _, _, _, hc, by push_cast; rfl, HN.out, (H1'.out.set2 _ _).other2 n12 _ _, (H2'.out.other2 n21 _ _).set2 _ _, below_2 (below_2 HB'.out (Nat.le_refl _) _ _) (Nat.le_succ _) _ _⟩
          case measure => simp only [intB]; omega
        · have d1 : decide ((i : Int) < (l.length : Int)) = false := decide_eq_false (by omega)
          obtain rfl : i = l.length := by omega
          have x0 : wr.cell? ⟨w.heap.size, 0, none⟩ = some (.int .i64 lx) := H1.out.c 0 rfl
          have x1 : wr.cell? ⟨w.heap.size, 1, none⟩ = some (.int .i64 ly) := H1.out.c 1 rfl
          have y0 : wr.cell? ⟨w.heap.size + 1, 0, none⟩ = some (.int .i64 hx) := H2.out.c 0 rfl
          have y1 : wr.cell? ⟨w.heap.size + 1, 1, none⟩ = some (.int .i64 hy) := H2.out.c 1 rfl
          have z0 := H1.out.z 0; have z1 := H1.out.z 1; have r0 := H2.out.z 0; have r1 := H2.out.z 1
          go_upto_region 10 with fail
          go_cut [4] (fun s4 wc => s4 = .bool true ∧ CBox w.heap.size 40 #[.int .i64 lx, .int .i64 ly] wc ∧ CBox (w.heap.size + 1) 40 #[.int .i64 hx, .int .i64 hy] wc ∧ Below w.heap.size w wc)
          case first =>
            go_region_with fail
            all_goals
              go_wp2_with fail
              go_meet
            all_goals
              first
              | exact ⟨rfl, (((H1.out.set2 (.int .i64 lx) (.int .i64 ly)).other2 n12 (.int .i64 hx) (.int .i64 hy)).drew), (((H2.out.other2 n21 (.int .i64 lx) (.int .i64 ly)).set2 (.int .i64 hx) (.int .i64 hy)).drew), ((below_2 (below_2 HB.out (Nat.le_refl _) (.int .i64 lx) (.int .i64 ly)) (Nat.le_succ _) (.int .i64 hx) (.int .i64 hy)).drew)⟩
              | exact ⟨rfl, (((H1.out.other2 n12 (.int .i64 hx) (.int .i64 hy)).set2 (.int .i64 lx) (.int .i64 ly)).drew), (((H2.out.set2 (.int .i64 hx) (.int .i64 hy)).other2 n21 (.int .i64 lx) (.int .i64 ly)).drew), ((below_2 (below_2 HB.out (Nat.le_succ _) (.int .i64 hx) (.int .i64 hy)) (Nat.le_refl _) (.int .i64 lx) (.int .i64 ly)).drew)⟩
          case rest =>
            obtain ⟨rfl, g1, g2, gb⟩ := hcut
            go_wp2_with fail
            exact box_ret Tryz.results13 g1 g2 gb rfl rfl rfl (boxQ_end HQ.out h0)
end Go.Proofs.YtbjabclgekkpaaaGreatDoor
namespace Go.Proofs.YtbjabclgekkpaaaGreatDoor
open Go.RowKit Go.Shelf
theorem allO_len {D : Pen → Seg → List Edg × Int} {m : Mtx} {l : List Seg} {N : Nat} (hN : 1 ≤ N) (hD : ∀ s g, (D s g).1.length ≤ N) : ∀ x ∈ allO D m l, x.1.length ≤ N := by
  unfold allO
  split
  · exact strO_len hN hD l _
  · intro x hx
    rw [List.mem_singleton.1 hx]
    exact Nat.zero_le _
theorem drawL_len (m : Mtx) (s : Pen) (g : Seg) : (drawL m s g).1.length ≤ 1 := by
  unfold drawL
  split
  · exact lineO_len _ _ _
  · exact finO_len _ _
/-- Edges of Moves and Lines. -/
theorem edges_line (m : Mtx) (hm : MI64 m) (a : Option Addr) (l : List Seg) (cap : Nat) (hl : l.length ≤ 1000) (hS : ∀ g ∈ l, SegI g) (hK : ∀ g ∈ l, g.kind = 1 ∨ g.kind = 2) (w : World) (hr : RdS a l w) :
    Calls Tryz.prog 9 #[m.val, .slice a l.length cap] w fun e w' => ∃ v, e = .returned (.tuple #[v, .int .i64 (outO (drawL m) m l).2]) ∧ Edgs w.heap.size v (outO (drawL m) m l).1 w' ∧ Below w.heap.size w w' :=
  edges_any (drawL m) m hm _ (draw_line m hm) a l cap hl hS hK (fun x hx => Nat.le_trans (allO_len (Nat.le_refl 1) (drawL_len m) x hx) (by decide)) w hr
theorem rightP_want : rightP wantO 0 0 false := by
  unfold wantO
  simp [rightP, aloneP, keptS, segS, inB, In32]
theorem out_want : outO (drawL sameM) sameM wantO = (edgesO, 0) := by
  unfold outO allO
  rw [if_pos ⟨mright_same, rightP_want⟩]
  kernel_rfl
theorem mi64_right {m : Mtx} (h : m.right) : MI64 m := ⟨h.1.i, h.2.1.i, h.2.2.1.i, h.2.2.2.1.i, h.2.2.2.2.1.i, h.2.2.2.2.2.i⟩
theorem mi64_same : MI64 sameM := mi64_right mright_same
theorem alone_I {g : Seg} (h : aloneP g) : SegI g := by
  obtain ⟨h1, h2, _, ⟨i1, i2, i3, i4, i5, i6, i7, i8, i9⟩, _⟩ := h
  exact ⟨(show In32 g.kind from ⟨by omega, by omega⟩).i, i1.i, i2.i, i3.i, i4.i, i5.i, i6.i, i7.i, i8.i, i9.i⟩
theorem edges_ok13 : EdgesOk13 := by
  intro a cap w hr _
  have h := edges_line sameM mi64_same a wantO cap (by decide) (fun g hg => alone_I (rightP_all rightP_want g hg)) (by unfold wantO segS; decide) w hr
  rw [out_want] at h
  exact h
end Go.Proofs.YtbjabclgekkpaaaGreatDoor
namespace Go.Proofs.YtbjabclgekkpaaaGreatDoor
open Go.ChangeShapes Go.WideShapes Go.ChangeAt Go.RowKit Go.Shelf
/-- A row of numbers. -/
theorem row_ints {H : Type} {enc : TypeId × Value → H} {P : Program} {w : World} {base : Nat} {sp : Nat → Bool} {held : Bool} {fuel : Nat} {t e : TypeId} {n : Nat} {k : IntKind} {cs : List Value} {zs : List Int} {p : List MemPlace}
    (ht : P.underlying t = some (.array n e)) (he : P.underlying e = some (.int k)) (hc : P.cellsOf e = 1) (h : DataW.trod enc P w base sp held fuel t cs = some (.agg (zs.map fun z => .lit (.int k z)), p)) :
    ∀ (i : Nat) (z : Int), zs[i]? = some z → cs[i]? = some (Value.int k z) := by
  obtain ⟨xs, m, _, ex, _, hl, hel⟩ := DataW.trod_array ht h
  intro i z hz
  have e3 : (xs.map (·.1)) = zs.map fun n => .lit (.int k n) := (DataW.agg.inj (Prod.mk.inj ex).1).symm
  have e4 : (xs.map (·.1))[i]? = (zs.map fun n => (DataW.lit (.int k n) : DataW H))[i]? := by rw [e3]
  rw [List.getElem?_map, List.getElem?_map, hz] at e4
  have hi : i < xs.length := by
    refine Nat.lt_of_not_le fun hn => ?_
    rw [List.getElem?_eq_none hn] at e4
    cases e4
  have hE := hel i (by omega)
  rw [hc, Nat.mul_one, List.getElem?_eq_getElem hi] at hE
  obtain ⟨y, e1, e2, _⟩ := DataW.trod_int he hE
  rw [List.getElem?_eq_getElem hi, e2] at e4
  have hy : y = z := by simpa using e4
  subst hy
  have h0 : ((cs.drop i).take 1)[0]? = some (Value.int k y) := by rw [e1]; rfl
  simpa using h0
/-- Rows of numbers. -/
theorem rows_ints {H : Type} {enc : TypeId × Value → H} {P : Program} {w : World} {base : Nat} {sp : Nat → Bool} {held : Bool} {fuel : Nat} {t e e' : TypeId} {n m : Nat} {k : IntKind} {cs : List Value} {zs : List (List Int)} {p : List MemPlace}
    (ht : P.underlying t = some (.array n e')) (ht' : P.underlying e' = some (.array m e)) (he : P.underlying e = some (.int k)) (hc : P.cellsOf e = 1) (hc' : P.cellsOf e' = m)
    (h : DataW.trod enc P w base sp held fuel t cs = some (.agg (zs.map fun r => .agg (r.map fun z => .lit (.int k z))), p)) :
    ∀ (i j : Nat) (r : List Int) (z : Int), zs[i]? = some r → r[j]? = some z → j < m → cs[i * m + j]? = some (Value.int k z) := by
  obtain ⟨xs, q, _, ex, _, hl, hel⟩ := DataW.trod_array ht h
  intro i j r z hr hz hj
  have e3 : (xs.map (·.1)) = zs.map fun r => .agg (r.map fun z => .lit (.int k z)) := (DataW.agg.inj (Prod.mk.inj ex).1).symm
  have e4 : (xs.map (·.1))[i]? = (zs.map fun r => (DataW.agg (r.map fun z => .lit (.int k z)) : DataW H))[i]? := by rw [e3]
  rw [List.getElem?_map, List.getElem?_map, hr] at e4
  have hi : i < xs.length := by
    refine Nat.lt_of_not_le fun hn => ?_
    rw [List.getElem?_eq_none hn] at e4
    cases e4
  have hE := hel i (by omega)
  rw [hc', List.getElem?_eq_getElem hi] at hE
  rw [List.getElem?_eq_getElem hi] at e4
  have e5 : xs[i] = (.agg (r.map fun z => .lit (.int k z)), xs[i].2) := by
    have : xs[i].1 = .agg (r.map fun z => .lit (.int k z)) := by simpa using e4
    rw [← this]
  rw [e5] at hE
  have := row_ints ht' he hc hE j z hz
  rw [List.getElem?_take, if_pos hj, List.getElem?_drop] at this
  exact this
def tabZ : List (List Int) := [[0, 0, 0, 0], [3, 2, 4, 0], [3, 0, 4, 0], [3, 0, 5, 6], [5, 0, 0, 0], [5, 0, 0, 6], [8, 7, 0, 0], [8, 0, 0, 0], [8, 0, 0, 0]]
theorem tab_follow : ∀ st k : Nat, st ≤ 8 → k ≤ 3 → ∃ r, tabZ[st]? = some r ∧ r[k]? = some (follow st k : Int) := by
  intro st k h1 h2
  have a : st = 0 ∨ st = 1 ∨ st = 2 ∨ st = 3 ∨ st = 4 ∨ st = 5 ∨ st = 6 ∨ st = 7 ∨ st = 8 := by omega
  have b : k = 0 ∨ k = 1 ∨ k = 2 ∨ k = 3 := by omega
  rcases a with rfl | rfl | rfl | rfl | rfl | rfl | rfl | rfl | rfl <;> rcases b with rfl | rfl | rfl | rfl <;> exact ⟨_, rfl, rfl⟩
theorem follows_of {W : World} {t : TypeId} {cs : Array Value} {fuel : Nat} {sp : Nat → Bool} {base : Nat} {p : List MemPlace} {g : Nat} (hg : Tryz.prog.globalNamed "pointillist/dec.follows" = some g) (ht : (Tryz.prog.globals[g]?).map (·.type) = some t) (hv : W.var? Tryz.prog "pointillist/dec.follows" = some cs)
    (hd : DataW.trod (fun _ => ()) Tryz.prog W base sp false fuel t cs.toList = some (Rows.laid_pointillist_dec_follows, p)) : Follows W := by
  obtain rfl := Option.some.inj ((show Tryz.prog.globalNamed "pointillist/dec.follows" = some 5 by kernel_rfl).symm.trans hg)
  obtain rfl := Option.some.inj ((show (Tryz.prog.globals[5]?).map (·.type) = some 290 by kernel_rfl).symm.trans ht)
  have hr := rows_ints (zs := tabZ) (k := .i64) (m := 4) (e := 274) (e' := 289) (n := 9) (by kernel_rfl) (by kernel_rfl) (by kernel_rfl) (by kernel_rfl) (by kernel_rfl) hd
  intro st k h1 h2
  obtain ⟨r, e1, e2⟩ := tab_follow st k h1 h2
  rw [World.var?_cell hg hv (st * 4 + k)]
  have := hr st k r _ e1 e2 (by omega)
  simpa using this
theorem someMax_of {W : World} (h : W.ShapedOpen Tryz.prog) : SomeMax W :=
  cell_of_shapedOpen_int (P := Tryz.prog) (g := 4) (t := 3) (zero := #[.int .i64 0]) (k := .i64) h (of_decide_eq_true (by kernel_rfl)) (by kernel_rfl) rfl (by kernel_rfl) (by kernel_rfl) (by kernel_rfl)
theorem size_of {W : World} (h : W.ShapedOpen Tryz.prog) : gN ≤ W.heap.size := by
  obtain ⟨⟨zero, t⟩, e⟩ := Option.isSome_iff_exists.1 (show (((begin Tryz.prog (fun _ _ => 0) default).world.heap[gN - 1]?).bind Obj.row?).isSome = true by kernel_rfl)
  obtain ⟨cs, hh, _, _⟩ := h.1 (gN - 1) zero t (of_decide_eq_true (by kernel_rfl)) e
  have := (Array.getElem?_eq_some_iff.1 hh).1
  omega
/-- The wrap, with what is laid and the world's shape. -/
theorem wrap_laid {H : Type} {enc : TypeId × Value → H} {a : Assume} {C : Checked} {os : Os} {f : FuncId} {fn : Func} {s : ChangeSpec} {conds : List PathCond} {apart fresh handsOn again : Bool} {X : World → Array Value → Prop}
    (hX : ∀ (w w' : World) (args : Array Value), w.heap = w'.heap → X w args → X w' args)
    (own : ownKnob C.prog.godebug = none) (started : os.Started) (noInit : C.prog.inits.idxOf? f = none) (hfn : C.prog.funcs[f]? = some fn)
    (witness : ∃ (w : World) (tape : Tape) (i : Input), w.os = os ∧ (w.forCall tape i).Shaped C.prog ∧ i.vars = [] ∧ Input.okWide C.prog (w.forCall tape i) .any w.heap.size f i ∧
      ((s.pre enc C.prog fn conds apart (w.forCall tape i).memory i.args ∧ X (w.forCall tape i).memory i.args) ∧ sizedMet enc C.prog fn (OpenSpec.ofChange s) apart (w.forCall tape i).memory i.args) ∧ a.holds C.prog (lone (Frame.enter C.prog f i.args .normal) [] (w.forCall tape i)))
    (contract : ∀ (W : World) (base : Nat) (args : Array Value) (ds gs : List (DataW H)) (before : List MemPlace),
      (∀ (j : Nat) t v, fn.params[j]? = some t → args[j]? = some v → Value.okWide C.prog W .any base t v) →
      DataW.Whole enc C.prog fn.params.toList s.vars apart W args.toList ds gs before →
      conds.all (PathCond.test C.prog ⟨fn.params.toList, ds, s.plain.varTypes C.prog, gs⟩) = true →
      (DataW.weightsEach C.prog (fn.params.toList ++ s.plain.varTypes C.prog) (ds ++ gs)).all (· ≤ reachBytes) = true → X W args →
      W.ShapedOpen C.prog →
      a.holds C.prog (lone (Frame.enter C.prog f args .normal) [] W) →
      Calls C.prog f args W fun e W' => ∃ v, e = .returned v ∧ s.post enc C.prog fn apart fresh handsOn again W args v W') :
    ReturnsInHanded a C os f .any (fun w args => (s.pre enc C.prog fn conds apart w args ∧ X w args) ∧ sizedMet enc C.prog fn (OpenSpec.ofChange s) apart w args) (s.post enc C.prog fn apart fresh handsOn again) := by
  refine returnsInHanded_of_calls own started noInit witness ?_
  intro w tape i _ hsh _ hok hpre hholds
  obtain ⟨_, _, _, fn', hfn', _, _, _, _, hval⟩ := hok
  have e : fn' = fn := Option.some.inj (hfn'.symm.trans hfn)
  subst e
  obtain ⟨⟨⟨ds, gs, before, hw, hc⟩, hx⟩, hz⟩ := hpre
  have hw' := DataW.Whole.of_heap (w' := w.forCall tape i) (by rfl) hw
  refine (contract (w.forCall tape i) w.heap.size i.args ds gs before hval hw' hc (hz.weights hw) (hX _ _ _ (by rfl) hx) hsh hholds).mono fun e W' ⟨v, he, hp⟩ => ?_
  subst he
  exact ChangeSpec.post_blind hp
end Go.Proofs.YtbjabclgekkpaaaGreatDoor
namespace Go.Proofs.YtbjabclgekkpaaaGreatDoor
open Go.ChangeShapes Go.WideShapes Go.ChangeAt Go.RowKit Go.Shelf
/-- A row of bools. -/
theorem row_bools {H : Type} {enc : TypeId × Value → H} {P : Program} {w : World} {base : Nat} {sp : Nat → Bool} {held : Bool} {fuel : Nat} {t e : TypeId} {n : Nat} {cs : List Value} {zs : List Bool} {p : List MemPlace}
    (ht : P.underlying t = some (.array n e)) (he : P.underlying e = some .bool) (hc : P.cellsOf e = 1) (h : DataW.trod enc P w base sp held fuel t cs = some (.agg (zs.map fun z => .lit (.bool z)), p)) :
    ∀ (i : Nat) (z : Bool), zs[i]? = some z → cs[i]? = some (Value.bool z) := by
  obtain ⟨xs, m, _, ex, _, hl, hel⟩ := DataW.trod_array ht h
  intro i z hz
  have e3 : (xs.map (·.1)) = zs.map fun n => .lit (.bool n) := (DataW.agg.inj (Prod.mk.inj ex).1).symm
  have e4 : (xs.map (·.1))[i]? = (zs.map fun n => (DataW.lit (.bool n) : DataW H))[i]? := by rw [e3]
  rw [List.getElem?_map, List.getElem?_map, hz] at e4
  have hi : i < xs.length := by
    refine Nat.lt_of_not_le fun hn => ?_
    rw [List.getElem?_eq_none hn] at e4
    cases e4
  have hE := hel i (by omega)
  rw [hc, Nat.mul_one, List.getElem?_eq_getElem hi] at hE
  obtain ⟨y, e1, e2⟩ := DataW.trod_bool he hE
  rw [List.getElem?_eq_getElem hi, e2] at e4
  have hy : y = z := by simpa using e4
  subst hy
  have h0 : ((cs.drop i).take 1)[0]? = some (Value.bool y) := by rw [e1]; rfl
  simpa using h0
def blkZ : List Bool := (List.range 33).map isBlN
theorem blkZ_at (i : Nat) (h : i ≤ 32) : blkZ[i]? = some (isBlN i) := by
  unfold blkZ; rw [List.getElem?_map, List.getElem?_range (by omega)]; rfl
theorem blks_of {W : World} {t : TypeId} {cs : Array Value} {fuel : Nat} {sp : Nat → Bool} {base : Nat} {p : List MemPlace} {g : Nat} (hg : Tryz.prog.globalNamed "pointillist/scan.isBlank" = some g) (ht : (Tryz.prog.globals[g]?).map (·.type) = some t) (hv : W.var? Tryz.prog "pointillist/scan.isBlank" = some cs)
    (hd : DataW.trod (fun _ => ()) Tryz.prog W base sp false fuel t cs.toList = some (Rows.laid_pointillist_scan_isBlank, p)) : Blks W := by
  obtain rfl := Option.some.inj ((show Tryz.prog.globalNamed "pointillist/scan.isBlank" = some 0 by kernel_rfl).symm.trans hg)
  obtain rfl := Option.some.inj ((show (Tryz.prog.globals[0]?).map (·.type) = some 222 by kernel_rfl).symm.trans ht)
  have hr := row_bools (zs := blkZ) (e := 4) (n := 33) (by kernel_rfl) (by kernel_rfl) (by kernel_rfl) (hd.trans (by congr 2))
  intro i hi
  rw [World.var?_cell hg hv i]
  have := hr i _ (blkZ_at i hi)
  simpa using this
end Go.Proofs.YtbjabclgekkpaaaGreatDoor
namespace Go.Proofs.YtbjabclgekkpaaaGreatDoor
open Go.ChangeShapes Go.WideShapes Go.ChangeAt Go.RowKit Go.Shelf
/-- Rows of two texts. -/
theorem rows_strs {H : Type} {enc : TypeId × Value → H} {P : Program} {w : World} {base : Nat} {sp : Nat → Bool} {held : Bool} {fuel : Nat} {t e' : TypeId} {f0 f1 : Field} {n : Nat} {cs : List Value} {zs : List (List UInt8 × List UInt8)} {p : List MemPlace}
    (ht : P.underlying t = some (.array n e')) (ht' : P.underlying e' = some (.struct #[f0, f1])) (h0 : P.underlying f0.type = some .string) (h1 : P.underlying f1.type = some .string) (hc' : P.cellsOf e' = 2) (hc0 : P.cellsOf f0.type = 1) (hc1 : P.cellsOf f1.type = 1) (o0 : f0.offset = 0) (o1 : f1.offset = 1)
    (h : DataW.trod enc P w base sp held fuel t cs = some (.agg (zs.map fun r => .agg [.lit (.string r.1), .lit (.string r.2)]), p)) :
    ∀ (i : Nat) (r : List UInt8 × List UInt8), zs[i]? = some r → ∃ u v : ByteArray, cs[i * 2]? = some (Value.string u) ∧ cs[i * 2 + 1]? = some (Value.string v) ∧ u.data.toList = r.1 ∧ v.data.toList = r.2 := by
  obtain ⟨xs, q, _, ex, _, hl, hel⟩ := DataW.trod_array ht h
  intro i r hr
  have e3 : (xs.map (·.1)) = zs.map fun r => .agg [.lit (.string r.1), .lit (.string r.2)] := (DataW.agg.inj (Prod.mk.inj ex).1).symm
  have e4 : (xs.map (·.1))[i]? = (zs.map fun r => (DataW.agg [.lit (.string r.1), .lit (.string r.2)] : DataW H))[i]? := by rw [e3]
  rw [List.getElem?_map, List.getElem?_map, hr] at e4
  have hi : i < xs.length := by
    refine Nat.lt_of_not_le fun hn => ?_
    rw [List.getElem?_eq_none hn] at e4
    cases e4
  have hE := hel i (by omega)
  rw [hc', List.getElem?_eq_getElem hi] at hE
  rw [List.getElem?_eq_getElem hi] at e4
  obtain ⟨y0, y1, m, hx, _, hy0, hy1⟩ := trod_struct2 ht' hE
  rw [hx] at e4
  have e5 : y0.1 = .lit (.string r.1) ∧ y1.1 = .lit (.string r.2) := by simpa using e4
  rw [hc0, o0] at hy0
  rw [hc1, o1] at hy1
  obtain ⟨u, hu, hu2, _⟩ := DataW.trod_string h0 hy0
  obtain ⟨v, hv, hv2, _⟩ := DataW.trod_string h1 hy1
  refine ⟨u, v, ?_, ?_, ?_, ?_⟩
  · have : ((((cs.drop (i * 2)).take 2).drop 0).take 1)[0]? = some (Value.string u) := by rw [hu]; rfl
    simpa using this
  · have : ((((cs.drop (i * 2)).take 2).drop 1).take 1)[0]? = some (Value.string v) := by rw [hv]; rfl
    simpa using this
  · have := e5.1; rw [hu2] at this; simpa using this
  · have := e5.2; rw [hv2] at this; simpa using this
/-- The listed variables: without, and with, what printing a number takes. -/
def laid5 : List (String × DataW Unit) := [("unicode/utf8.acceptRanges", Rows.laid_unicode_utf8_acceptRanges), ("pointillist/dec.follows", Rows.laid_pointillist_dec_follows), ("pointillist/scan.isBlank", Rows.laid_pointillist_scan_isBlank), ("pointillist/path.rows", Rows.laid_pointillist_path_rows), ("unicode/utf8.first", Rows.laid_unicode_utf8_first)]
def rowZ : List (List UInt8 × List UInt8) := (List.range 6).map fun i => ((letR i).data.toList, (kinR i).data.toList)
theorem rows_of {W : World} {t : TypeId} {cs : Array Value} {fuel : Nat} {sp : Nat → Bool} {base : Nat} {p : List MemPlace} {g : Nat} (hg : Tryz.prog.globalNamed "pointillist/path.rows" = some g) (ht : (Tryz.prog.globals[g]?).map (·.type) = some t) (hv : W.var? Tryz.prog "pointillist/path.rows" = some cs)
    (hd : DataW.trod (fun _ => ()) Tryz.prog W base sp false fuel t cs.toList = some (Rows.laid_pointillist_path_rows, p)) : Rws W := by
  obtain rfl := Option.some.inj ((show Tryz.prog.globalNamed "pointillist/path.rows" = some 1 by kernel_rfl).symm.trans hg)
  obtain rfl := Option.some.inj ((show (Tryz.prog.globals[1]?).map (·.type) = some 225 by kernel_rfl).symm.trans ht)
  have hr := rows_strs (zs := rowZ) (e' := 224) (n := 6) (by kernel_rfl) Tryz.underlying224 (by kernel_rfl) (by kernel_rfl) (by kernel_rfl) (by kernel_rfl) (by kernel_rfl) rfl rfl (hd.trans (by congr 2))
  intro i hi
  have hz : rowZ[i]? = some ((letR i).data.toList, (kinR i).data.toList) := by unfold rowZ; rw [List.getElem?_map, List.getElem?_range hi]; rfl
  obtain ⟨u, v, h0, h1, e0, e1⟩ := hr i _ hz
  have eb : ∀ a b : ByteArray, a.data.toList = b.data.toList → a = b := fun a b h => ByteArray.ext (Array.ext' h)
  rw [eb u _ e0] at h0
  rw [eb v _ e1] at h1
  rw [World.var?_cell hg hv (2 * i), World.var?_cell hg hv (2 * i + 1)]
  rw [show i * 2 = 2 * i from Nat.mul_comm _ _] at h0 h1
  exact ⟨by simpa using h0, by simpa using h1⟩
theorem ptabs_of {W : World} (h : laidMetH Tryz.prog laid5 W) (hs : W.ShapedOpen Tryz.prog) : PTabs W := by
  rw [MakeChecks.laidMetH_plain _ _ _ (by kernel_rfl)] at h
  obtain ⟨ps, ⟨_, _, _, _, _, _, _, _, _, _, ⟨g, t, cs, fuel, p, q, hg, ht, hv, hd, ⟨g', t', cs', fuel', p', q', hg', ht', hv', hd', ⟨g2, t2, cs2, fuel2, p2, q2, hg2, ht2, hv2, hd2, _, _⟩, _⟩, _⟩, _⟩, _, _⟩ := h
  exact ⟨⟨⟨follows_of hg ht hv hd, someMax_of hs, size_of hs⟩, blks_of hg' ht' hv' hd'⟩, rows_of hg2 ht2 hv2 hd2⟩
end Go.Proofs.YtbjabclgekkpaaaGreatDoor
