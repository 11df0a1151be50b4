/-
  Joined texts: RowV, Mul, Mulz, Pair, Plain, Half, Floor, Near.
-/
import Derived.Test.YtgiibcnakiggaaaDoorJOne
import Derived.Test.YtgiibcnakiggaaaDoorBase
import Derived.Test.YtgiibcnakiggaaaDoorJMath
namespace Go.Proofs.YtgiibcnakiggaaaDoor
open Go.RowKit Go.Shelf

/-- The value is the row of a number. -/
def RowV (v : Value) (x : Nat) (w : World) : Prop := ∃ a cap, v = .slice a (dg x).length cap ∧ Row a (dg x) w ∧ (dg x).length ≤ cap ∧ cap ≤ maxLen
theorem RowV.below {v : Value} {x : Nat} {w w' : World} (h : RowV v x w) {B : Nat} (hb : Below B w w') (hB : w.heap.size ≤ B) : RowV v x w' := by
  obtain ⟨a, cap, h1, h2, h3, h4⟩ := h
  exact ⟨a, cap, h1, h2.below hb hB, h3, h4⟩
theorem RowV.alloc {v : Value} {x : Nat} {w : World} (h : RowV v x w) (o : Obj) : RowV v x (w.alloc o) := h.below ((Below.refl w.heap.size w).alloc (Nat.le_refl _) o) (Nat.le_refl _)
theorem RowV.nil (w : World) : RowV (.slice none 0 0) 0 w := ⟨none, 0, by rw [dg_zero]; rfl, Or.inl dg_zero, by rw [dg_zero]; exact Nat.le_refl _, by simp⟩
theorem dg_one : dg 1 = [1] := by rw [dg_pos 1 (by decide), show 1 / 65536 = 0 from rfl, dg_zero]
theorem RowV.one (w : World) : RowV (.slice (some ⟨w.heap.size, 0, none⟩) 1 1) 1 (w.alloc (.cells #[.int .i64 1] 3)) := by
  refine ⟨_, 1, by rw [dg_one]; rfl, ?_, by rw [dg_one]; exact Nat.le_refl _, by unfold maxLen; omega⟩
  rw [dg_one]
  refine Or.inr ⟨w.heap.size, 0, rfl, by simp, fun i hi => ?_⟩
  have : i = 0 := by simpa using hi
  subst this
  simp

def GivesV (z : Nat) (w : World) (e : Ending) (w' : World) : Prop := ∃ v, e = .returned v ∧ RowV v z w' ∧ Below w.heap.size w w'
theorem GivesRow.toV {z : Nat} {w : World} {e : Ending} {w' : World} (h : GivesRow z w e w') : GivesV z w e w' := by
  obtain ⟨a, cap, h1, h2, h3, h4, h5⟩ := h
  exact ⟨_, h1, ⟨a, cap, rfl, h2, h3, h4⟩, h5⟩

/-- No number here is greater than this. -/
def Big : Nat := 65536 ^ 236
theorem big_len (x : Nat) (h : x ≤ 4 * Big) : (dg x).length ≤ 100000000 := by
  have h1 : 4 * Big < 65536 ^ 237 := by unfold Big; decide
  have := dg_length 237 x (Nat.lt_of_le_of_lt h h1)
  omega

theorem plus_v (v1 v2 : Value) (x y : Nat) (w : World) (b1 : x ≤ 4 * Big) (b2 : y ≤ 4 * Big) (h1 : RowV v1 x w) (h2 : RowV v2 y w) : Calls Tryd.prog 89 #[v1, v2] w (GivesV (x + y) w) := by
  obtain ⟨a, c1, rfl, r1, _, _⟩ := h1
  obtain ⟨b, c2, rfl, r2, _, _⟩ := h2
  exact (plus_any x y a b c1 c2 w (big_len x b1) (big_len y b2) r1 r2).mono fun e w' hg => hg.toV
theorem minus_v (v1 v2 : Value) (x y : Nat) (w : World) (hxy : y ≤ x) (b1 : x ≤ 4 * Big) (h1 : RowV v1 x w) (h2 : RowV v2 y w) : Calls Tryd.prog 97 #[v1, v2] w (GivesV (x - y) w) := by
  obtain ⟨a, c1, rfl, r1, _, _⟩ := h1
  obtain ⟨b, c2, rfl, r2, _, _⟩ := h2
  exact (minus_any x y a b c1 c2 w hxy (big_len x b1) r1 r2).mono fun e w' hg => hg.toV
theorem less_v (v1 v2 : Value) (x y : Nat) (w : World) (b1 : x ≤ 4 * Big) (h1 : RowV v1 x w) (h2 : RowV v2 y w) : Calls Tryd.prog 96 #[v1, v2] w fun e w' => e = .returned (.bool (decide (x < y))) ∧ Below w.heap.size w w' := by
  obtain ⟨a, c1, rfl, r1, _, _⟩ := h1
  obtain ⟨b, c2, rfl, r2, _, _⟩ := h2
  have k := less_any a b (dg x) (dg y) c1 c2 w (small_dg x) (small_dg y) (by have := big_len x b1; omega) r1 r2
  rw [less_dg] at k
  exact k.mono fun e w' ⟨he, n, hw⟩ => ⟨he, by subst hw; exact ⟨rfl, rfl, rfl, Nat.le_refl _, fun _ _ => rfl⟩⟩

theorem own_below {w w' : World} {B : Nat} {v : Value} {n : Nat} {xs : List Value} (h : w.ownsRow B 3 1 v n xs) (hb : Below w.heap.size w w') : w'.ownsRow B 3 1 v n xs :=
  h.kept (row := none) ⟨hb.os, hb.tape, hb.output, hb.size, fun k hk _ => hb.block k hk⟩ (by cases hv : v.ownBlock with | none => exact Or.inl rfl | some q => exact Or.inr (by simp))

/-- A row that lies in a block that stays. -/
theorem RowV.stays {v : Value} {x : Nat} {w w' : World} (h : RowV v x w) {g : Nat} (hg : v.ownBlock = some g) (hs : w.heap.size ≤ w'.heap.size) (hb : w'.heap[g]? = w.heap[g]?) : RowV v x w' := by
  obtain ⟨a, cap, rfl, hr, h3, h4⟩ := h
  refine ⟨a, cap, rfl, ?_, h3, h4⟩
  rcases hr with hr | ⟨b, off, rfl, hlt, hc⟩
  · exact Or.inl hr
  · have : b = g := by simpa [Value.ownBlock] using hg
    subst this
    exact Or.inr ⟨b, off, rfl, by omega, fun i hi => (World.cell?_of_block (w := w) (a := ⟨b, off + i, none⟩) hb).trans (hc i hi)⟩

theorem RowV.zero {v : Value} {w : World} (h : RowV v 0 w) : ∃ a cap, v = .slice a 0 cap := by
  obtain ⟨a, cap, h1, _⟩ := h
  rw [dg_zero] at h1
  exact ⟨a, cap, h1⟩
theorem RowV.posn {v : Value} {x : Nat} {w : World} (h : RowV v x w) (hx : x ≠ 0) : ∃ a n cap, v = .slice a (n + 1) cap ∧ n ≤ 1000000000000 + n := by
  obtain ⟨a, cap, h1, _⟩ := h
  rw [dg_pos x hx] at h1
  exact ⟨a, _, cap, h1, by omega⟩
theorem own_len {w : World} {B : Nat} {v : Value} {n : Nat} {xs : List Value} (h : w.ownsRow B 3 1 v n xs) : lenOf v = n := by
  rcases h.2 with ⟨rfl, rfl⟩ | ⟨g, cap, cur, rfl, _⟩ <;> rfl

/-- A result that is a number, stored at last. -/
theorem num_close {f : Func} (hres : f.results = #[ResultVar.cell 4 105]) {w wf : World} {r N : Nat} {neg b0 : Bool} {x a' : Option Addr} {n c cap' : Nat} {ts : Array Value}
    (NA : NumAt r b0 (.slice x n c) wf) (hB : Below w.heap.size w wf) (hr : w.heap.size ≤ r) (F : Row a' (dg N) wf ∧ (dg N).length ≤ cap' ∧ cap' ≤ maxLen) (hts : ts[4]? = some (.pointer (some ⟨r, 0, none⟩))) :
    bodyPost Tryd.prog f (GivesNum neg N w) Exit.ret { tmps := ts, defers := [] } ((wf.setCell ⟨r, 0, none⟩ (.bool neg)).setCell ⟨r, 1, none⟩ (.slice a' (dg N).length cap')) := by
  have F1 := NA.set (neg' := neg) (s' := .slice a' (dg N).length cap')
  refine bodyPost_ret (v := .agg #[.bool neg, .slice a' (dg N).length cap']) (by simp [results, hres, go_sem, F1.c0, F1.c1, hts]) rfl ⟨a', cap', rfl, F.1.far NA, F.2.1, F.2.2, ?_⟩
  exact Below.setCell (Below.setCell hB hr _) hr _

theorem num_close' {f : Func} (hres : f.results = #[ResultVar.cell 4 105]) {w wf : World} {r N n' : Nat} {neg b0 : Bool} {x a' : Option Addr} {n c cap' : Nat} {ts : Array Value} (hn : n' = (dg N).length)
    (NA : NumAt r b0 (.slice x n c) wf) (hB : Below w.heap.size w wf) (hr : w.heap.size ≤ r) (F : Row a' (dg N) wf ∧ (dg N).length ≤ cap' ∧ cap' ≤ maxLen) (hts : ts[4]? = some (.pointer (some ⟨r, 0, none⟩))) :
    bodyPost Tryd.prog f (GivesNum neg N w) Exit.ret { tmps := ts, defers := [] } ((wf.setCell ⟨r, 0, none⟩ (.bool neg)).setCell ⟨r, 1, none⟩ (.slice a' n' cap')) := by
  subst hn
  exact num_close hres NA hB hr F hts
end Go.Proofs.YtgiibcnakiggaaaDoor
namespace Go.Proofs.YtgiibcnakiggaaaDoor
open Go.RowKit Go.Shelf

theorem below_drewN (B : Nat) (w : World) (n : Nat) : Below B w (w.drewN n) := ⟨rfl, rfl, rfl, Nat.le_refl _, fun _ _ => rfl⟩

theorem val_zeros (n : Nat) : val (List.replicate n 0) = 0 := by
  induction n with
  | zero => rfl
  | succ n ih => rw [List.replicate_succ, val, ih]

/-- One digit of one row of the product. -/
theorem mul_step (os ys : List Nat) (i k p cy s : Nat) (hl : os.length = i + k) (h : val os + 65536 ^ (i + k) * cy = 65536 ^ i * (p * val (ys.take k))) (hs : s = cy + p * ys.getD k 0) :
    val (os ++ [s % 65536]) + 65536 ^ (i + k + 1) * (s / 65536) = 65536 ^ i * (p * val (ys.take (k + 1))) := by
  rw [val_snoc, val_take', hl, Nat.pow_succ]
  have e : 65536 ^ (i + k) * s = 65536 ^ (i + k) * (s % 65536) + 65536 ^ (i + k) * 65536 * (s / 65536) := by
    rw [Nat.mul_assoc, ← Nat.mul_add, Nat.mod_add_div]
  have e2 : 65536 ^ (i + k) * s = 65536 ^ (i + k) * cy + 65536 ^ i * (p * (65536 ^ k * ys.getD k 0)) := by
    rw [hs, Nat.mul_add, Nat.pow_add, Nat.mul_assoc, Nat.mul_assoc, Nat.mul_left_comm p]
  rw [Nat.mul_add p, Nat.mul_add]
  omega

/-- What Mul's inner loop keeps. -/
def MulInv (ys : List Nat) (i p B : Nat) (w : World) (v c kv : Value) (wr : World) : Prop :=
  ∃ (k cy : Nat) (os : List Nat), kv = .int .i64 (k : Int) ∧ c = .int .i64 (cy : Int) ∧ os.length = i + k ∧ Small os ∧ cy ≤ 65535 ∧ wr.ownsRow B 3 1 v (i + k) (cellsN os) ∧ Below B w wr ∧
    val os + 65536 ^ (i + k) * cy = 65536 ^ i * (p * val (ys.take k)) ∧ (k ≤ ys.length ∨ k = ys.length + 1 ∧ cy = 0)

theorem mul_next (ys os : List Nat) (i p B : Nat) (w wr w1 : World) (k cy s : Nat) (t : Int) (v' : Value) (hy : Small ys) (hp : p ≤ 65535) (hl : os.length = i + k) (ho : Small os) (hc : cy ≤ 65535)
    (hb : Below B w wr) (hv : val os + 65536 ^ (i + k) * cy = 65536 ^ i * (p * val (ys.take k))) (hk : k ≤ ys.length ∨ k = ys.length + 1 ∧ cy = 0)
    (hs : s = cy + p * ys.getD k 0) (ht : t = (s : Int))
    (hown : w1.ownsRow B 3 1 v' (i + k + 1) (cellsN os ++ [.int .i64 (t % 65536)])) (hb1 : Below B wr w1) (hgo : k < ys.length ∨ cy ≠ 0) :
    MulInv ys i p B w v' (.int .i64 (t / 65536)) (.int .i64 ((k : Int) + 1)) w1 := by
  subst ht
  have g2 := small_get hy k
  have hm : p * ys.getD k 0 ≤ 65535 * 65535 := Nat.mul_le_mul hp (by omega)
  refine ⟨k + 1, s / 65536, os ++ [s % 65536], by rw [show (k : Int) + 1 = ((k + 1 : Nat) : Int) from by omega], rfl, by simp [hl]; omega, small_snoc ho (by omega), by omega, by rw [cellsN_snoc]; exact hown, hb.trans hb1, mul_step os ys i k p cy s hl hv hs, ?_⟩
  by_cases h2 : k < ys.length
  · left; omega
  · rw [getD_past ys k h2, Nat.mul_zero] at hs
    right; omega

/-- What Mul's outer loop keeps. -/
def MulOut (xs : List Nat) (y : Nat) (w : World) (o iv : Value) (wr : World) : Prop :=
  ∃ i : Nat, i ≤ xs.length ∧ iv = .int .i64 (i : Int) ∧ RowV o (val (xs.take i) * y) wr ∧ Below w.heap.size w wr

theorem prod_dg (x y i : Nat) (h : x * y ≤ Big) : val ((dg x).take i) * y ≤ 4 * Big := by
  have h1 : val ((dg x).take i) ≤ x := by
    conv => rhs; rw [← val_dg x, ← List.take_append_drop i (dg x)]
    rw [val_append]; omega
  have := Nat.mul_le_mul_right y h1
  omega
theorem row_dg (x y i : Nat) (h : x * y ≤ Big) : 65536 ^ i * ((dg x).getD i 0 * y) ≤ 4 * Big := by
  have h1 : val ((dg x).take (i + 1)) ≤ x := by
    conv => rhs; rw [← val_dg x, ← List.take_append_drop (i + 1) (dg x)]
    rw [val_append]; omega
  rw [val_take'] at h1
  have := Nat.mul_le_mul_right y (show 65536 ^ i * (dg x).getD i 0 ≤ x by omega)
  rw [Nat.mul_assoc] at this
  omega

set_option maxHeartbeats 4000000 in
set_option maxRecDepth 100000 in
theorem mul_any (n m : Bool) (x y : Nat) (a b : Option Addr) (c1 c2 : Nat) (w : World) (hxy : x * y ≤ Big) (bx : x ≤ Big) (by' : y ≤ Big) (h1 : Row a (dg x) w) (h2 : Row b (dg y) w) :
    Calls Tryd.prog 72 #[.agg #[.bool n, .slice a (dg x).length c1], .agg #[.bool m, .slice b (dg y).length c2]] w (GivesNum (n != m) (x * y) w) := by
  have l1 := big_len x (by omega)
  have l2 := big_len y (by omega)
  have H1 := Lib.hid (((h1.alloc (.cells #[.bool n, .slice a (dg x).length c1] 105)).alloc (.cells #[.bool m, .slice b (dg y).length c2] 105)).alloc (.cells #[.bool false, .slice none 0 0] 105))
  have H2 := Lib.hid (((h2.alloc (.cells #[.bool n, .slice a (dg x).length c1] 105)).alloc (.cells #[.bool m, .slice b (dg y).length c2] 105)).alloc (.cells #[.bool false, .slice none 0 0] 105))
  have N1 := Lib.hid (((NumAt.new w n (.slice a (dg x).length c1)).alloc (.cells #[.bool m, .slice b (dg y).length c2] 105)).alloc (.cells #[.bool false, .slice none 0 0] 105))
  have N2 := Lib.hid ((NumAt.new (w.alloc (.cells #[.bool n, .slice a (dg x).length c1] 105)) m (.slice b (dg y).length c2)).alloc (.cells #[.bool false, .slice none 0 0] 105))
  rw [show (w.alloc (.cells #[.bool n, .slice a (dg x).length c1] 105)).heap.size = w.heap.size + 1 from by simp] at N2
  have N3 := Lib.hid (NumAt.new3 w (.cells #[.bool n, .slice a (dg x).length c1] 105) (.cells #[.bool m, .slice b (dg y).length c2] 105) 0)
  have BW := Lib.hid (below3 w (.cells #[.bool n, .slice a (dg x).length c1] 105) (.cells #[.bool m, .slice b (dg y).length c2] 105) (.cells #[.bool false, .slice none 0 0] 105) 0)
  have HP := Lib.hid (fun i => And.intro (prod_dg x y i hxy) (row_dg x y i hxy))
  have HV := Lib.hid (And.intro (val_dg x) (val_dg y))
  have HX := Lib.hid (small_dg x)
  have HY := Lib.hid (small_dg y)
  clear h1 h2 hxy bx by'
  generalize dg x = xs at *
  generalize dg y = ys at *
  go_enter Tryd.func72, Tryd.ntmps72
  go_wp2_with fail
  rw [show World.drewN (((w.alloc (.cells #[.bool n, .slice a xs.length c1] 105)).alloc (.cells #[.bool m, .slice b ys.length c2] 105)).alloc (.cells #[.bool false, .slice none 0 0] 105)) 0 = ((w.alloc (.cells #[.bool n, .slice a xs.length c1] 105)).alloc (.cells #[.bool m, .slice b ys.length c2] 105)).alloc (.cells #[.bool false, .slice none 0 0] 105) from rfl] at N3 BW
  generalize ((w.alloc (.cells #[.bool n, .slice a xs.length c1] 105)).alloc (.cells #[.bool m, .slice b ys.length c2] 105)).alloc (.cells #[.bool false, .slice none 0 0] 105) = W0 at *
  go_loopw [5, 6] (fun o i wr => MulOut xs y W0 o i wr) (fun _ i _ => xs.length - natOf i)
  case atStart => exact ⟨0, Nat.zero_le _, rfl, by rw [List.take_zero, val, Nat.zero_mul]; exact RowV.nil _, Below.refl _ _⟩
  case round =>
    obtain ⟨i, hi, rfl, ho, hB⟩ := hrel
    have NA := N1.out.below hB N1.out.lt
    have NB := N2.out.below hB N2.out.lt
    have n1 := NA.c1
    by_cases hlt : i < xs.length
    · obtain ⟨W1, rfl⟩ : ∃ W1, W1 = wr := ⟨_, rfl⟩
      obtain ⟨ba, oa, rfl, hba, hca⟩ := (H1.out.below hB (Nat.le_refl _)).pos hlt
      have ga := hca i hlt
      have sp := small_get HX.out i
      have HOUT := Lib.hid ho
      have HB := Lib.hid hB
      have HNA := Lib.hid NA
      have HNB := Lib.hid NB
      have HRB := Lib.hid (H2.out.below hB (Nat.le_refl _))
      have HST := Lib.hid (val_take' xs i)
      have HP1 := Lib.hid (HP.out i)
      clear hca ho hB NA NB
      generalize xs.getD i 0 = p at *
      go_wp2_with (first | (at_make; refine make_zeros _ rfl _ _ rfl i _ rfl rfl rfl (by omega) ?_; intro w0 hown0 hb0))
      have HO0 := Lib.hid hown0
      have HB0 := Lib.hid hb0
      clear hown0 hb0
      go_loopw [7, 8, 9] (fun v c kv w2 => MulInv ys i p W1.heap.size W1 v c kv w2) (fun _ _ kv _ => ys.length + 1 - natOf kv)
      case atStart => exact ⟨0, 0, List.replicate i 0, rfl, rfl, by simp, small_zeros _, by omega, HO0.out, HB0.out, by rw [val_zeros]; simp [val], by left; omega⟩
      case round =>
        obtain ⟨k, cy, os, rfl, rfl, hl, hs, hc, hown, hb, hv, hk⟩ := hrel
        have HNX := Lib.hid (fun s t v' w1 => mul_next ys os i p W1.heap.size W1 wr w1 k cy s t v' HY.out (by omega) hl hs hc hb hv hk)
        have HL := Lib.hid hl
        have HV2 := Lib.hid hv
        have HK := Lib.hid hk
        have kb : k ≤ ys.length + 1 := by omega
        have hsz := hb.size
        have HO := Lib.hid hown
        have HB2 := Lib.hid hb
        have HS := Lib.hid hs
        have nb1 := (hb.cell (p := ⟨w.heap.size + 1, 1, none⟩) HNB.out.lt).trans HNB.out.c1
        have na1 := (hb.cell (p := ⟨w.heap.size, 1, none⟩) HNA.out.lt).trans HNA.out.c1
        have ga2 := (hb.cell (p := ⟨ba, oa + i, none⟩) hba).trans ga
        clear hl hv hown hb hk hs
        have i2 : (cy : Int) ≤ 65535 := by omega
        have ip : (p : Int) ≤ 65535 := by omega
        by_cases g2 : k < ys.length
        · obtain ⟨b2, o2, rfl, q2, hc2⟩ := (HRB.out.below HB2.out (Nat.le_refl _)).pos g2
          have e2 := hc2 k g2
          have s2 := small_get HY.out k
          clear hc2
          generalize ys.getD k 0 = q at *
          have i3 : (q : Int) ≤ 65535 := by omega
          have hm : p * q ≤ 65535 * 65535 := Nat.mul_le_mul (by omega) (by omega)
          have hm1 : (p : Int) * q ≤ 4294836225 := by rw [Mul64.mulN]; omega
          have hm0 : 0 ≤ (p : Int) * q := by rw [Mul64.mulN]; omega
          clear hm
          go_wp2_with fail
          go_quiet (fail)
          have HO3 := Lib.hid (show (wr.drewN nq).ownsRow _ _ _ _ _ _ from HO.out)
          have HB3 := Lib.hid (below_drewN W1.heap.size wr nq)
          have hsz3 : W1.heap.size ≤ (wr.drewN nq).heap.size := hsz
          generalize wr.drewN nq = w3 at *
          go_wp2_with (first | (at_builtin; refine append_digit _ rfl (.tmp 50) (.tmp 53) rfl _ HO3.out rfl rfl (by omega) (by omega) ?_; intro v' w1 hown' hb'))
          go_roundw
          case rel => exact HNX.out (cy + p * q) _ _ _ rfl (by rw [Mul64.mulN]; omega) hown' (HB3.out.trans hb') (Or.inl g2)
          case measure => simp [natOf]; omega
        · have s2 := Lib.hid (getD_past ys k g2)
          by_cases gc : cy = 0
          · subst gc
            obtain ⟨W2, rfl⟩ : ∃ W2, W2 = wr := ⟨_, rfl⟩
            have hl := HL.out
            have hown2 := HO.out
            rw [← hl] at hown2
            obtain ⟨a', cap', hu, t, fin, _⟩ := own_trims' (w := W1) hown2 HS.out HB2.out
            rw [hl] at hu t
            subst hu
            have ev : val os = 65536 ^ i * (p * y) := by
              have := HV2.out
              rw [val_take_all ys _ (by omega), HV.out.2] at this
              simpa using this
            rw [ev] at t fin
            have T := Lib.hid t
            have HR1 := Lib.hid (show RowV (.slice a' (dg (65536 ^ i * (p * y))).length cap') _ W2 from ⟨a', cap', rfl, fin⟩)
            have HO2 := Lib.hid (HOUT.out.below HB2.out (Nat.le_refl _))
            have P := Lib.hid (plus_v _ _ _ _ W2 HP1.out.1 HP1.out.2 HO2.out HR1.out)
            have EQ := Lib.hid (show val (List.take i xs) * y + 65536 ^ i * (p * y) = val (List.take (i + 1) xs) * y by rw [HST.out, Nat.add_mul, Nat.mul_assoc])
            clear t fin ev hown2 hl
            go_wp2_with fail
            refine T.out.mono ?_
            rintro e w3 ⟨rfl, rfl⟩
            go_wp2_with fail
            refine P.out.mono ?_
            rintro e w4 ⟨v4, rfl, hv4, b4⟩
            rw [EQ.out] at hv4
            go_wp2_with fail
            go_roundw
            case rel => exact ⟨i + 1, by omega, by go_num, hv4, (HB.out.trans (HB2.out.mono HB.out.size)).trans (b4.mono (Nat.le_trans HB.out.size HB2.out.size))⟩
            case measure => simp [natOf]; omega
          · have hcp : 0 < (cy : Int) := by omega
            have kb2 : k ≤ ys.length := by have := HK.out; omega
            go_wp2_with (first | (at_builtin; refine append_digit _ rfl (.tmp 50) (.tmp 53) rfl _ HO.out rfl rfl (by omega) (by omega) ?_; intro v' w1 hown' hb'))
            go_roundw
            case rel => exact HNX.out cy _ _ _ (by rw [s2.out, Nat.mul_zero]; rfl) rfl hown' hb' (Or.inr gc)
            case measure => simp [natOf]; omega
    · obtain rfl : i = xs.length := by omega
      have NR := N3.out.below hB N3.out.lt
      have n0 := NA.c0; have m0 := NB.c0
      have r0 := NR.c0; have r1 := NR.c1; have y0 := NR.z0; have y1 := NR.z1
      rw [List.take_length, HV.out.1] at ho
      obtain ⟨aq, cq, rfl, hqr⟩ := ho
      have HQR := Lib.hid hqr
      have HNR := Lib.hid NR
      have HB2 := Lib.hid (BW.out.trans (hB.mono BW.out.size))
      clear NA NB NR hqr hB
      cases n <;> cases m
      all_goals
        go_wp2_with fail
        exact num_close Tryd.results72 HNR.out HB2.out (by omega) HQR.out rfl
end Go.Proofs.YtgiibcnakiggaaaDoor
namespace Go.Proofs.YtgiibcnakiggaaaDoor
open Go.RowKit Go.Shelf
theorem fair_big (z : Int) (h : z.natAbs ≤ 4 * Big) : Fair z := by
  unfold Fair
  have h6 : (65536 : Nat) ^ 237 ≤ 65536 ^ 246 := Nat.pow_le_pow_right (n := 65536) (by decide) (by decide)
  refine Nat.lt_of_lt_of_le (Nat.lt_of_le_of_lt h ?_) h6
  unfold Big; decide

theorem NumV.mk {neg : Bool} {x : Nat} {a : Option Addr} {cap : Nat} {w : World} (h : RowV (.slice a (dg x).length cap) x w) : NumV (.agg #[.bool neg, .slice a (dg x).length cap]) (sgn neg x) w := by
  obtain ⟨a', cap', e, h1, h2, h3⟩ := h
  obtain ⟨rfl, rfl⟩ : a = a' ∧ cap = cap' := by simpa using e
  exact ⟨neg, x, a, cap, rfl, h1, h2, h3, rfl⟩

theorem mulz (v1 v2 : Value) (z1 z2 : Int) (w : World) (hb : (z1 * z2).natAbs ≤ Big) (b1 : z1.natAbs ≤ Big) (b2 : z2.natAbs ≤ Big) (h1 : NumV v1 z1 w) (h2 : NumV v2 z2 w) :
    Calls Tryd.prog 72 #[v1, v2] w (GivesZ (z1 * z2) w) := by
  obtain ⟨n, x, a, c1, rfl, r1, _, _, rfl⟩ := h1
  obtain ⟨m, y, b, c2, rfl, r2, _, _, rfl⟩ := h2
  rw [Int.natAbs_mul, sgn_natAbs, sgn_natAbs] at hb
  rw [sgn_natAbs] at b1 b2
  refine (mul_any n m x y a b c1 c2 w hb b1 b2 r1 r2).mono fun e w' hg => ?_
  have := hg.toZ
  rwa [show sgn (n != m) (x * y) = sgn n x * sgn m y from by cases n <;> cases m <;> simp [sgn, Int.neg_mul, Int.mul_neg]] at this

theorem num_closeZ {f : Func} (hres : f.results = #[ResultVar.cell 4 105]) {w wf : World} {r N : Nat} {neg b0 : Bool} {x a' : Option Addr} {n c cap' : Nat} {ts : Array Value} {z : Int}
    (NA : NumAt r b0 (.slice x n c) wf) (hB : Below w.heap.size w wf) (hr : w.heap.size ≤ r) (F : Row a' (dg N) wf ∧ (dg N).length ≤ cap' ∧ cap' ≤ maxLen) (hz : z = sgn neg N) (hts : ts[4]? = some (.pointer (some ⟨r, 0, none⟩))) :
    bodyPost Tryd.prog f (GivesZ z w) Exit.ret { tmps := ts, defers := [] } ((wf.setCell ⟨r, 0, none⟩ (.bool neg)).setCell ⟨r, 1, none⟩ (.slice a' (dg N).length cap')) := by
  have F1 := NA.set (neg' := neg) (s' := .slice a' (dg N).length cap')
  refine bodyPost_ret (v := .agg #[.bool neg, .slice a' (dg N).length cap']) (by simp [results, hres, go_sem, F1.c0, F1.c1, hts]) rfl ⟨_, rfl, ⟨neg, N, a', cap', rfl, F.1.far NA, F.2.1, F.2.2, hz⟩, ?_⟩
  exact Below.setCell (Below.setCell hB hr _) hr _
end Go.Proofs.YtgiibcnakiggaaaDoor
namespace Go.Proofs.YtgiibcnakiggaaaDoor
open Go.RowKit Go.Shelf

/-- Does it fit? And the number that is told. -/
def fits (v : Int) : Bool := decide (-9223372036854775808 ≤ v ∧ v ≤ 9223372036854775807)
def told (v : Int) : Int := if fits v then v else 0
def Pair (v : Int) : Value := .tuple #[.int .i64 (told v), .bool (fits v)]

theorem near_bound (v : Int) (d : Nat) (hd : 0 < d) (h0 : -170141183460469231731687303715884105728 ≤ v) (h1 : v + (d : Int) / 2 < 170141183460469231731687303715884105728) :
    -170141183460469231731687303715884105728 ≤ near v d ∧ near v d < 170141183460469231731687303715884105728 := by
  unfold near
  generalize hu : v + (d : Int) / 2 = u at *
  have hu0 : -170141183460469231731687303715884105728 ≤ u := by omega
  constructor
  · rw [Int.le_ediv_iff_mul_le (by omega)]
    have : (-170141183460469231731687303715884105728 : Int) * d ≤ -170141183460469231731687303715884105728 * 1 := Int.mul_le_mul_of_nonpos_left (by decide) (by omega)
    omega
  · rw [Int.ediv_lt_iff_lt_mul (by omega)]
    have : (170141183460469231731687303715884105728 : Int) * 1 ≤ 170141183460469231731687303715884105728 * d := Int.mul_le_mul_of_nonneg_left (by omega) (by decide)
    omega

/-- What MulDiv tells. -/
def muldiv (a b c : Int) : Int := if 0 < c then near (a * b) c.natAbs else near (-(a * b)) c.natAbs

/-- The nearest whole number to the sum of two products by 2^s. -/
def dot (a b c d : Int) (s : Nat) : Int := near (a * b + c * d) (2 ^ s)

theorem pair_bad {x : Int} (h : fits x = false) : Pair x = .tuple #[.int .i64 0, .bool false] := by
  unfold Pair told; rw [h]; rfl

theorem fits_i64 {a : Int} (h : I64 a) : fits a = true := decide_eq_true h

theorem told_i64 {a : Int} (h : I64 a) : told a = a := by unfold told; rw [if_pos (fits_i64 h)]

theorem pair_i64 {a : Int} (h : I64 a) : Pair a = .tuple #[.int .i64 a, .bool true] := by unfold Pair; rw [told_i64 h, fits_i64 h]

theorem dot_comm (a b : Int) (s : Nat) : dot b a 0 0 s = dot a b 0 0 s := by unfold dot; rw [Int.mul_comm b a]

/-- A product divided by one of its factors is the other one. -/
theorem muldiv_back (a b : Int) (h : b ≠ 0) : muldiv a b b = a := by
  unfold muldiv near
  by_cases h1 : 0 < b
  · rw [if_pos h1, show (b.natAbs : Int) = b from by omega, Int.add_comm, Int.add_mul_ediv_right _ _ h, Int.ediv_eq_zero_of_lt (by omega) (by omega)]
    omega
  · rw [if_neg h1, show (b.natAbs : Int) = -b from by omega, ← Int.mul_neg, Int.add_comm, Int.add_mul_ediv_right _ _ (by omega), Int.ediv_eq_zero_of_lt (by omega) (by omega)]
    omega
end Go.Proofs.YtgiibcnakiggaaaDoor
namespace Go.Proofs.YtgiibcnakiggaaaDoor
open Go.RowKit Go.Shelf

theorem val_drop (zs : List Nat) (m : Nat) (h : m < zs.length) : val (zs.drop m) = zs.getD m 0 + 65536 * val (zs.drop (m + 1)) := by
  rw [List.drop_eq_getElem_cons h, val, List.getD_eq_getElem?_getD, List.getElem?_eq_getElem h]; rfl
theorem val_drop_le (zs : List Nat) (m : Nat) : val (zs.drop m) ≤ val zs := by
  conv => rhs; rw [← List.take_append_drop m zs]
  rw [val_append]
  have := Nat.le_mul_of_pos_left (val (zs.drop m)) (Nat.pow_pos (n := (zs.take m).length) (show 0 < 65536 by decide))
  omega

theorem fits_no (neg : Bool) (x : Nat) (h : 9223372036854775808 < x) : Pair (sgn neg x) = .tuple #[.int .i64 0, .bool false] := by
  refine pair_bad ?_
  unfold fits
  simp only [decide_eq_false_iff_not]
  cases neg <;> simp [sgn] <;> omega
theorem dg_long (x : Nat) (h : 4 < (dg x).length) : 9223372036854775808 < x := by
  refine Nat.lt_of_not_le fun hle => ?_
  have := dg_length 4 x (by omega)
  omega

set_option maxHeartbeats 2000000 in
theorem plain_any (neg : Bool) (x : Nat) (a : Option Addr) (cap : Nat) (w : World) (h : Row a (dg x) w) (hl : (dg x).length ≤ 100000000) :
    Calls Tryd.prog 74 #[.agg #[.bool neg, .slice a (dg x).length cap]] w fun e w' => e = .returned (Pair (sgn neg x)) ∧ Below w.heap.size w w' := by
  by_cases h4 : 4 < (dg x).length
  · rw [fits_no neg x (dg_long x h4)]
    clear h
    generalize (dg x).length = n at *
    go_enter Tryd.func74, Tryd.ntmps74
    go_wp2_with fail
    go_ret2
    exact ⟨rfl, (Below.refl _ _).alloc (Nat.le_refl _) _⟩
  · have HV := Lib.hid (val_dg x)
    have HS := Lib.hid (small_dg x)
    have HR := Lib.hid (h.alloc (.cells #[.bool neg, .slice a (dg x).length cap] 105))
    have HF := Lib.hid (fits_no neg x)
    clear h hl
    have hd4 : decide (4 < (dg x).length) = false := by simp; omega
    generalize dg x = zs at *
    go_enter Tryd.func74, Tryd.ntmps74
    go_wp2_with fail
    go_loop [4, 5] (fun v i => ∃ k T : Nat, k ≤ zs.length ∧ i = .int .i64 ((k : Int) - 1) ∧ v = .int .i64 (-(T : Int)) ∧ T ≤ 9223372036854775808 ∧ Hid (val (zs.drop k) = T)) (fun _ i => (intOf i + 1).toNat)
    case atStart => exact ⟨zs.length, 0, Nat.le_refl _, rfl, rfl, by omega, by unfold Hid; rw [List.drop_length]; rfl⟩
    case round =>
      obtain ⟨k, T, hk, rfl, rfl, hT, hd⟩ := hrel
      have t0 : (T : Int) ≤ 9223372036854775808 := by omega
      clear hT
      rcases Nat.eq_zero_or_pos k with rfl | hp
      · have ex : T = x := by have e := hd.out; rw [List.drop_zero, HV.out] at e; exact e.symm
        subst ex
        cases neg
        · by_cases hm : (T : Int) = 9223372036854775808
          · have te : (-(T : Int) == -9223372036854775808) = true := by rw [beq_iff_eq]; omega
            have te2 : ((T : Int) == 9223372036854775808) = true := by rw [beq_iff_eq]; omega
            have HP := Lib.hid (show Pair (sgn false T) = .tuple #[.int .i64 0, .bool false] from pair_bad (by unfold fits; simp [sgn]; omega))
            clear hm
            go_wp2_with fail
            go_ret2
            exact ⟨by rw [HP.out]; rfl, (Below.refl _ _).alloc (Nat.le_refl _) _⟩
          · have te : (-(T : Int) == -9223372036854775808) = false := by rw [beq_eq_false_iff_ne]; omega
            have te2 : ((T : Int) == 9223372036854775808) = false := by rw [beq_eq_false_iff_ne]; omega
            have HP := Lib.hid (show Pair (sgn false T) = .tuple #[.int .i64 (T : Int), .bool true] from pair_i64 (by unfold I64; simp [sgn]; omega))
            have t1 : (T : Int) ≤ 9223372036854775807 := by omega
            clear hm
            go_wp2_with fail
            go_ret2
            exact ⟨by rw [HP.out]; rfl, (Below.refl _ _).alloc (Nat.le_refl _) _⟩
        · have HP := Lib.hid (show Pair (sgn true T) = .tuple #[.int .i64 (-(T : Int)), .bool true] from pair_i64 (by unfold I64; simp [sgn]; omega))
          go_wp2_with fail
          go_ret2
          exact ⟨by rw [HP.out]; rfl, (Below.refl _ _).alloc (Nat.le_refl _) _⟩
      · obtain ⟨m, rfl⟩ : ∃ m, k = m + 1 := ⟨k - 1, by omega⟩
        obtain ⟨b1, o1, rfl, q1, hc1⟩ := HR.out.pos (k := m) (by omega)
        have g1 := hc1 m (by omega)
        have HD := Lib.hid (val_drop zs m (by omega))
        have HL := Lib.hid (val_drop_le zs m)
        have s1 := small_get HS.out m
        rw [hd.out] at HD
        clear hc1
        generalize zs.getD m 0 = d at *
        have i1 : (d : Int) ≤ 65535 := by omega
        by_cases b1 : -(T : Int) < -140737488355328
        · have HP := Lib.hid (HF.out (by have := HD.out; have := HL.out; have := HV.out; omega))
          go_wp2_with fail
          go_ret2
          exact ⟨by rw [HP.out]; rfl, (Below.refl _ _).alloc (Nat.le_refl _) _⟩
        · by_cases b2 : -(T : Int) * 65536 < -9223372036854775808 + d
          · have HP := Lib.hid (HF.out (by have := HD.out; have := HL.out; have := HV.out; omega))
            go_wp2_with fail
            go_ret2
            exact ⟨by rw [HP.out]; rfl, (Below.refl _ _).alloc (Nat.le_refl _) _⟩
          · go_wp2_with fail
            go_round
            case rel => exact ⟨m, d + 65536 * T, by omega, rfl, congrArg (Value.int .i64) (by omega), by omega, by unfold Hid; rw [HD.out]⟩
            case measure => simp [intOf]

theorem plain_z (v : Value) (z : Int) (w : World) (f : Fair z) (h : NumV v z w) :
    Calls Tryd.prog 74 #[v] w fun e w' => e = .returned (Pair z) ∧ Below w.heap.size w w' := by
  obtain ⟨n, x, a, c, rfl, r, _, _, rfl⟩ := h
  exact plain_any n x a c w r f.len
end Go.Proofs.YtgiibcnakiggaaaDoor
namespace Go.Proofs.YtgiibcnakiggaaaDoor
open Go.RowKit Go.Shelf

theorem drop_set (zs : List Nat) (m d : Nat) (h : m < zs.length) : (zs.set m d).drop m = d :: zs.drop (m + 1) := by
  rw [List.drop_set, if_neg (by omega), Nat.sub_self, List.drop_eq_getElem_cons h]
  rfl

/-- What half's loop keeps. -/
def HalfInv (ds : List Nat) (w : World) (rv i : Value) (wr : World) : Prop :=
  ∃ (k r : Nat) (zs : List Nat), k ≤ ds.length ∧ i = .int .i64 ((k : Int) - 1) ∧ rv = .int .i64 (r : Int) ∧ r ≤ 1 ∧ zs.length = ds.length ∧ Small zs ∧
    wr.ownsRow w.heap.size 3 1 (.slice (some ⟨w.heap.size, 0, none⟩) ds.length ds.length) ds.length (cellsN zs) ∧ Below w.heap.size w wr ∧ val (ds.drop k) = 2 * val (zs.drop k) + r

theorem half_next (ds : List Nat) (w wr : World) (m r : Nat) (zs : List Nat) (t : Int) (hk : m + 1 ≤ ds.length) (hd : Small ds) (hr : r ≤ 1) (hl : zs.length = ds.length) (hs : Small zs)
    (hown : wr.ownsRow w.heap.size 3 1 (.slice (some ⟨w.heap.size, 0, none⟩) ds.length ds.length) ds.length (cellsN zs)) (hb : Below w.heap.size w wr) (hv : val (ds.drop (m + 1)) = 2 * val (zs.drop (m + 1)) + r)
    (ht : t = ((r * 65536 + ds.getD m 0 : Nat) : Int)) :
    HalfInv ds w (.int .i64 (t % 2)) (.int .i64 ((m : Int) - 1)) (wr.setCell ⟨w.heap.size, m, none⟩ (.int .i64 (t / 2))) := by
  subst ht
  have g := small_get hd m
  have o := (own_set hown hl m ((r * 65536 + ds.getD m 0) / 2) (by omega)).1
  refine ⟨m, (r * 65536 + ds.getD m 0) % 2, zs.set m ((r * 65536 + ds.getD m 0) / 2), by omega, rfl, rfl, by omega, by simpa using hl, ?_, o, hb.setCell (Nat.le_refl _) _, ?_⟩
  · intro z hz
    rcases List.mem_or_eq_of_mem_set hz with hz | hz
    · exact hs z hz
    · subst hz; omega
  · rw [val_drop ds m (by omega), drop_set zs m _ (by omega), val, hv]
    omega


/-- What half leaves. -/
def GivesHalf (x : Nat) (w : World) (e : Ending) (w' : World) : Prop :=
  ∃ a cap, a = some ⟨w.heap.size, 0, none⟩ ∧ e = .returned (.tuple #[.slice a (dg (x / 2)).length cap, .int .i64 ((x % 2 : Nat) : Int)]) ∧ Row a (dg (x / 2)) w' ∧ (dg (x / 2)).length ≤ cap ∧ cap ≤ maxLen ∧ Below w.heap.size w w' ∧ w.heap.size < w'.heap.size

set_option maxHeartbeats 2000000 in
theorem half_any (x : Nat) (a : Option Addr) (c : Nat) (w : World) (hl : (dg x).length ≤ 100000000) (h : Row a (dg x) w) :
    Calls Tryd.prog 98 #[.slice a (dg x).length c] w (GivesHalf x w) := by
  have HV := Lib.hid (val_dg x)
  have HX := Lib.hid (small_dg x)
  have H1 := Lib.hid h
  clear h
  generalize dg x = ds at *
  go_enter Tryd.func98, Tryd.ntmps98
  go_wp2_with (at_make; refine make_zeros _ rfl _ _ rfl ds.length _ rfl rfl rfl (by omega) ?_; intro w0 hown0 hb0)
  have HO0 := Lib.hid hown0
  have HB0 := Lib.hid hb0
  clear hown0 hb0
  go_loopw [5, 6] (fun rv i wr => HalfInv ds w rv i wr) (fun _ i _ => (intOf i + 1).toNat)
  case atStart => exact ⟨ds.length, 0, List.replicate ds.length 0, Nat.le_refl _, rfl, rfl, by omega, by simp, small_zeros _, HO0.out, HB0.out, by rw [List.drop_length, List.drop_eq_nil_of_le (by simp)]; rfl⟩
  case round =>
    obtain ⟨k, r, zs, hk, rfl, rfl, hr, hlz, hs, hown, hb, hv⟩ := hrel
    rcases Nat.eq_zero_or_pos k with rfl | hp
    · rw [List.drop_zero, List.drop_zero, HV.out] at hv
      have e1 : val zs = x / 2 := by omega
      have e2 : r = x % 2 := by omega
      subst e2
      have hlt0 := (hown.lt w.heap.size rfl).2
      have HLT := Lib.hid hlt0
      clear hlt0
      rw [← hlz] at hown
      obtain ⟨a', cap', hu, t, fin, _⟩ := own_trims' (w := w) hown hs hb
      simp only [Value.slice.injEq] at hu
      obtain ⟨rfl, _, rfl⟩ := hu
      rw [e1, hlz] at t fin
      have T := Lib.hid t
      have FIN := Lib.hid fin
      have HB := Lib.hid hb
      clear t fin hv e1 hown hb hlz
      go_wp2_with fail
      refine T.out.mono ?_
      rintro e w1 ⟨rfl, rfl⟩
      go_wp2_with fail
      go_ret2
      exact ⟨_, _, rfl, rfl, FIN.out.1, FIN.out.2.1, FIN.out.2.2, HB.out, HLT.out⟩
    · obtain ⟨m, rfl⟩ : ∃ m, k = m + 1 := ⟨k - 1, by omega⟩
      obtain ⟨b1, o1, rfl, q1, hc1⟩ := (H1.out.below hb (Nat.le_refl _)).pos (k := m) (by omega)
      have e1 := hc1 m (by omega)
      have s1 := small_get HX.out m
      have os := own_set hown hlz m 0 (by omega)
      have hcell := os.2.1
      have hfz := os.2.2
      have NX := Lib.hid (fun t => half_next ds w wr m r zs t hk HX.out hr hlz hs hown hb hv)
      clear hc1 os hv hown hb hs hlz
      generalize ds.getD m 0 = d at *
      have i1 : (d : Int) ≤ 65535 := by omega
      have i2 : (r : Int) ≤ 1 := by omega
      go_wp2_with fail
      go_roundw
      case rel => exact NX.out _ (by omega)
      case measure => simp [intOf]
end Go.Proofs.YtgiibcnakiggaaaDoor
namespace Go.Proofs.YtgiibcnakiggaaaDoor
open Go.RowKit Go.Shelf

theorem half_v (v : Value) (x : Nat) (w : World) (b : x ≤ 4 * Big) (h : RowV v x w) :
    Calls Tryd.prog 98 #[v] w fun e w' => ∃ v', e = .returned (.tuple #[v', .int .i64 ((x % 2 : Nat) : Int)]) ∧ RowV v' (x / 2) w' ∧ Below w.heap.size w w' ∧ v'.ownBlock = some w.heap.size ∧ w.heap.size < w'.heap.size := by
  obtain ⟨a, c, rfl, r, _, _⟩ := h
  refine (half_any x a c w (big_len x b) r).mono fun e w' hg => ?_
  obtain ⟨a', cap', rfl, h1, h2, h3, h4, h5, h6⟩ := hg
  exact ⟨_, h1, ⟨_, cap', rfl, h2, h3, h4⟩, h5, rfl, h6⟩

/-- The lowest k bits of a number. -/
def bitsL (A k : Nat) : List Nat := (List.range k).map fun i => A / 2 ^ i % 2
theorem bitsL_succ (A k : Nat) : bitsL A (k + 1) = bitsL A k ++ [A / 2 ^ k % 2] := by simp [bitsL, List.range_succ]
theorem bitsL_length (A k : Nat) : (bitsL A k).length = k := by simp [bitsL]
theorem bitsL_get (A k i : Nat) (h : i < k) : (bitsL A k).getD i 0 = A / 2 ^ i % 2 := by simp [bitsL, List.getD, h]
theorem half_pow (A k : Nat) : A / 2 ^ k / 2 = A / 2 ^ (k + 1) := by rw [Nat.div_div_eq_div_mul, Nat.pow_succ]
theorem pow_le (n m : Nat) (h : 2 + 16 * n ≤ m) : 4 * 65536 ^ n ≤ 2 ^ m := by
  have e : 4 * 65536 ^ n = 2 ^ (2 + 16 * n) := by rw [Nat.pow_add, Nat.pow_mul]
  rw [e]
  exact Nat.pow_le_pow_right (by decide) h
theorem bits_few (A k : Nat) (hA : A ≤ 4 * Big) (h : 0 < A / 2 ^ k) : k ≤ 3790 := by
  have h1 : 2 ^ k ≤ A := by
    refine Nat.le_of_not_lt fun hlt => ?_
    rw [Nat.div_eq_of_lt hlt] at h
    omega
  have h2 : 4 * Big ≤ 2 ^ 3790 := pow_le 236 3790 (by decide)
  exact (Nat.pow_le_pow_iff_right (by decide : 1 < 2)).1 (Nat.le_trans h1 (Nat.le_trans hA h2))

/-- What Floor's first loop keeps. -/
def BitsInv (A B : Nat) (w : World) (v d : Value) (wr : World) : Prop :=
  ∃ k : Nat, k ≤ 3791 ∧ wr.ownsRow B 3 1 v k (cellsN (bitsL A k)) ∧ RowV d (A / 2 ^ k) wr ∧ Below B w wr

theorem bits_next (A B : Nat) (w wr w1 w2 : World) (k : Nat) (v v' v1 : Value) (hk : k ≤ 3790) (hown : wr.ownsRow B 3 1 v k (cellsN (bitsL A k))) (hb : Below B w wr) (hB : B ≤ wr.heap.size)
    (hv1 : RowV v1 (A / 2 ^ k / 2) w1) (hb1 : Below wr.heap.size wr w1) (ho1 : v1.ownBlock = some wr.heap.size) (hlt : wr.heap.size < w1.heap.size)
    (hown' : w2.ownsRow B 3 1 v' (k + 1) (cellsN (bitsL A k) ++ [.int .i64 ((A / 2 ^ k % 2 : Nat) : Int)])) (hb2 : Below B w1 w2) (hkeep : ∀ q, q < w1.heap.size → some q ≠ v.ownBlock → w2.heap[q]? = w1.heap[q]?) :
    BitsInv A B w v' v1 w2 := by
  refine ⟨k + 1, by omega, by rw [bitsL_succ, cellsN_snoc]; exact hown', ?_, (hb.trans (hb1.mono hB)).trans hb2⟩
  rw [← half_pow]
  refine hv1.stays ho1 hb2.size (hkeep _ hlt ?_)
  intro e
  have := (hown.lt wr.heap.size e.symm).2
  omega

/-- What Floor's second loop keeps. -/
def DivInv (A C K : Nat) (w : World) (q r i : Value) (wr : World) : Prop :=
  ∃ j : Nat, j ≤ K ∧ i = .int .i64 ((j : Int) - 1) ∧ RowV q (A / 2 ^ j / C) wr ∧ RowV r (A / 2 ^ j % C) wr ∧ Below w.heap.size w wr

theorem bit_step (A m : Nat) : A / 2 ^ m = 2 * (A / 2 ^ (m + 1)) + A / 2 ^ m % 2 := by
  rw [← half_pow]; omega
/-- One bit of the long division. -/
theorem div_bit (X C b : Nat) (hC : 0 < C) (hb : b ≤ 1) :
    (2 * (X % C) + b < C → (2 * X + b) / C = 2 * (X / C) ∧ (2 * X + b) % C = 2 * (X % C) + b) ∧
    (C ≤ 2 * (X % C) + b → (2 * X + b) / C = 2 * (X / C) + 1 ∧ (2 * X + b) % C = 2 * (X % C) + b - C) := by
  have e := Nat.div_add_mod X C
  have l := Nat.mod_lt X hC
  generalize X / C = q at *
  generalize X % C = r at *
  subst e
  constructor
  · intro h
    have h4 : 2 * (C * q + r) = C * (2 * q) + 2 * r := by rw [Nat.mul_add, Nat.mul_left_comm]
    have e2 : 2 * (C * q + r) + b = C * (2 * q) + (2 * r + b) := by omega
    rw [e2, Nat.mul_add_div hC, Nat.div_eq_of_lt h, Nat.mul_add_mod, Nat.mod_eq_of_lt h]
    exact ⟨rfl, rfl⟩
  · intro h
    have h3 : C * (2 * q + 1) = C * (2 * q) + C := by rw [Nat.mul_add, Nat.mul_one]
    have h4 : 2 * (C * q + r) = C * (2 * q) + 2 * r := by rw [Nat.mul_add, Nat.mul_left_comm]
    have e2 : 2 * (C * q + r) + b = C * (2 * q + 1) + (2 * r + b - C) := by omega
    rw [e2, Nat.mul_add_div hC, Nat.div_eq_of_lt (show 2 * r + b - C < C by omega), Nat.mul_add_mod, Nat.mod_eq_of_lt (show 2 * r + b - C < C by omega)]
    exact ⟨rfl, rfl⟩
theorem div_next (A C K m : Nat) (w wr w2 : World) (q r : Value) (Q R : Nat) (hm : m + 1 ≤ K) (hQ : A / 2 ^ m / C = Q) (hR : A / 2 ^ m % C = R) (hq : RowV q Q w2) (hr : RowV r R w2) (hB : Below w.heap.size w wr) (hb : Below wr.heap.size wr w2) :
    DivInv A C K w q r (.int .i64 ((m : Int) - 1)) w2 := by
  subst hQ hR
  exact ⟨m, by omega, rfl, hq, hr, hB.trans (hb.mono hB.size)⟩

/-- All that one round of the long division needs of numbers. -/
theorem div_facts (A C m : Nat) (hC : 0 < C) :
    (2 * (A / 2 ^ (m + 1) % C) + A / 2 ^ m % 2 < C → A / 2 ^ m / C = A / 2 ^ (m + 1) / C + A / 2 ^ (m + 1) / C ∧ A / 2 ^ m % C = A / 2 ^ (m + 1) % C + A / 2 ^ (m + 1) % C + A / 2 ^ m % 2) ∧
    (C ≤ 2 * (A / 2 ^ (m + 1) % C) + A / 2 ^ m % 2 → A / 2 ^ m / C = A / 2 ^ (m + 1) / C + A / 2 ^ (m + 1) / C + 1 ∧ A / 2 ^ m % C = A / 2 ^ (m + 1) % C + A / 2 ^ (m + 1) % C + A / 2 ^ m % 2 - C) := by
  have hb : A / 2 ^ m % 2 ≤ 1 := by omega
  have k := div_bit (A / 2 ^ (m + 1)) C (A / 2 ^ m % 2) hC hb
  rw [← bit_step A m] at k
  constructor
  · intro h; have := k.1 h; constructor <;> omega
  · intro h; have := k.2 h; constructor <;> omega
theorem quot_big (A C m : Nat) (hA : A ≤ 4 * Big) : A / 2 ^ m / C + A / 2 ^ m / C ≤ 4 * Big ∨ m = 0 := by
  rcases Nat.eq_zero_or_pos m with h | h
  · exact Or.inr h
  · left
    obtain ⟨n, rfl⟩ : ∃ n, m = n + 1 := ⟨m - 1, by omega⟩
    have h1 : A / 2 ^ (n + 1) / C ≤ A / 2 ^ (n + 1) := Nat.div_le_self _ _
    have h2 : A / 2 ^ (n + 1) * 2 ≤ A := by
      rw [← half_pow]
      have : A / 2 ^ n ≤ A := Nat.div_le_self _ _
      omega
    omega

/-- What Floor answers. -/
def floorN (neg : Bool) (A C : Nat) : Nat := A / C + (if neg && decide (0 < A % C) then 1 else 0)

set_option maxHeartbeats 4000000 in
set_option maxRecDepth 100000 in
theorem floor_any (neg : Bool) (A C : Nat) (a : Option Addr) (c1 : Nat) (vc : Value) (w : World) (hC : 0 < C) (bA : A ≤ 4 * Big) (bC : C ≤ Big) (h1 : RowV (.slice a (dg A).length c1) A w) (h2 : RowV vc C w) :
    Calls Tryd.prog 92 #[.agg #[.bool neg, .slice a (dg A).length c1], vc] w (GivesNum (neg && decide (0 < floorN neg A C)) (floorN neg A C) w) := by
  have H1 := Lib.hid ((h1.alloc (.cells #[.bool neg, .slice a (dg A).length c1] 105)).alloc (.cells #[.bool false, .slice none 0 0] 105))
  have H2 := Lib.hid ((h2.alloc (.cells #[.bool neg, .slice a (dg A).length c1] 105)).alloc (.cells #[.bool false, .slice none 0 0] 105))
  have N1 := Lib.hid ((NumAt.new w neg (.slice a (dg A).length c1)).alloc (.cells #[.bool false, .slice none 0 0] 105))
  have N2 := Lib.hid (NumAt.new (w.alloc (.cells #[.bool neg, .slice a (dg A).length c1] 105)) false (.slice none 0 0))
  rw [show (w.alloc (.cells #[.bool neg, .slice a (dg A).length c1] 105)).heap.size = w.heap.size + 1 from by simp] at N2
  have BW := Lib.hid (((Below.refl w.heap.size w).alloc (Nat.le_refl _) (.cells #[.bool neg, .slice a (dg A).length c1] 105)).alloc (by simp) (.cells #[.bool false, .slice none 0 0] 105))
  have hsz : ((w.alloc (.cells #[.bool neg, .slice a (dg A).length c1] 105)).alloc (.cells #[.bool false, .slice none 0 0] 105)).heap.size = w.heap.size + 1 + 1 := by simp
  have HSZ := Lib.hid hsz
  have HA := Lib.hid bA
  have HC := Lib.hid bC
  clear h1 h2 bA bC hsz
  go_enter Tryd.func92, Tryd.ntmps92
  go_wp2_with fail
  generalize (w.alloc (.cells #[.bool neg, .slice a (dg A).length c1] 105)).alloc (.cells #[.bool false, .slice none 0 0] 105) = W0 at *
  generalize (dg A).length = nA at *
  go_loopw [5, 6] (fun v d wr => BitsInv A W0.heap.size W0 v d wr) (fun v _ _ => 3792 - lenOf v)
  case atStart => exact ⟨0, by omega, World.ownsRow_nil _ _ _ _, by simpa using H1.out, Below.refl _ _⟩
  case round =>
    obtain ⟨k, hk, hown, hd, hb⟩ := hrel
    by_cases hm : A / 2 ^ k = 0
    · rw [hm] at hd
      obtain ⟨ad, capd, rfl⟩ := hd.zero
      obtain ⟨K, rfl⟩ : ∃ K, K = k := ⟨_, rfl⟩
      obtain ⟨W1, rfl⟩ : ∃ W1, W1 = wr := ⟨_, rfl⟩
      have hown2 : W1.ownsRow W0.heap.size 3 1 u5 (bitsL A K).length (cellsN (bitsL A K)) := by rw [bitsL_length]; exact hown
      obtain ⟨ab, capb, hu, hrb, _, _⟩ := row_of_own hown2
      rw [bitsL_length] at hu
      subst hu
      have HRB := Lib.hid hrb
      have HNA := Lib.hid (N1.out.below hb (by have := HSZ.out; omega))
      have HNR := Lib.hid (N2.out.below hb (by have := HSZ.out; omega))
      have HC1 := Lib.hid (H2.out.below hb (Nat.le_refl _))
      have HBW1 := Lib.hid (BW.out.trans (hb.mono (by have := HSZ.out; omega)))
      have HM := Lib.hid hm
      clear hown hown2 hrb hb hd hm
      go_wp2_with fail
      go_loopw [9, 10, 11] (fun q r i w2 => DivInv A C K W1 q r i w2) (fun _ _ i _ => (intOf i + 1).toNat)
      case atStart => exact ⟨K, Nat.le_refl _, rfl, by rw [HM.out, Nat.zero_div]; exact RowV.nil _, by rw [HM.out, Nat.zero_mod]; exact RowV.nil _, Below.refl _ _⟩
      case round =>
        obtain ⟨j, hj, rfl, hq, hr, hB⟩ := hrel
        rcases Nat.eq_zero_or_pos j with rfl | hp
        · rw [Nat.pow_zero, Nat.div_one] at hq hr
          have NA := HNA.out.below hB HNA.out.lt
          have NR := HNR.out.below hB HNR.out.lt
          have HB2 := Lib.hid (HBW1.out.trans (hB.mono HBW1.out.size))
          have HNR2 := Lib.hid NR
          have n0 := NA.c0
          have r0 := NR.c0; have r1 := NR.c1; have y0 := NR.z0; have y1 := NR.z1
          have bq : A / C ≤ 4 * Big := Nat.le_trans (Nat.div_le_self _ _) HA.out
          clear NA NR hB
          cases neg
          · obtain ⟨aq, cq, rfl, hqr⟩ := hq
            obtain ⟨ar, cr, rfl, _⟩ := hr
            have HQR := Lib.hid hqr
            clear hqr
            go_wp2_with fail
            exact num_close Tryd.results92 HNR2.out HB2.out (by omega) HQR.out rfl
          · by_cases hR : A % C = 0
            · have E1 := Lib.hid (show floorN true A C = A / C by simp [floorN, hR])
              rw [hR] at hr
              obtain ⟨ar, cr, rfl⟩ := hr.zero
              by_cases hQ : A / C = 0
              · obtain ⟨aq, cq, rfl, hqr⟩ := hq
                have HQR := Lib.hid hqr
                have dl : (dg (A / C)).length = 0 := by rw [hQ, dg_zero]; rfl
                have DL := Lib.hid dl
                have E2 := Lib.hid (show (true && decide (0 < A / C)) = false by rw [hQ]; rfl)
                clear hqr hR hQ hr bq
                go_wp2_with fail
                rw [E1.out, E2.out]
                exact num_close' Tryd.results92 DL.out.symm HNR2.out HB2.out (by omega) HQR.out rfl
              · obtain ⟨aq, cq, rfl, hqr⟩ := hq
                have HQR := Lib.hid hqr
                have dl : 0 < (dg (A / C)).length := by rw [dg_pos _ hQ]; simp
                have E2 := Lib.hid (show (true && decide (0 < A / C)) = true by simp [Nat.pos_of_ne_zero hQ])
                clear hqr hR hQ hr bq
                go_wp2_with fail
                rw [E1.out, E2.out]
                exact num_close Tryd.results92 HNR2.out HB2.out (by omega) HQR.out rfl
            · have E1 := Lib.hid (show floorN true A C = A / C + 1 by simp [floorN]; omega)
              have E2 := Lib.hid (show (true && decide (0 < A / C + 1)) = true by simp)
              obtain ⟨ar, nr, cr, rfl, _⟩ := hr.posn hR
              have P := Lib.hid (fun v1 v2 w k1 k2 => plus_v v1 v2 (A / C) 1 w bq (by unfold Big; decide) k1 k2)
              have HQ := Lib.hid hq
              clear hr hq hR bq
              go_wp2_with fail
              refine (P.out _ _ _ (HQ.out.alloc _) (RowV.one _)).mono ?_
              rintro e w6 ⟨v6, rfl, hv6, b6⟩
              have b6' := ((Below.refl wr.heap.size wr).alloc (Nat.le_refl _) (.cells #[.int .i64 1] 3)).trans (b6.mono (by simp))
              have NR2 := HNR2.out.below b6' HNR2.out.lt
              have NA2 := (b6'.cell (p := ⟨w.heap.size, 0, none⟩) (show w.heap.size < wr.heap.size from Nat.lt_of_succ_lt HNR2.out.lt)).trans n0
              have HB3 := Lib.hid (HB2.out.trans (b6'.mono HB2.out.size))
              have HNR3 := Lib.hid NR2
              clear r0 r1 y0 y1 n0
              have r0 := NR2.c0; have r1 := NR2.c1; have y0 := NR2.z0; have y1 := NR2.z1
              obtain ⟨aq, cq, rfl, hqr⟩ := hv6
              have HQR := Lib.hid hqr
              have dl : 0 < (dg (A / C + 1)).length := by rw [dg_pos _ (Nat.succ_ne_zero _)]; simp
              clear hqr NR2 b6 b6'
              go_wp2_with fail
              rw [E1.out, E2.out]
              exact num_close Tryd.results92 HNR3.out HB3.out (by omega) HQR.out rfl
        · obtain ⟨m, rfl⟩ : ∃ m, j = m + 1 := ⟨j - 1, by omega⟩
          obtain ⟨bb, ob, rfl, hbb, hcb⟩ := HRB.out.pos (k := m) (by rw [bitsL_length]; omega)
          have hcell0 := hcb m (by rw [bitsL_length]; omega)
          rw [bitsL_get A K m (by omega)] at hcell0
          have hcell := (hB.cell (p := ⟨bb, ob + m, none⟩) hbb).trans hcell0
          have hbbr : bb < wr.heap.size := Nat.lt_of_lt_of_le hbb hB.size
          have HCW := Lib.hid (HC1.out.below hB (Nat.le_refl _))
          have HBW := Lib.hid hB
          have HQR := Lib.hid (And.intro hq hr)
          have F := div_facts A C m hC
          have hrC : A / 2 ^ (m + 1) % C < C := Nat.mod_lt _ hC
          have HQ2 : Hid (A / 2 ^ (m + 1) / C + A / 2 ^ (m + 1) / C ≤ 4 * Big) := (quot_big A C (m + 1) HA.out).resolve_right (by omega)
          have hb2 : A / 2 ^ m % 2 = 0 ∨ A / 2 ^ m % 2 = 1 := by omega
          clear hcb hcell0 hq hr hB
          generalize A / 2 ^ (m + 1) / C = qv at *
          generalize A / 2 ^ (m + 1) % C = rv at *
          generalize hQe : A / 2 ^ m / C = Q at *
          generalize hRe : A / 2 ^ m % C = R at *
          generalize A / 2 ^ m % 2 = b at *
          have HQ1 := Lib.hid (show qv ≤ 4 * Big by have := HQ2.out; omega)
          have HR0 := Lib.hid (show rv ≤ 4 * Big by have := HC.out; omega)
          have HR2 := Lib.hid (show rv + rv ≤ 4 * Big by have := HC.out; omega)
          have HE := Lib.hid (And.intro hQe hRe)
          clear hQe hRe
          rcases hb2 with rfl | rfl
          · have HR3 := Lib.hid (show rv + rv ≤ 4 * Big from HR2.out)
            by_cases hge : rv + rv < C
            · have DF := Lib.hid (show A / 2 ^ m / C = qv + qv ∧ A / 2 ^ m % C = rv + rv by have := F.1 (by omega); rw [HE.out.1, HE.out.2]; exact ⟨this.1, by omega⟩)
              have dl : decide (rv + rv < C) = true := by simp; omega
              clear F hrC hge
              go_wp2_with fail
              refine (plus_v _ _ qv qv _ HQ1.out HQ1.out HQR.out.1 HQR.out.1).mono ?_
              rintro e w1 ⟨v1, rfl, hv1, b1⟩
              have HV1 := Lib.hid hv1; have B1 := Lib.hid b1
              have HR1 := Lib.hid (HQR.out.2.below b1 (Nat.le_refl _))
              have z1 := b1.size
              clear hv1 b1
              go_wp2_with fail
              refine (plus_v _ _ rv rv _ HR0.out HR0.out HR1.out HR1.out).mono ?_
              rintro e w2 ⟨v2, rfl, hv2, b2⟩
              have B2 := Lib.hid (B1.out.trans (b2.mono B1.out.size))
              have HV2 := Lib.hid hv2
              have HV1b := Lib.hid (HV1.out.below b2 (Nat.le_refl _))
              have HC2 := Lib.hid (HCW.out.below B2.out (Nat.le_refl _))
              have hc2 := (B2.out.cell (p := ⟨bb, ob + m, none⟩) hbbr).trans hcell
              have z2 := b2.size
              clear hv2 b2
              go_wp2_with fail
              refine (less_v _ _ (rv + rv) C _ (HR3.out) HV2.out HC2.out).mono ?_
              rintro e w4 ⟨rfl, b4⟩
              have B4 := Lib.hid (B2.out.trans (b4.mono B2.out.size))
              have HR4 := Lib.hid (HV2.out.below b4 (Nat.le_refl _))
              have HQ4 := Lib.hid (HV1b.out.below b4 (Nat.le_refl _))
              have HC4 := Lib.hid (HC2.out.below b4 (Nat.le_refl _))
              have z4 := b4.size
              clear b4
              go_wp2_with fail
              go_roundw
              case rel => exact div_next A C K m W1 wr w4 _ _ _ _ hj DF.out.1 DF.out.2 HQ4.out HR4.out HBW.out B4.out
              case measure => simp [intOf]

            · have DF := Lib.hid (show A / 2 ^ m / C = qv + qv + 1 ∧ A / 2 ^ m % C = rv + rv - C by have := F.2 (by omega); rw [HE.out.1, HE.out.2]; exact ⟨this.1, by omega⟩)
              have dl : decide (rv + rv < C) = false := by simp; omega
              have HGE := Lib.hid (show C ≤ rv + rv by omega)
              clear F hrC hge
              go_wp2_with fail
              refine (plus_v _ _ qv qv _ HQ1.out HQ1.out HQR.out.1 HQR.out.1).mono ?_
              rintro e w1 ⟨v1, rfl, hv1, b1⟩
              have HV1 := Lib.hid hv1; have B1 := Lib.hid b1
              have HR1 := Lib.hid (HQR.out.2.below b1 (Nat.le_refl _))
              have z1 := b1.size
              clear hv1 b1
              go_wp2_with fail
              refine (plus_v _ _ rv rv _ HR0.out HR0.out HR1.out HR1.out).mono ?_
              rintro e w2 ⟨v2, rfl, hv2, b2⟩
              have B2 := Lib.hid (B1.out.trans (b2.mono B1.out.size))
              have HV2 := Lib.hid hv2
              have HV1b := Lib.hid (HV1.out.below b2 (Nat.le_refl _))
              have HC2 := Lib.hid (HCW.out.below B2.out (Nat.le_refl _))
              have hc2 := (B2.out.cell (p := ⟨bb, ob + m, none⟩) hbbr).trans hcell
              have z2 := b2.size
              clear hv2 b2
              go_wp2_with fail
              refine (less_v _ _ (rv + rv) C _ (HR3.out) HV2.out HC2.out).mono ?_
              rintro e w4 ⟨rfl, b4⟩
              have B4 := Lib.hid (B2.out.trans (b4.mono B2.out.size))
              have HR4 := Lib.hid (HV2.out.below b4 (Nat.le_refl _))
              have HQ4 := Lib.hid (HV1b.out.below b4 (Nat.le_refl _))
              have HC4 := Lib.hid (HC2.out.below b4 (Nat.le_refl _))
              have z4 := b4.size
              clear b4
              go_wp2_with fail
              refine (minus_v _ _ (rv + rv) C _ HGE.out HR3.out HR4.out HC4.out).mono ?_
              rintro e w5 ⟨v5, rfl, hv5, b5⟩
              have B5 := Lib.hid (B4.out.trans (b5.mono B4.out.size))
              have HV5 := Lib.hid hv5
              have HQ5 := Lib.hid (HQ4.out.below b5 (Nat.le_refl _))
              clear hv5 b5
              go_wp2_with fail
              refine (plus_v _ _ (qv + qv) 1 _ HQ2.out (by unfold Big; decide) (HQ5.out.alloc _) (RowV.one _)).mono ?_
              rintro e w6 ⟨v6, rfl, hv6, b6⟩
              have b6' := ((Below.refl w5.heap.size w5).alloc (Nat.le_refl _) (.cells #[.int .i64 1] 3)).trans (b6.mono (by simp))
              have B6 := Lib.hid (B5.out.trans (b6'.mono B5.out.size))
              have HV6 := Lib.hid hv6
              have HR6 := Lib.hid (HV5.out.below b6' (Nat.le_refl _))
              clear hv6 b6 b6'
              go_wp2_with fail
              go_roundw
              case rel => exact div_next A C K m W1 wr w6 _ _ _ _ hj DF.out.1 DF.out.2 HV6.out HR6.out HBW.out B6.out
              case measure => simp [intOf]

          · have HR3 := Lib.hid (show rv + rv + 1 ≤ 4 * Big by have := HC.out; omega)
            by_cases hge : rv + rv + 1 < C
            · have DF := Lib.hid (show A / 2 ^ m / C = qv + qv ∧ A / 2 ^ m % C = rv + rv + 1 by have := F.1 (by omega); rw [HE.out.1, HE.out.2]; exact ⟨this.1, by omega⟩)
              have dl : decide (rv + rv + 1 < C) = true := by simp; omega
              clear F hrC hge
              go_wp2_with fail
              refine (plus_v _ _ qv qv _ HQ1.out HQ1.out HQR.out.1 HQR.out.1).mono ?_
              rintro e w1 ⟨v1, rfl, hv1, b1⟩
              have HV1 := Lib.hid hv1; have B1 := Lib.hid b1
              have HR1 := Lib.hid (HQR.out.2.below b1 (Nat.le_refl _))
              have z1 := b1.size
              clear hv1 b1
              go_wp2_with fail
              refine (plus_v _ _ rv rv _ HR0.out HR0.out HR1.out HR1.out).mono ?_
              rintro e w2 ⟨v2, rfl, hv2, b2⟩
              have B2 := Lib.hid (B1.out.trans (b2.mono B1.out.size))
              have HV2 := Lib.hid hv2
              have HV1b := Lib.hid (HV1.out.below b2 (Nat.le_refl _))
              have HC2 := Lib.hid (HCW.out.below B2.out (Nat.le_refl _))
              have hc2 := (B2.out.cell (p := ⟨bb, ob + m, none⟩) hbbr).trans hcell
              have z2 := b2.size
              clear hv2 b2
              go_wp2_with fail
              refine (plus_v _ _ (rv + rv) 1 _ HR2.out (by unfold Big; decide) (HV2.out.alloc _) (RowV.one _)).mono ?_
              rintro e w3 ⟨v3, rfl, hv3, b3⟩
              have b3' := ((Below.refl w2.heap.size w2).alloc (Nat.le_refl _) (.cells #[.int .i64 1] 3)).trans (b3.mono (by simp))
              have B3 := Lib.hid (B2.out.trans (b3'.mono B2.out.size))
              have HV3 := Lib.hid hv3
              have HV1c := Lib.hid (HV1b.out.below b3' (Nat.le_refl _))
              have HC3 := Lib.hid (HC2.out.below b3' (Nat.le_refl _))
              have z3 := b3'.size
              clear hv3 b3 b3'
              go_wp2_with fail
              refine (less_v _ _ (rv + rv + 1) C _ (HR3.out) HV3.out HC3.out).mono ?_
              rintro e w4 ⟨rfl, b4⟩
              have B4 := Lib.hid (B3.out.trans (b4.mono B3.out.size))
              have HR4 := Lib.hid (HV3.out.below b4 (Nat.le_refl _))
              have HQ4 := Lib.hid (HV1c.out.below b4 (Nat.le_refl _))
              have HC4 := Lib.hid (HC3.out.below b4 (Nat.le_refl _))
              have z4 := b4.size
              clear b4
              go_wp2_with fail
              go_roundw
              case rel => exact div_next A C K m W1 wr w4 _ _ _ _ hj DF.out.1 DF.out.2 HQ4.out HR4.out HBW.out B4.out
              case measure => simp [intOf]

            · have DF := Lib.hid (show A / 2 ^ m / C = qv + qv + 1 ∧ A / 2 ^ m % C = rv + rv + 1 - C by have := F.2 (by omega); rw [HE.out.1, HE.out.2]; exact ⟨this.1, by omega⟩)
              have dl : decide (rv + rv + 1 < C) = false := by simp; omega
              have HGE := Lib.hid (show C ≤ rv + rv + 1 by omega)
              clear F hrC hge
              go_wp2_with fail
              refine (plus_v _ _ qv qv _ HQ1.out HQ1.out HQR.out.1 HQR.out.1).mono ?_
              rintro e w1 ⟨v1, rfl, hv1, b1⟩
              have HV1 := Lib.hid hv1; have B1 := Lib.hid b1
              have HR1 := Lib.hid (HQR.out.2.below b1 (Nat.le_refl _))
              have z1 := b1.size
              clear hv1 b1
              go_wp2_with fail
              refine (plus_v _ _ rv rv _ HR0.out HR0.out HR1.out HR1.out).mono ?_
              rintro e w2 ⟨v2, rfl, hv2, b2⟩
              have B2 := Lib.hid (B1.out.trans (b2.mono B1.out.size))
              have HV2 := Lib.hid hv2
              have HV1b := Lib.hid (HV1.out.below b2 (Nat.le_refl _))
              have HC2 := Lib.hid (HCW.out.below B2.out (Nat.le_refl _))
              have hc2 := (B2.out.cell (p := ⟨bb, ob + m, none⟩) hbbr).trans hcell
              have z2 := b2.size
              clear hv2 b2
              go_wp2_with fail
              refine (plus_v _ _ (rv + rv) 1 _ HR2.out (by unfold Big; decide) (HV2.out.alloc _) (RowV.one _)).mono ?_
              rintro e w3 ⟨v3, rfl, hv3, b3⟩
              have b3' := ((Below.refl w2.heap.size w2).alloc (Nat.le_refl _) (.cells #[.int .i64 1] 3)).trans (b3.mono (by simp))
              have B3 := Lib.hid (B2.out.trans (b3'.mono B2.out.size))
              have HV3 := Lib.hid hv3
              have HV1c := Lib.hid (HV1b.out.below b3' (Nat.le_refl _))
              have HC3 := Lib.hid (HC2.out.below b3' (Nat.le_refl _))
              have z3 := b3'.size
              clear hv3 b3 b3'
              go_wp2_with fail
              refine (less_v _ _ (rv + rv + 1) C _ (HR3.out) HV3.out HC3.out).mono ?_
              rintro e w4 ⟨rfl, b4⟩
              have B4 := Lib.hid (B3.out.trans (b4.mono B3.out.size))
              have HR4 := Lib.hid (HV3.out.below b4 (Nat.le_refl _))
              have HQ4 := Lib.hid (HV1c.out.below b4 (Nat.le_refl _))
              have HC4 := Lib.hid (HC3.out.below b4 (Nat.le_refl _))
              have z4 := b4.size
              clear b4
              go_wp2_with fail
              refine (minus_v _ _ (rv + rv + 1) C _ HGE.out HR3.out HR4.out HC4.out).mono ?_
              rintro e w5 ⟨v5, rfl, hv5, b5⟩
              have B5 := Lib.hid (B4.out.trans (b5.mono B4.out.size))
              have HV5 := Lib.hid hv5
              have HQ5 := Lib.hid (HQ4.out.below b5 (Nat.le_refl _))
              clear hv5 b5
              go_wp2_with fail
              refine (plus_v _ _ (qv + qv) 1 _ HQ2.out (by unfold Big; decide) (HQ5.out.alloc _) (RowV.one _)).mono ?_
              rintro e w6 ⟨v6, rfl, hv6, b6⟩
              have b6' := ((Below.refl w5.heap.size w5).alloc (Nat.le_refl _) (.cells #[.int .i64 1] 3)).trans (b6.mono (by simp))
              have B6 := Lib.hid (B5.out.trans (b6'.mono B5.out.size))
              have HV6 := Lib.hid hv6
              have HR6 := Lib.hid (HV5.out.below b6' (Nat.le_refl _))
              clear hv6 b6 b6'
              go_wp2_with fail
              go_roundw
              case rel => exact div_next A C K m W1 wr w6 _ _ _ _ hj DF.out.1 DF.out.2 HV6.out HR6.out HBW.out B6.out
              case measure => simp [intOf]

    · obtain ⟨ad, nd, capd, rfl, _⟩ := hd.posn hm
      have hk2 := bits_few A k HA.out (Nat.pos_of_ne_zero hm)
      have HO := Lib.hid hown
      have HB := Lib.hid hb
      have HF := Lib.hid (half_v _ _ wr (Nat.le_trans (Nat.div_le_self _ _) HA.out) hd)
      clear hown hb hd hm
      go_wp2_with fail
      refine HF.out.mono ?_
      rintro e w1 ⟨v1, rfl, hv1, hb1, ho1, hlt1⟩
      have HO1 := Lib.hid (own_below HO.out hb1)
      have s1 := HB.out.size
      have s2 := hb1.size
      have HV1 := Lib.hid (And.intro hv1 (And.intro hb1 ho1))
      clear hv1 hb1 ho1
      go_wp2_with (first | (at_builtin; refine append_digit' _ rfl (.tmp 22) (.tmp 24) rfl _ HO1.out rfl rfl (by omega) (by omega) ?_; intro v' w2 hown' hb2 hkeep))
      go_roundw
      case rel => exact bits_next A _ _ wr w1 w2 k _ v' v1 hk2 HO.out HB.out s1 HV1.out.1 HV1.out.2.1 HV1.out.2.2 hlt1 hown' hb2 hkeep
      case measure => rw [own_len hown', own_len HO.out]; omega
end Go.Proofs.YtgiibcnakiggaaaDoor
namespace Go.Proofs.YtgiibcnakiggaaaDoor
open Go.RowKit Go.Shelf

/-- Floor answers the greatest whole number that isn't above. -/
theorem floor_val (neg : Bool) (A C : Nat) (hC : 0 < C) : sgn (neg && decide (0 < floorN neg A C)) (floorN neg A C) = sgn neg A / (C : Int) := by
  cases neg
  · simp [sgn, floorN]
  · by_cases h0 : A % C = 0
    · have e : floorN true A C = A / C := by simp [floorN, h0]
      rw [e]
      have hA : (A : Int) = (C : Int) * ((A / C : Nat) : Int) := by
        have := Nat.div_add_mod A C
        rw [h0, Nat.add_zero] at this
        rw [← Int.natCast_mul, this]
      have e2 : sgn true A / (C : Int) = -((A / C : Nat) : Int) := by
        show -(A : Int) / (C : Int) = _
        rw [hA, ← Int.mul_neg, Int.mul_ediv_cancel_left _ (by omega)]
      rw [e2]
      by_cases hq : 0 < A / C
      · simp [sgn, hq]
      · have : A / C = 0 := by omega
        simp [sgn, this]
    · have e : floorN true A C = A / C + 1 := by simp [floorN]; omega
      rw [e]
      have e2 : sgn true A / (C : Int) = -((A / C + 1 : Nat) : Int) := by
        show -(A : Int) / (C : Int) = _
        have d := Nat.div_add_mod A C
        have l := Nat.mod_lt A hC
        generalize A / C = q at *
        generalize A % C = r at *
        have e3 : -(A : Int) = ((C : Int) - r) + (C : Int) * (-((q : Int) + 1)) := by
          rw [← d, Int.mul_neg, Int.mul_add, Int.natCast_add, Int.natCast_mul]; omega
        rw [e3, Int.add_mul_ediv_left _ _ (by omega), Int.ediv_eq_zero_of_lt (by omega) (by omega)]
        omega
      rw [e2]
      simp [sgn]

theorem near_of (u : Int) (y : Nat) (_hy : 0 < y) : (u + u + (y : Int)) / ((y + y : Nat) : Int) = near u y := by
  unfold near
  have e : u + u + (y : Int) = 2 * (u + (y : Int) / 2) + (y : Int) % 2 := by omega
  have e2 : ((y + y : Nat) : Int) = 2 * (y : Int) := by omega
  rw [e2, ← Int.ediv_ediv_of_nonneg (by decide), e]
  congr 1
  omega

/-- Floor, of numbers with signs. -/
theorem floor_z (v vc : Value) (z : Int) (C : Nat) (w : World) (hC : 0 < C) (bA : z.natAbs ≤ 4 * Big) (bC : C ≤ Big) (h1 : NumV v z w) (h2 : RowV vc C w) :
    Calls Tryd.prog 92 #[v, vc] w (GivesZ (z / (C : Int)) w) := by
  obtain ⟨n, x, a, c, rfl, r, h3, h4, rfl⟩ := h1
  rw [sgn_natAbs] at bA
  refine (floor_any n x C a c vc w hC bA bC ⟨a, c, rfl, r, h3, h4⟩ h2).mono fun e w' hg => ?_
  have := hg.toZ
  rwa [floor_val n x C hC] at this

set_option maxHeartbeats 4000000 in
set_option maxRecDepth 100000 in
theorem near_pos (n : Bool) (x y : Nat) (a b : Option Addr) (c1 c2 : Nat) (w : World) (hy : 0 < y) (bx : x ≤ Big) (by' : y + y ≤ Big) (h1 : RowV (.slice a (dg x).length c1) x w) (h2 : RowV (.slice b (dg y).length c2) y w) :
    Calls Tryd.prog 75 #[.agg #[.bool n, .slice a (dg x).length c1], .agg #[.bool false, .slice b (dg y).length c2]] w (GivesZ (near (sgn n x) y) w) := by
  have K1 := Lib.hid (fun o1 o2 o3 => (NumV.mk (neg := n) ((h1.alloc o1).alloc o2)).below ((Below.refl _ _).alloc (Nat.le_refl _) o3) (Nat.le_refl _))
  have K2 := Lib.hid (fun o1 o2 o3 => (NumV.mk (neg := false) ((h2.alloc o1).alloc o2)).below ((Below.refl _ _).alloc (Nat.le_refl _) o3) (Nat.le_refl _))
  have K3 := Lib.hid (fun o1 o2 o3 => ((h2.alloc o1).alloc o2).alloc o3)
  have F1 := Lib.hid (fair_big (sgn n x) (by rw [sgn_natAbs]; omega))
  have F2 := Lib.hid (fair_big (sgn n x + sgn n x) (by have := sgn_natAbs n x; omega))
  have F3 := Lib.hid (fair_big (sgn false y) (by rw [sgn_natAbs]; omega))
  have BA := Lib.hid (show (sgn n x + sgn n x + sgn false y).natAbs ≤ 4 * Big by have := sgn_natAbs n x; have := sgn_natAbs false y; omega)
  have EQ := Lib.hid (show (sgn n x + sgn n x + sgn false y) / ((y + y : Nat) : Int) = near (sgn n x) y from near_of (sgn n x) y hy)
  have NA0 := Lib.hid (((NumAt.new w n (.slice a (dg x).length c1)).alloc (.cells #[.bool false, .slice b (dg y).length c2] 105)).alloc (.cells #[.bool false, .slice none 0 0] 105))
  have NB0 := Lib.hid ((NumAt.new (w.alloc (.cells #[.bool n, .slice a (dg x).length c1] 105)) false (.slice b (dg y).length c2)).alloc (.cells #[.bool false, .slice none 0 0] 105))
  rw [show (w.alloc (.cells #[.bool n, .slice a (dg x).length c1] 105)).heap.size = w.heap.size + 1 from by simp] at NB0
  have NR0 := Lib.hid (NumAt.new3 w (.cells #[.bool n, .slice a (dg x).length c1] 105) (.cells #[.bool false, .slice b (dg y).length c2] 105) 0)
  have BW := Lib.hid (below3 w (.cells #[.bool n, .slice a (dg x).length c1] 105) (.cells #[.bool false, .slice b (dg y).length c2] 105) (.cells #[.bool false, .slice none 0 0] 105) 1)
  clear h1 h2
  generalize (dg x).length = nx at *
  generalize (dg y).length = ny at *
  go_enter Tryd.func75, Tryd.ntmps75
  go_wp2_with fail
  go_region_held3 (fun w' => w'.cell? ⟨w.heap.size, 0, none⟩ = some (.bool n) ∧ w'.cell? ⟨w.heap.size, 1, none⟩ = some (.slice a nx c1) ∧ w'.cell? ⟨w.heap.size + 1, 0, none⟩ = some (.bool false) ∧ w'.cell? ⟨w.heap.size + 1, 1, none⟩ = some (.slice b ny c2)) (first | (simp [go_sem, World.cell?_alloc_past, *]; done) | (exact ⟨by assumption, by assumption, by assumption, by assumption⟩))
    (first
      | (go_at_call 89; refine (plus_v _ _ y y _ (by omega) (by omega) ?_ ?_).mono ?_; (exact ((show RowV _ _ (World.drew _) from K3.out _ _ _).below b1 (Nat.le_refl _)).below b2 (Nat.le_refl _)); (exact ((show RowV _ _ (World.drew _) from K3.out _ _ _).below b1 (Nat.le_refl _)).below b2 (Nat.le_refl _)); rintro e w3 ⟨v3, rfl, hv3, b3⟩; have NA3 := Lib.hid ((show NumAt _ _ _ _ from NA2.out).below b3 NA2.out.lt); have NB3 := Lib.hid ((show NumAt _ _ _ _ from NB2.out).below b3 NB2.out.lt); have NR3 := Lib.hid ((show NumAt _ _ _ _ from NR2.out).below b3 NR2.out.lt); have pa3 := NA3.out.c0; have pb3 := NA3.out.c1; have pc3 := NB3.out.c0; have pd3 := NB3.out.c1)
      | (go_at_call 88; refine (add_z _ _ (sgn n x) (sgn n x) _ F1.out F1.out ?_ ?_).mono ?_; (exact K1.out _ _ _); (exact K1.out _ _ _); rintro e w1 ⟨v1, rfl, hv1, b1⟩; have NA1 := Lib.hid ((show NumAt _ _ _ (World.drew _) from NA0.out).below b1 NA0.out.lt); have NB1 := Lib.hid ((show NumAt _ _ _ (World.drew _) from NB0.out).below b1 NB0.out.lt); have NR1 := Lib.hid ((show NumAt _ _ _ (World.drew _) from NR0.out).below b1 NR0.out.lt); have pa1 := NA1.out.c0; have pb1 := NA1.out.c1; have pc1 := NB1.out.c0; have pd1 := NB1.out.c1)
      | (go_at_call 88; refine (add_z _ _ (sgn n x + sgn n x) (sgn false y) _ F2.out F3.out ?_ ?_).mono ?_; (exact hv1); (exact (show NumV _ _ (World.drew _) from K2.out _ _ _).below b1 (Nat.le_refl _)); rintro e w2 ⟨v2, rfl, hv2, b2⟩; have NA2 := Lib.hid ((show NumAt _ _ _ _ from NA1.out).below b2 NA1.out.lt); have NB2 := Lib.hid ((show NumAt _ _ _ _ from NB1.out).below b2 NB1.out.lt); have NR2 := Lib.hid ((show NumAt _ _ _ _ from NR1.out).below b2 NR1.out.lt); have pa2 := NA2.out.c0; have pb2 := NA2.out.c1; have pc2 := NB2.out.c0; have pd2 := NB2.out.c1)
      | (go_at_call 92; refine (floor_z _ _ _ (y + y) _ (by omega) BA.out by' ?_ ?_).mono ?_; (exact hv2.below b3 (Nat.le_refl _)); (exact hv3); rintro e w4 ⟨v4, rfl, hv4, b4⟩; obtain ⟨neg4, x4, a4, cap4, rfl, hr4, hl4, hm4, he4⟩ := hv4; have NA4 := Lib.hid ((show NumAt _ _ _ _ from NA3.out).below b4 NA3.out.lt); have NB4 := Lib.hid ((show NumAt _ _ _ _ from NB3.out).below b4 NB3.out.lt); have NR4 := Lib.hid ((show NumAt _ _ _ _ from NR3.out).below b4 NR3.out.lt); have pa4 := NA4.out.c0; have pb4 := NA4.out.c1; have pc4 := NB4.out.c0; have pd4 := NB4.out.c1; have pe4 := NR4.out.c0; have pf4 := NR4.out.c1; have pg4 := NR4.out.z0; have ph4 := NR4.out.z1))
  go_wp2_with fail
  have Bf := (((BW.out.trans (b1.mono BW.out.size)).trans (b2.mono (Nat.le_trans BW.out.size b1.size))).trans (b3.mono (Nat.le_trans BW.out.size (Nat.le_trans b1.size b2.size)))).trans (b4.mono (Nat.le_trans BW.out.size (Nat.le_trans b1.size (Nat.le_trans b2.size b3.size))))
  exact num_closeZ Tryd.results75 NR4.out Bf (by omega) ⟨hr4, hl4, hm4⟩ (EQ.out.symm.trans he4) rfl

set_option maxHeartbeats 4000000 in
set_option maxRecDepth 100000 in
theorem near_neg (n0 n : Bool) (hn : (!n0) = n) (x y : Nat) (a b : Option Addr) (c1 c2 : Nat) (w : World) (hy : 0 < y) (bx : x ≤ Big) (by' : y + y ≤ Big) (h1 : RowV (.slice a (dg x).length c1) x w) (h2 : RowV (.slice b (dg y).length c2) y w) :
    Calls Tryd.prog 75 #[.agg #[.bool n0, .slice a (dg x).length c1], .agg #[.bool true, .slice b (dg y).length c2]] w (GivesZ (near (sgn n x) y) w) := by
  have K1 := Lib.hid (fun o1 o2 o3 => (NumV.mk (neg := n) ((h1.alloc o1).alloc o2)).below ((Below.refl _ _).alloc (Nat.le_refl _) o3) (Nat.le_refl _))
  have K2 := Lib.hid (fun o1 o2 o3 => (NumV.mk (neg := false) ((h2.alloc o1).alloc o2)).below ((Below.refl _ _).alloc (Nat.le_refl _) o3) (Nat.le_refl _))
  have K3 := Lib.hid (fun o1 o2 o3 => ((h2.alloc o1).alloc o2).alloc o3)
  have F1 := Lib.hid (fair_big (sgn n x) (by rw [sgn_natAbs]; omega))
  have F2 := Lib.hid (fair_big (sgn n x + sgn n x) (by have := sgn_natAbs n x; omega))
  have F3 := Lib.hid (fair_big (sgn false y) (by rw [sgn_natAbs]; omega))
  have BA := Lib.hid (show (sgn n x + sgn n x + sgn false y).natAbs ≤ 4 * Big by have := sgn_natAbs n x; have := sgn_natAbs false y; omega)
  have EQ := Lib.hid (show (sgn n x + sgn n x + sgn false y) / ((y + y : Nat) : Int) = near (sgn n x) y from near_of (sgn n x) y hy)
  have NA0 := Lib.hid (((NumAt.new w n (.slice a (dg x).length c1)).alloc (.cells #[.bool false, .slice b (dg y).length c2] 105)).alloc (.cells #[.bool false, .slice none 0 0] 105))
  have NB0 := Lib.hid ((NumAt.new (w.alloc (.cells #[.bool n, .slice a (dg x).length c1] 105)) false (.slice b (dg y).length c2)).alloc (.cells #[.bool false, .slice none 0 0] 105))
  rw [show (w.alloc (.cells #[.bool n, .slice a (dg x).length c1] 105)).heap.size = w.heap.size + 1 from by simp] at NB0
  have NR0 := Lib.hid (NumAt.new3 w (.cells #[.bool n, .slice a (dg x).length c1] 105) (.cells #[.bool false, .slice b (dg y).length c2] 105) 0)
  have BW := Lib.hid (below3 w (.cells #[.bool n, .slice a (dg x).length c1] 105) (.cells #[.bool false, .slice b (dg y).length c2] 105) (.cells #[.bool false, .slice none 0 0] 105) 1)
  clear h1 h2
  generalize (dg x).length = nx at *
  generalize (dg y).length = ny at *
  go_enter Tryd.func75, Tryd.ntmps75
  go_wp2_with fail
  go_region_held3 (fun w' => w'.cell? ⟨w.heap.size, 0, none⟩ = some (.bool n) ∧ w'.cell? ⟨w.heap.size, 1, none⟩ = some (.slice a nx c1) ∧ w'.cell? ⟨w.heap.size + 1, 0, none⟩ = some (.bool false) ∧ w'.cell? ⟨w.heap.size + 1, 1, none⟩ = some (.slice b ny c2)) (first | (simp [go_sem, World.cell?_alloc_past, *]; done) | (exact ⟨by assumption, by assumption, by assumption, by assumption⟩))
    (first
      | (go_at_call 89; refine (plus_v _ _ y y _ (by omega) (by omega) ?_ ?_).mono ?_; (exact ((show RowV _ _ (World.drew _) from K3.out _ _ _).below b1 (Nat.le_refl _)).below b2 (Nat.le_refl _)); (exact ((show RowV _ _ (World.drew _) from K3.out _ _ _).below b1 (Nat.le_refl _)).below b2 (Nat.le_refl _)); rintro e w3 ⟨v3, rfl, hv3, b3⟩; have NA3 := Lib.hid ((show NumAt _ _ _ _ from NA2.out).below b3 NA2.out.lt); have NB3 := Lib.hid ((show NumAt _ _ _ _ from NB2.out).below b3 NB2.out.lt); have NR3 := Lib.hid ((show NumAt _ _ _ _ from NR2.out).below b3 NR2.out.lt); have pa3 := NA3.out.c0; have pb3 := NA3.out.c1; have pc3 := NB3.out.c0; have pd3 := NB3.out.c1)
      | (go_at_call 88; refine (add_z _ _ (sgn n x) (sgn n x) _ F1.out F1.out ?_ ?_).mono ?_; (exact K1.out _ _ _); (exact K1.out _ _ _); rintro e w1 ⟨v1, rfl, hv1, b1⟩; have NA1 := Lib.hid ((show NumAt _ _ _ (World.drew _) from NA0.out).below b1 NA0.out.lt); have NB1 := Lib.hid ((show NumAt _ _ _ (World.drew _) from NB0.out).below b1 NB0.out.lt); have NR1 := Lib.hid ((show NumAt _ _ _ (World.drew _) from NR0.out).below b1 NR0.out.lt); have pa1 := NA1.out.c0; have pb1 := NA1.out.c1; have pc1 := NB1.out.c0; have pd1 := NB1.out.c1)
      | (go_at_call 88; refine (add_z _ _ (sgn n x + sgn n x) (sgn false y) _ F2.out F3.out ?_ ?_).mono ?_; (exact hv1); (exact (show NumV _ _ (World.drew _) from K2.out _ _ _).below b1 (Nat.le_refl _)); rintro e w2 ⟨v2, rfl, hv2, b2⟩; have NA2 := Lib.hid ((show NumAt _ _ _ _ from NA1.out).below b2 NA1.out.lt); have NB2 := Lib.hid ((show NumAt _ _ _ _ from NB1.out).below b2 NB1.out.lt); have NR2 := Lib.hid ((show NumAt _ _ _ _ from NR1.out).below b2 NR1.out.lt); have pa2 := NA2.out.c0; have pb2 := NA2.out.c1; have pc2 := NB2.out.c0; have pd2 := NB2.out.c1)
      | (go_at_call 92; refine (floor_z _ _ _ (y + y) _ (by omega) BA.out by' ?_ ?_).mono ?_; (exact hv2.below b3 (Nat.le_refl _)); (exact hv3); rintro e w4 ⟨v4, rfl, hv4, b4⟩; obtain ⟨neg4, x4, a4, cap4, rfl, hr4, hl4, hm4, he4⟩ := hv4; have NA4 := Lib.hid ((show NumAt _ _ _ _ from NA3.out).below b4 NA3.out.lt); have NB4 := Lib.hid ((show NumAt _ _ _ _ from NB3.out).below b4 NB3.out.lt); have NR4 := Lib.hid ((show NumAt _ _ _ _ from NR3.out).below b4 NR3.out.lt); have pa4 := NA4.out.c0; have pb4 := NA4.out.c1; have pc4 := NB4.out.c0; have pd4 := NB4.out.c1; have pe4 := NR4.out.c0; have pf4 := NR4.out.c1; have pg4 := NR4.out.z0; have ph4 := NR4.out.z1))
  go_wp2_with fail
  have Bf := (((BW.out.trans (b1.mono BW.out.size)).trans (b2.mono (Nat.le_trans BW.out.size b1.size))).trans (b3.mono (Nat.le_trans BW.out.size (Nat.le_trans b1.size b2.size)))).trans (b4.mono (Nat.le_trans BW.out.size (Nat.le_trans b1.size (Nat.le_trans b2.size b3.size))))
  exact num_closeZ Tryd.results75 NR4.out Bf (by omega) ⟨hr4, hl4, hm4⟩ (EQ.out.symm.trans he4) rfl

/-- What Near answers. -/
def nearZ (z1 z2 : Int) : Int := if 0 < z2 then near z1 z2.natAbs else near (-z1) z2.natAbs

theorem near_z (v1 v2 : Value) (z1 z2 : Int) (w : World) (h0 : z2 ≠ 0) (b1 : z1.natAbs ≤ Big) (b2 : z2.natAbs + z2.natAbs ≤ Big) (h1 : NumV v1 z1 w) (h2 : NumV v2 z2 w) :
    Calls Tryd.prog 75 #[v1, v2] w (GivesZ (nearZ z1 z2) w) := by
  obtain ⟨n, x, a, c1, rfl, r1, q1, q2, rfl⟩ := h1
  obtain ⟨m, y, b, c2, rfl, r2, q3, q4, rfl⟩ := h2
  unfold nearZ
  rw [sgn_natAbs] at b1 b2 ⊢
  cases m
  · have hy : 0 < y := by simp [sgn] at h0; omega
    rw [if_pos (by simp [sgn]; omega)]
    exact near_pos n x y a b c1 c2 w hy b1 b2 ⟨a, c1, rfl, r1, q1, q2⟩ ⟨b, c2, rfl, r2, q3, q4⟩
  · have hy : 0 < y := by simp [sgn] at h0; omega
    rw [if_neg (by simp [sgn]), show -sgn n x = sgn (!n) x from by cases n <;> simp [sgn]]
    exact near_neg n (!n) rfl x y a b c1 c2 w hy b1 b2 ⟨a, c1, rfl, r1, q1, q2⟩ ⟨b, c2, rfl, r2, q3, q4⟩
end Go.Proofs.YtgiibcnakiggaaaDoor
