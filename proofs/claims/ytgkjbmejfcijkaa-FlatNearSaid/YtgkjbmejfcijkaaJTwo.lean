/-
  Joined texts: RowV, Mul, Mulz, NumClose, Ref2Of, Ref2Above.
-/
import Derived.Test.YtgkjbmejfcijkaaJOne
namespace Go.Proofs.Ytgkjbmejfcijkaa
open Go.RowKit Go.Shelf

/-- The value is the row of a number. -/
def RowV (v : Value) (x : Nat) (w : World) : Prop := ∃ a cap, v = .slice a (dg x).length cap ∧ Row a (dg x) w ∧ (dg x).length ≤ cap ∧ cap ≤ maxLen
theorem RowV.below {v : Value} {x : Nat} {w w' : World} (h : RowV v x w) {B : Nat} (hb : Below B w w') (hB : w.heap.size ≤ B) : RowV v x w' := by
  obtain ⟨a, cap, h1, h2, h3, h4⟩ := h
  exact ⟨a, cap, h1, h2.below hb hB, h3, h4⟩
theorem RowV.alloc {v : Value} {x : Nat} {w : World} (h : RowV v x w) (o : Obj) : RowV v x (w.alloc o) := h.below ((Below.refl w.heap.size w).alloc (Nat.le_refl _) o) (Nat.le_refl _)
theorem RowV.nil (w : World) : RowV (.slice none 0 0) 0 w := ⟨none, 0, by rw [dg_zero]; rfl, Or.inl dg_zero, by rw [dg_zero]; exact Nat.le_refl _, by simp⟩
theorem dg_one : dg 1 = [1] := by rw [dg_pos 1 (by decide), show 1 / 65536 = 0 from rfl, dg_zero]
theorem RowV.one (w : World) : RowV (.slice (some ⟨w.heap.size, 0, none⟩) 1 1) 1 (w.alloc (.cells #[.int .i64 1] 3)) := by
  refine ⟨_, 1, by rw [dg_one]; rfl, ?_, by rw [dg_one]; exact Nat.le_refl _, by unfold maxLen; omega⟩
  rw [dg_one]
  refine Or.inr ⟨w.heap.size, 0, rfl, by simp, fun i hi => ?_⟩
  have : i = 0 := by simpa using hi
  subst this
  simp

def GivesV (z : Nat) (w : World) (e : Ending) (w' : World) : Prop := ∃ v, e = .returned v ∧ RowV v z w' ∧ Below w.heap.size w w'
theorem GivesRow.toV {z : Nat} {w : World} {e : Ending} {w' : World} (h : GivesRow z w e w') : GivesV z w e w' := by
  obtain ⟨a, cap, h1, h2, h3, h4, h5⟩ := h
  exact ⟨_, h1, ⟨a, cap, rfl, h2, h3, h4⟩, h5⟩

/-- No number here is greater than this. -/
def Big : Nat := 65536 ^ 236
theorem big_len (x : Nat) (h : x ≤ 4 * Big) : (dg x).length ≤ 100000000 := by
  have h1 : 4 * Big < 65536 ^ 237 := by unfold Big; decide
  have := dg_length 237 x (Nat.lt_of_le_of_lt h h1)
  omega

theorem plus_v (v1 v2 : Value) (x y : Nat) (w : World) (b1 : x ≤ 4 * Big) (b2 : y ≤ 4 * Big) (h1 : RowV v1 x w) (h2 : RowV v2 y w) : Calls Try.prog 49 #[v1, v2] w (GivesV (x + y) w) := by
  obtain ⟨a, c1, rfl, r1, _, _⟩ := h1
  obtain ⟨b, c2, rfl, r2, _, _⟩ := h2
  exact (plus_any x y a b c1 c2 w (big_len x b1) (big_len y b2) r1 r2).mono fun e w' hg => hg.toV
theorem minus_v (v1 v2 : Value) (x y : Nat) (w : World) (hxy : y ≤ x) (b1 : x ≤ 4 * Big) (h1 : RowV v1 x w) (h2 : RowV v2 y w) : Calls Try.prog 52 #[v1, v2] w (GivesV (x - y) w) := by
  obtain ⟨a, c1, rfl, r1, _, _⟩ := h1
  obtain ⟨b, c2, rfl, r2, _, _⟩ := h2
  exact (minus_any x y a b c1 c2 w hxy (big_len x b1) r1 r2).mono fun e w' hg => hg.toV
theorem less_v (v1 v2 : Value) (x y : Nat) (w : World) (b1 : x ≤ 4 * Big) (h1 : RowV v1 x w) (h2 : RowV v2 y w) : Calls Try.prog 51 #[v1, v2] w fun e w' => e = .returned (.bool (decide (x < y))) ∧ Below w.heap.size w w' := by
  obtain ⟨a, c1, rfl, r1, _, _⟩ := h1
  obtain ⟨b, c2, rfl, r2, _, _⟩ := h2
  have k := less_any a b (dg x) (dg y) c1 c2 w (small_dg x) (small_dg y) (by have := big_len x b1; omega) r1 r2
  rw [less_dg] at k
  exact k.mono fun e w' ⟨he, n, hw⟩ => ⟨he, by subst hw; exact ⟨rfl, rfl, rfl, Nat.le_refl _, fun _ _ => rfl⟩⟩

theorem own_below {w w' : World} {B : Nat} {v : Value} {n : Nat} {xs : List Value} (h : w.ownsRow B 3 1 v n xs) (hb : Below w.heap.size w w') : w'.ownsRow B 3 1 v n xs :=
  h.kept (row := none) ⟨hb.os, hb.tape, hb.output, hb.size, fun k hk _ => hb.block k hk⟩ (by cases hv : v.ownBlock with | none => exact Or.inl rfl | some q => exact Or.inr (by simp))

/-- A row that lies in a block that stays. -/
theorem RowV.stays {v : Value} {x : Nat} {w w' : World} (h : RowV v x w) {g : Nat} (hg : v.ownBlock = some g) (hs : w.heap.size ≤ w'.heap.size) (hb : w'.heap[g]? = w.heap[g]?) : RowV v x w' := by
  obtain ⟨a, cap, rfl, hr, h3, h4⟩ := h
  refine ⟨a, cap, rfl, ?_, h3, h4⟩
  rcases hr with hr | ⟨b, off, rfl, hlt, hc⟩
  · exact Or.inl hr
  · have : b = g := by simpa [Value.ownBlock] using hg
    subst this
    exact Or.inr ⟨b, off, rfl, by omega, fun i hi => (World.cell?_of_block (w := w) (a := ⟨b, off + i, none⟩) hb).trans (hc i hi)⟩

theorem RowV.zero {v : Value} {w : World} (h : RowV v 0 w) : ∃ a cap, v = .slice a 0 cap := by
  obtain ⟨a, cap, h1, _⟩ := h
  rw [dg_zero] at h1
  exact ⟨a, cap, h1⟩
theorem RowV.posn {v : Value} {x : Nat} {w : World} (h : RowV v x w) (hx : x ≠ 0) : ∃ a n cap, v = .slice a (n + 1) cap ∧ n ≤ 1000000000000 + n := by
  obtain ⟨a, cap, h1, _⟩ := h
  rw [dg_pos x hx] at h1
  exact ⟨a, _, cap, h1, by omega⟩
theorem own_len {w : World} {B : Nat} {v : Value} {n : Nat} {xs : List Value} (h : w.ownsRow B 3 1 v n xs) : lenOf v = n := by
  rcases h.2 with ⟨rfl, rfl⟩ | ⟨g, cap, cur, rfl, _⟩ <;> rfl

/-- A result that is a number, stored at last. -/
theorem num_close {f : Func} (hres : f.results = #[ResultVar.cell 4 66]) {w wf : World} {r N : Nat} {neg b0 : Bool} {x a' : Option Addr} {n c cap' : Nat} {ts : Array Value}
    (NA : NumAt r b0 (.slice x n c) wf) (hB : Below w.heap.size w wf) (hr : w.heap.size ≤ r) (F : Row a' (dg N) wf ∧ (dg N).length ≤ cap' ∧ cap' ≤ maxLen) (hts : ts[4]? = some (.pointer (some ⟨r, 0, none⟩))) :
    bodyPost Try.prog f (GivesNum neg N w) Exit.ret { tmps := ts, defers := [] } ((wf.setCell ⟨r, 0, none⟩ (.bool neg)).setCell ⟨r, 1, none⟩ (.slice a' (dg N).length cap')) := by
  have F1 := NA.set (neg' := neg) (s' := .slice a' (dg N).length cap')
  refine bodyPost_ret (v := .agg #[.bool neg, .slice a' (dg N).length cap']) (by simp [results, hres, go_sem, F1.c0, F1.c1, hts]) rfl ⟨a', cap', rfl, F.1.far NA, F.2.1, F.2.2, ?_⟩
  exact Below.setCell (Below.setCell hB hr _) hr _

theorem num_close' {f : Func} (hres : f.results = #[ResultVar.cell 4 66]) {w wf : World} {r N n' : Nat} {neg b0 : Bool} {x a' : Option Addr} {n c cap' : Nat} {ts : Array Value} (hn : n' = (dg N).length)
    (NA : NumAt r b0 (.slice x n c) wf) (hB : Below w.heap.size w wf) (hr : w.heap.size ≤ r) (F : Row a' (dg N) wf ∧ (dg N).length ≤ cap' ∧ cap' ≤ maxLen) (hts : ts[4]? = some (.pointer (some ⟨r, 0, none⟩))) :
    bodyPost Try.prog f (GivesNum neg N w) Exit.ret { tmps := ts, defers := [] } ((wf.setCell ⟨r, 0, none⟩ (.bool neg)).setCell ⟨r, 1, none⟩ (.slice a' n' cap')) := by
  subst hn
  exact num_close hres NA hB hr F hts
end Go.Proofs.Ytgkjbmejfcijkaa
namespace Go.Proofs.Ytgkjbmejfcijkaa
open Go.RowKit Go.Shelf

theorem below_drewN (B : Nat) (w : World) (n : Nat) : Below B w (w.drewN n) := ⟨rfl, rfl, rfl, Nat.le_refl _, fun _ _ => rfl⟩

theorem val_zeros (n : Nat) : val (List.replicate n 0) = 0 := by
  induction n with
  | zero => rfl
  | succ n ih => rw [List.replicate_succ, val, ih]

/-- One digit of one row of the product. -/
theorem mul_step (os ys : List Nat) (i k p cy s : Nat) (hl : os.length = i + k) (h : val os + 65536 ^ (i + k) * cy = 65536 ^ i * (p * val (ys.take k))) (hs : s = cy + p * ys.getD k 0) :
    val (os ++ [s % 65536]) + 65536 ^ (i + k + 1) * (s / 65536) = 65536 ^ i * (p * val (ys.take (k + 1))) := by
  rw [val_snoc, val_take', hl, Nat.pow_succ]
  have e : 65536 ^ (i + k) * s = 65536 ^ (i + k) * (s % 65536) + 65536 ^ (i + k) * 65536 * (s / 65536) := by
    rw [Nat.mul_assoc, ← Nat.mul_add, Nat.mod_add_div]
  have e2 : 65536 ^ (i + k) * s = 65536 ^ (i + k) * cy + 65536 ^ i * (p * (65536 ^ k * ys.getD k 0)) := by
    rw [hs, Nat.mul_add, Nat.pow_add, Nat.mul_assoc, Nat.mul_assoc, Nat.mul_left_comm p]
  rw [Nat.mul_add p, Nat.mul_add]
  omega

/-- What Mul's inner loop keeps. -/
def MulInv (ys : List Nat) (i p B : Nat) (w : World) (v c kv : Value) (wr : World) : Prop :=
  ∃ (k cy : Nat) (os : List Nat), kv = .int .i64 (k : Int) ∧ c = .int .i64 (cy : Int) ∧ os.length = i + k ∧ Small os ∧ cy ≤ 65535 ∧ wr.ownsRow B 3 1 v (i + k) (cellsN os) ∧ Below B w wr ∧
    val os + 65536 ^ (i + k) * cy = 65536 ^ i * (p * val (ys.take k)) ∧ (k ≤ ys.length ∨ k = ys.length + 1 ∧ cy = 0)

theorem mul_next (ys os : List Nat) (i p B : Nat) (w wr w1 : World) (k cy s : Nat) (t : Int) (v' : Value) (hy : Small ys) (hp : p ≤ 65535) (hl : os.length = i + k) (ho : Small os) (hc : cy ≤ 65535)
    (hb : Below B w wr) (hv : val os + 65536 ^ (i + k) * cy = 65536 ^ i * (p * val (ys.take k))) (hk : k ≤ ys.length ∨ k = ys.length + 1 ∧ cy = 0)
    (hs : s = cy + p * ys.getD k 0) (ht : t = (s : Int))
    (hown : w1.ownsRow B 3 1 v' (i + k + 1) (cellsN os ++ [.int .i64 (t % 65536)])) (hb1 : Below B wr w1) (hgo : k < ys.length ∨ cy ≠ 0) :
    MulInv ys i p B w v' (.int .i64 (t / 65536)) (.int .i64 ((k : Int) + 1)) w1 := by
  subst ht
  have g2 := small_get hy k
  have hm : p * ys.getD k 0 ≤ 65535 * 65535 := Nat.mul_le_mul hp (by omega)
  refine ⟨k + 1, s / 65536, os ++ [s % 65536], by rw [show (k : Int) + 1 = ((k + 1 : Nat) : Int) from by omega], rfl, by simp [hl]; omega, small_snoc ho (by omega), by omega, by rw [cellsN_snoc]; exact hown, hb.trans hb1, mul_step os ys i k p cy s hl hv hs, ?_⟩
  by_cases h2 : k < ys.length
  · left; omega
  · rw [getD_past ys k h2, Nat.mul_zero] at hs
    right; omega

/-- What Mul's outer loop keeps. -/
def MulOut (xs : List Nat) (y : Nat) (w : World) (o iv : Value) (wr : World) : Prop :=
  ∃ i : Nat, i ≤ xs.length ∧ iv = .int .i64 (i : Int) ∧ RowV o (val (xs.take i) * y) wr ∧ Below w.heap.size w wr

theorem prod_dg (x y i : Nat) (h : x * y ≤ Big) : val ((dg x).take i) * y ≤ 4 * Big := by
  have h1 : val ((dg x).take i) ≤ x := by
    conv => rhs; rw [← val_dg x, ← List.take_append_drop i (dg x)]
    rw [val_append]; omega
  have := Nat.mul_le_mul_right y h1
  omega
theorem row_dg (x y i : Nat) (h : x * y ≤ Big) : 65536 ^ i * ((dg x).getD i 0 * y) ≤ 4 * Big := by
  have h1 : val ((dg x).take (i + 1)) ≤ x := by
    conv => rhs; rw [← val_dg x, ← List.take_append_drop (i + 1) (dg x)]
    rw [val_append]; omega
  rw [val_take'] at h1
  have := Nat.mul_le_mul_right y (show 65536 ^ i * (dg x).getD i 0 ≤ x by omega)
  rw [Nat.mul_assoc] at this
  omega

set_option maxHeartbeats 4000000 in
set_option maxRecDepth 100000 in
theorem mul_any (n m : Bool) (x y : Nat) (a b : Option Addr) (c1 c2 : Nat) (w : World) (hxy : x * y ≤ Big) (bx : x ≤ Big) (by' : y ≤ Big) (h1 : Row a (dg x) w) (h2 : Row b (dg y) w) :
    Calls Try.prog 39 #[.agg #[.bool n, .slice a (dg x).length c1], .agg #[.bool m, .slice b (dg y).length c2]] w (GivesNum (n != m) (x * y) w) := by
  have l1 := big_len x (by omega)
  have l2 := big_len y (by omega)
  have H1 := Lib.hid (((h1.alloc (.cells #[.bool n, .slice a (dg x).length c1] 66)).alloc (.cells #[.bool m, .slice b (dg y).length c2] 66)).alloc (.cells #[.bool false, .slice none 0 0] 66))
  have H2 := Lib.hid (((h2.alloc (.cells #[.bool n, .slice a (dg x).length c1] 66)).alloc (.cells #[.bool m, .slice b (dg y).length c2] 66)).alloc (.cells #[.bool false, .slice none 0 0] 66))
  have N1 := Lib.hid (((NumAt.new w n (.slice a (dg x).length c1)).alloc (.cells #[.bool m, .slice b (dg y).length c2] 66)).alloc (.cells #[.bool false, .slice none 0 0] 66))
  have N2 := Lib.hid ((NumAt.new (w.alloc (.cells #[.bool n, .slice a (dg x).length c1] 66)) m (.slice b (dg y).length c2)).alloc (.cells #[.bool false, .slice none 0 0] 66))
  rw [show (w.alloc (.cells #[.bool n, .slice a (dg x).length c1] 66)).heap.size = w.heap.size + 1 from by simp] at N2
  have N3 := Lib.hid (NumAt.new3 w (.cells #[.bool n, .slice a (dg x).length c1] 66) (.cells #[.bool m, .slice b (dg y).length c2] 66) 0)
  have BW := Lib.hid (below3 w (.cells #[.bool n, .slice a (dg x).length c1] 66) (.cells #[.bool m, .slice b (dg y).length c2] 66) (.cells #[.bool false, .slice none 0 0] 66) 0)
  have HP := Lib.hid (fun i => And.intro (prod_dg x y i hxy) (row_dg x y i hxy))
  have HV := Lib.hid (And.intro (val_dg x) (val_dg y))
  have HX := Lib.hid (small_dg x)
  have HY := Lib.hid (small_dg y)
  clear h1 h2 hxy bx by'
  generalize dg x = xs at *
  generalize dg y = ys at *
  go_enter Try.func39, Try.ntmps39
  go_wp2_with fail
  rw [show World.drewN (((w.alloc (.cells #[.bool n, .slice a xs.length c1] 66)).alloc (.cells #[.bool m, .slice b ys.length c2] 66)).alloc (.cells #[.bool false, .slice none 0 0] 66)) 0 = ((w.alloc (.cells #[.bool n, .slice a xs.length c1] 66)).alloc (.cells #[.bool m, .slice b ys.length c2] 66)).alloc (.cells #[.bool false, .slice none 0 0] 66) from rfl] at N3 BW
  generalize ((w.alloc (.cells #[.bool n, .slice a xs.length c1] 66)).alloc (.cells #[.bool m, .slice b ys.length c2] 66)).alloc (.cells #[.bool false, .slice none 0 0] 66) = W0 at *
  go_loopw [5, 6] (fun o i wr => MulOut xs y W0 o i wr) (fun _ i _ => xs.length - natOf i)
  case atStart => exact ⟨0, Nat.zero_le _, rfl, by rw [List.take_zero, val, Nat.zero_mul]; exact RowV.nil _, Below.refl _ _⟩
  case round =>
    obtain ⟨i, hi, rfl, ho, hB⟩ := hrel
    have NA := N1.out.below hB N1.out.lt
    have NB := N2.out.below hB N2.out.lt
    have n1 := NA.c1
    by_cases hlt : i < xs.length
    · obtain ⟨W1, rfl⟩ : ∃ W1, W1 = wr := ⟨_, rfl⟩
      obtain ⟨ba, oa, rfl, hba, hca⟩ := (H1.out.below hB (Nat.le_refl _)).pos hlt
      have ga := hca i hlt
      have sp := small_get HX.out i
      have HOUT := Lib.hid ho
      have HB := Lib.hid hB
      have HNA := Lib.hid NA
      have HNB := Lib.hid NB
      have HRB := Lib.hid (H2.out.below hB (Nat.le_refl _))
      have HST := Lib.hid (val_take' xs i)
      have HP1 := Lib.hid (HP.out i)
      clear hca ho hB NA NB
      generalize xs.getD i 0 = p at *
      go_wp2_with (first | (at_make; refine make_zeros _ rfl _ _ rfl i _ rfl rfl rfl (by omega) ?_; intro w0 hown0 hb0))
      have HO0 := Lib.hid hown0
      have HB0 := Lib.hid hb0
      clear hown0 hb0
      go_loopw [7, 8, 9] (fun v c kv w2 => MulInv ys i p W1.heap.size W1 v c kv w2) (fun _ _ kv _ => ys.length + 1 - natOf kv)
      case atStart => exact ⟨0, 0, List.replicate i 0, rfl, rfl, by simp, small_zeros _, by omega, HO0.out, HB0.out, by rw [val_zeros]; simp [val], by left; omega⟩
      case round =>
        obtain ⟨k, cy, os, rfl, rfl, hl, hs, hc, hown, hb, hv, hk⟩ := hrel
        have HNX := Lib.hid (fun s t v' w1 => mul_next ys os i p W1.heap.size W1 wr w1 k cy s t v' HY.out (by omega) hl hs hc hb hv hk)
        have HL := Lib.hid hl
        have HV2 := Lib.hid hv
        have HK := Lib.hid hk
        have kb : k ≤ ys.length + 1 := by omega
        have hsz := hb.size
        have HO := Lib.hid hown
        have HB2 := Lib.hid hb
        have HS := Lib.hid hs
        have nb1 := (hb.cell (p := ⟨w.heap.size + 1, 1, none⟩) HNB.out.lt).trans HNB.out.c1
        have na1 := (hb.cell (p := ⟨w.heap.size, 1, none⟩) HNA.out.lt).trans HNA.out.c1
        have ga2 := (hb.cell (p := ⟨ba, oa + i, none⟩) hba).trans ga
        clear hl hv hown hb hk hs
        have i2 : (cy : Int) ≤ 65535 := by omega
        have ip : (p : Int) ≤ 65535 := by omega
        by_cases g2 : k < ys.length
        · obtain ⟨b2, o2, rfl, q2, hc2⟩ := (HRB.out.below HB2.out (Nat.le_refl _)).pos g2
          have e2 := hc2 k g2
          have s2 := small_get HY.out k
          clear hc2
          generalize ys.getD k 0 = q at *
          have i3 : (q : Int) ≤ 65535 := by omega
          have hm : p * q ≤ 65535 * 65535 := Nat.mul_le_mul (by omega) (by omega)
          have hm1 : (p : Int) * q ≤ 4294836225 := by rw [Mul64.mulN]; omega
          have hm0 : 0 ≤ (p : Int) * q := by rw [Mul64.mulN]; omega
          clear hm
          go_wp2_with fail
          go_quiet (fail)
          have HO3 := Lib.hid (show (wr.drewN nq).ownsRow _ _ _ _ _ _ from HO.out)
          have HB3 := Lib.hid (below_drewN W1.heap.size wr nq)
          have hsz3 : W1.heap.size ≤ (wr.drewN nq).heap.size := hsz
          generalize wr.drewN nq = w3 at *
          go_wp2_with (first | (at_builtin; refine append_digit _ rfl (.tmp 50) (.tmp 53) rfl _ HO3.out rfl rfl (by omega) (by omega) ?_; intro v' w1 hown' hb'))
          go_roundw
          case rel => exact HNX.out (cy + p * q) _ _ _ rfl (by rw [Mul64.mulN]; omega) hown' (HB3.out.trans hb') (Or.inl g2)
          case measure => simp [natOf]; omega
        · have s2 := Lib.hid (getD_past ys k g2)
          by_cases gc : cy = 0
          · subst gc
            obtain ⟨W2, rfl⟩ : ∃ W2, W2 = wr := ⟨_, rfl⟩
            have hl := HL.out
            have hown2 := HO.out
            rw [← hl] at hown2
            obtain ⟨a', cap', hu, t, fin, _⟩ := own_trims' (w := W1) hown2 HS.out HB2.out
            rw [hl] at hu t
            subst hu
            have ev : val os = 65536 ^ i * (p * y) := by
              have := HV2.out
              rw [val_take_all ys _ (by omega), HV.out.2] at this
              simpa using this
            rw [ev] at t fin
            have T := Lib.hid t
            have HR1 := Lib.hid (show RowV (.slice a' (dg (65536 ^ i * (p * y))).length cap') _ W2 from ⟨a', cap', rfl, fin⟩)
            have HO2 := Lib.hid (HOUT.out.below HB2.out (Nat.le_refl _))
            have P := Lib.hid (plus_v _ _ _ _ W2 HP1.out.1 HP1.out.2 HO2.out HR1.out)
            have EQ := Lib.hid (show val (List.take i xs) * y + 65536 ^ i * (p * y) = val (List.take (i + 1) xs) * y by rw [HST.out, Nat.add_mul, Nat.mul_assoc])
            clear t fin ev hown2 hl
            go_wp2_with fail
            refine T.out.mono ?_
            rintro e w3 ⟨rfl, rfl⟩
            go_wp2_with fail
            refine P.out.mono ?_
            rintro e w4 ⟨v4, rfl, hv4, b4⟩
            rw [EQ.out] at hv4
            go_wp2_with fail
            go_roundw
            case rel => exact ⟨i + 1, by omega, by go_num, hv4, (HB.out.trans (HB2.out.mono HB.out.size)).trans (b4.mono (Nat.le_trans HB.out.size HB2.out.size))⟩
            case measure => simp [natOf]; omega
          · have hcp : 0 < (cy : Int) := by omega
            have kb2 : k ≤ ys.length := by have := HK.out; omega
            go_wp2_with (first | (at_builtin; refine append_digit _ rfl (.tmp 50) (.tmp 53) rfl _ HO.out rfl rfl (by omega) (by omega) ?_; intro v' w1 hown' hb'))
            go_roundw
            case rel => exact HNX.out cy _ _ _ (by rw [s2.out, Nat.mul_zero]; rfl) rfl hown' hb' (Or.inr gc)
            case measure => simp [natOf]; omega
    · obtain rfl : i = xs.length := by omega
      have NR := N3.out.below hB N3.out.lt
      have n0 := NA.c0; have m0 := NB.c0
      have r0 := NR.c0; have r1 := NR.c1; have y0 := NR.z0; have y1 := NR.z1
      rw [List.take_length, HV.out.1] at ho
      obtain ⟨aq, cq, rfl, hqr⟩ := ho
      have HQR := Lib.hid hqr
      have HNR := Lib.hid NR
      have HB2 := Lib.hid (BW.out.trans (hB.mono BW.out.size))
      clear NA NB NR hqr hB
      cases n <;> cases m
      all_goals
        go_wp2_with fail
        exact num_close Try.results39 HNR.out HB2.out (by omega) HQR.out rfl
end Go.Proofs.Ytgkjbmejfcijkaa
namespace Go.Proofs.Ytgkjbmejfcijkaa
open Go.RowKit Go.Shelf
theorem fair_big (z : Int) (h : z.natAbs ≤ 4 * Big) : Fair z := by
  unfold Fair
  have h6 : (65536 : Nat) ^ 237 ≤ 65536 ^ 246 := Nat.pow_le_pow_right (n := 65536) (by decide) (by decide)
  refine Nat.lt_of_lt_of_le (Nat.lt_of_le_of_lt h ?_) h6
  unfold Big; decide

theorem NumV.mk {neg : Bool} {x : Nat} {a : Option Addr} {cap : Nat} {w : World} (h : RowV (.slice a (dg x).length cap) x w) : NumV (.agg #[.bool neg, .slice a (dg x).length cap]) (sgn neg x) w := by
  obtain ⟨a', cap', e, h1, h2, h3⟩ := h
  obtain ⟨rfl, rfl⟩ : a = a' ∧ cap = cap' := by simpa using e
  exact ⟨neg, x, a, cap, rfl, h1, h2, h3, rfl⟩

theorem mulz (v1 v2 : Value) (z1 z2 : Int) (w : World) (hb : (z1 * z2).natAbs ≤ Big) (b1 : z1.natAbs ≤ Big) (b2 : z2.natAbs ≤ Big) (h1 : NumV v1 z1 w) (h2 : NumV v2 z2 w) :
    Calls Try.prog 39 #[v1, v2] w (GivesZ (z1 * z2) w) := by
  obtain ⟨n, x, a, c1, rfl, r1, _, _, rfl⟩ := h1
  obtain ⟨m, y, b, c2, rfl, r2, _, _, rfl⟩ := h2
  rw [Int.natAbs_mul, sgn_natAbs, sgn_natAbs] at hb
  rw [sgn_natAbs] at b1 b2
  refine (mul_any n m x y a b c1 c2 w hb b1 b2 r1 r2).mono fun e w' hg => ?_
  have := hg.toZ
  rwa [show sgn (n != m) (x * y) = sgn n x * sgn m y from by cases n <;> cases m <;> simp [sgn, Int.neg_mul, Int.mul_neg]] at this

theorem num_closeZ {f : Func} (hres : f.results = #[ResultVar.cell 4 66]) {w wf : World} {r N : Nat} {neg b0 : Bool} {x a' : Option Addr} {n c cap' : Nat} {ts : Array Value} {z : Int}
    (NA : NumAt r b0 (.slice x n c) wf) (hB : Below w.heap.size w wf) (hr : w.heap.size ≤ r) (F : Row a' (dg N) wf ∧ (dg N).length ≤ cap' ∧ cap' ≤ maxLen) (hz : z = sgn neg N) (hts : ts[4]? = some (.pointer (some ⟨r, 0, none⟩))) :
    bodyPost Try.prog f (GivesZ z w) Exit.ret { tmps := ts, defers := [] } ((wf.setCell ⟨r, 0, none⟩ (.bool neg)).setCell ⟨r, 1, none⟩ (.slice a' (dg N).length cap')) := by
  have F1 := NA.set (neg' := neg) (s' := .slice a' (dg N).length cap')
  refine bodyPost_ret (v := .agg #[.bool neg, .slice a' (dg N).length cap']) (by simp [results, hres, go_sem, F1.c0, F1.c1, hts]) rfl ⟨_, rfl, ⟨neg, N, a', cap', rfl, F.1.far NA, F.2.1, F.2.2, hz⟩, ?_⟩
  exact Below.setCell (Below.setCell hB hr _) hr _
end Go.Proofs.Ytgkjbmejfcijkaa
namespace Go.Proofs.Ytgkjbmejfcijkaa
open Go.RowKit Go.Shelf

theorem num_close2 {f : Func} (hres : f.results = #[ResultVar.cell 2 66]) {w wf : World} {r N n' : Nat} {neg b0 : Bool} {x a' : Option Addr} {n c cap' : Nat} {ts : Array Value} (hn : n' = (dg N).length)
    (NA : NumAt r b0 (.slice x n c) wf) (hB : Below w.heap.size w wf) (hr : w.heap.size ≤ r) (F : Row a' (dg N) wf ∧ (dg N).length ≤ cap' ∧ cap' ≤ maxLen) (hts : ts[2]? = some (.pointer (some ⟨r, 0, none⟩))) :
    bodyPost Try.prog f (GivesNum neg N w) Exit.ret { tmps := ts, defers := [] } ((wf.setCell ⟨r, 0, none⟩ (.bool neg)).setCell ⟨r, 1, none⟩ (.slice a' n' cap')) := by
  subst hn
  have F1 := NA.set (neg' := neg) (s' := .slice a' (dg N).length cap')
  refine bodyPost_ret (v := .agg #[.bool neg, .slice a' (dg N).length cap']) (by simp [results, hres, go_sem, F1.c0, F1.c1, hts]) rfl ⟨a', cap', rfl, F.1.far NA, F.2.1, F.2.2, ?_⟩
  exact Below.setCell (Below.setCell hB hr _) hr _

end Go.Proofs.Ytgkjbmejfcijkaa
namespace Go.Proofs.Ytgkjbmejfcijkaa
open Go.RowKit Go.Shelf

/-- What Of's loop keeps: the digits so far, and what is left. -/
def Of2Inv (N B : Nat) (w : World) (c v : Value) (wr : World) : Prop :=
  ∃ (m : Nat) (os : List Nat), c = .int .u64 (m : Int) ∧ wr.ownsRow B 3 1 v os.length (cellsN os) ∧ Below B w wr ∧ dg N = os ++ dg m ∧ m ≤ N

def natU2 : Value → Nat
  | .int _ n => n.toNat
  | _ => 0

theorem of2_next (N B m : Nat) (os : List Nat) (w wr w1 : World) (v' : Value) (cI dI : Int) (hm : 0 < m) (hd : dg N = os ++ dg m) (hle : m ≤ N) (hb : Below B w wr) (hb1 : Below B wr w1) (e1 : cI = ((m / 65536 : Nat) : Int)) (e2 : dI = ((m % 65536 : Nat) : Int))
    (hown : w1.ownsRow B 3 1 v' (os.length + 1) (cellsN os ++ [.int .i64 dI])) : Of2Inv N B w (.int .u64 cI) v' w1 := by
  subst e1 e2
  refine ⟨m / 65536, os ++ [m % 65536], rfl, ?_, hb.trans hb1, ?_, by omega⟩
  · rw [cellsN_snoc, List.length_append, List.length_cons, List.length_nil]; exact hown
  · rw [hd, dg_pos m (by omega)]; simp

set_option maxHeartbeats 2000000 in
theorem of2_any (N : Nat) (w : World) (hN : N < 18446744073709551616) : Calls Try.prog 37 #[.int .u64 (N : Int)] w (GivesNum false N w) := by
  have NA := Lib.hid (NumAt.new w false (.slice none 0 0))
  have BW := Lib.hid ((Below.refl w.heap.size w).alloc (Nat.le_refl _) (.cells #[.bool false, .slice none 0 0] 66))
  have HL := Lib.hid (dg_length 4 N (by omega))
  have HN := Lib.hid hN
  clear hN
  go_enter Try.func37, Try.ntmps37
  go_wp2_with fail
  go_loopw [0, 3] (fun c v wr => Of2Inv N (w.heap.size + 1) (w.alloc (.cells #[.bool false, .slice none 0 0] 66)) c v wr) (fun c _ _ => natU2 c)
  case atStart => exact ⟨N, [], rfl, World.ownsRow_nil _ _ _ _, Below.refl _ _, rfl, Nat.le_refl _⟩
  case round =>
    obtain ⟨m, os, rfl, hown, hb, hd, hle⟩ := hrel
    have hlen := congrArg List.length hd
    rw [List.length_append] at hlen
    have hl := HL.out
    have hN := HN.out
    have ho : os.length ≤ 4 := by omega
    have hm64 : (m : Int) ≤ 18446744073709551615 := by omega
    have HD := Lib.hid hd
    have HO := Lib.hid hown
    have HB := Lib.hid hb
    have HLE := Lib.hid hle
    have hsz := hb.size
    simp at hsz
    clear hlen hl hN hd hown hb hle
    by_cases hz : 0 < (m : Int)
    · have hw : (m : Int) % 65536 ≤ 65535 := by omega
      go_wp2_with (first | (at_builtin; refine append_digit _ rfl (.tmp 6) (.tmp 10) rfl _ HO.out rfl rfl (by omega) (by omega) ?_; intro v' w1 hown' hb'))
      go_roundw
      case rel => exact of2_next N _ m os _ wr w1 v' _ _ (by omega) HD.out HLE.out HB.out hb' (by omega) (by omega) hown'
      case measure => simp only [natU2]; omega
    · obtain rfl : m = 0 := by omega
      have hd := HD.out
      rw [dg_zero, List.append_nil] at hd
      have ho2 := HO.out
      rw [← hd] at ho2
      obtain ⟨a', cap', hv, hr, hc, hm⟩ := row_of_own ho2
      subst hv
      have F := Lib.hid (And.intro hr (And.intro hc hm))
      have NA2 := NA.out.below HB.out (Nat.lt_succ_self _)
      have r0 := NA2.c0; have r1 := NA2.c1; have y0 := NA2.z0; have y1 := NA2.z1
      have HBf := Lib.hid (BW.out.trans (HB.out.mono (Nat.le_succ _)))
      clear hd ho2 hr hc hm hz
      go_wp2_with fail
      exact num_close2 Try.results37 rfl NA2 HBf.out (Nat.le_refl _) F.out rfl
/-- Of, of any number of 64 bits. -/
theorem of2_z (N : Nat) (w : World) (hN : N < 18446744073709551616) : Calls Try.prog 37 #[.int .u64 (N : Int)] w (GivesZ (N : Int) w) :=
  (of2_any N w hN).mono fun _ _ hg => hg.toZ
end Go.Proofs.Ytgkjbmejfcijkaa
namespace Go.Proofs.Ytgkjbmejfcijkaa
open Go.RowKit Go.Shelf

/-- Is the difference above 0? -/
theorem above_bool (neg : Bool) (z : Nat) (x y : Nat) (h : (x : Int) + -(y : Int) = sgn neg z) : (!neg && decide (0 < (dg z).length)) = decide (y < x) := by
  have hz : (0 < (dg z).length) ↔ 0 < z := by
    rw [List.length_pos_iff, ne_eq, dg_nil]; omega
  cases neg
  · simp only [sgn, Bool.false_eq_true, if_false, Bool.not_false, Bool.true_and] at h ⊢
    rw [decide_eq_decide, hz]; omega
  · simp only [sgn, if_true, Bool.not_true, Bool.false_and] at h ⊢
    rw [eq_comm, decide_eq_false_iff_not]; omega

theorem minus_rep {m : Bool} {z y : Nat} (h : (y : Int) = sgn m z) : -(y : Int) = sgn true z := by
  cases m <;> simp [sgn] at h ⊢ <;> omega

set_option maxHeartbeats 1000000 in
theorem above_z (v1 v2 : Value) (x y : Nat) (w : World) (bx : x ≤ 4 * Big) (by' : y ≤ 4 * Big) (h1 : NumV v1 (x : Int) w) (h2 : NumV v2 (y : Int) w) :
    Calls Try.prog 38 #[v1, v2] w fun e w' => e = .returned (.bool (decide (y < x))) ∧ Below w.heap.size w w' := by
  obtain ⟨n, zx, a, c1, rfl, r1, l1, m1, ex⟩ := h1
  obtain ⟨m, zy, b, c2, rfl, r2, l2, m2, ey⟩ := h2
  have hB : Below w.heap.size w ((w.alloc (.cells #[.bool n, .slice a (dg zx).length c1] 66)).alloc (.cells #[.bool true, .slice b (dg zy).length c2] 66)) :=
    ((Below.refl _ w).alloc (Nat.le_refl _) _).alloc (by simp) _
  have P := Lib.hid (add_z (.agg #[.bool n, .slice a (dg zx).length c1]) (.agg #[.bool true, .slice b (dg zy).length c2]) (x : Int) (-(y : Int)) _ (fair_big _ (by omega)) (fair_big _ (by omega))
    ⟨n, zx, a, c1, rfl, r1.below hB (Nat.le_refl _), l1, m1, ex⟩ ⟨true, zy, b, c2, rfl, r2.below hB (Nat.le_refl _), l2, m2, minus_rep ey⟩)
  have HB := Lib.hid hB
  clear hB r1 r2 ex ey bx by' l1 m1 l2 m2
  generalize (dg zx).length = nx at *
  generalize (dg zy).length = ny at *
  go_enter Try.func38, Try.ntmps38
  go_wp2_with fail
  refine P.out.mono ?_
  rintro e w1 ⟨v, rfl, ⟨neg, z, a', c', rfl, r', l', m', ez⟩, hb⟩
  have HE := Lib.hid (above_bool neg z x y ez)
  clear r' l' m' ez
  generalize (dg z).length = nz at *
  cases neg
  · go_wp2_with fail
    go_ret
    refine ⟨by rw [← HE.out]; simp, ?_⟩
    exact (HB.out.trans (hb.mono HB.out.size)).alloc (Nat.le_trans HB.out.size hb.size) _
  · go_wp2_with fail
    go_ret
    refine ⟨by rw [← HE.out]; simp, ?_⟩
    exact (HB.out.trans (hb.mono HB.out.size)).alloc (Nat.le_trans HB.out.size hb.size) _

theorem big_word (x : Nat) (h : x < 18446744073709551616) : x ≤ Big := by
  have : (18446744073709551616 : Nat) ≤ Big := by unfold Big; decide
  omega
theorem big_two (x : Nat) (h : x < 340282366920938463463374607431768211456) : x ≤ Big := by
  have : (340282366920938463463374607431768211456 : Nat) ≤ Big := by unfold Big; decide
  omega

end Go.Proofs.Ytgkjbmejfcijkaa
