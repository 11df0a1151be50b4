/-
  The contract of the document's answer for layer 1: Add, the sum of two numbers with signs.
-/
import Derived.Test.YthnjdncnmdmjaaaOf
namespace Go.Proofs.Ythnjdncnmdmjaaa
open Go.RowKit Go.Shelf

theorem bcell {B : Nat} {W w1 : World} (hb : Below B W w1) : (∀ b o, b < B → w1.cell? ⟨b, o, none⟩ = W.cell? ⟨b, o, none⟩) ∧ (∀ b o, b < B → w1.frozen? ⟨b, o, none⟩ = W.frozen? ⟨b, o, none⟩) :=
  ⟨fun b o h => hb.cell (p := ⟨b, o, none⟩) h, fun b o h => hb.frozen (p := ⟨b, o, none⟩) h⟩

theorem Row.alloc {a : Option Addr} {zs : List Nat} {w : World} (h : Row a zs w) (o : Obj) : Row a zs (w.alloc o) := h.below ((Below.refl w.heap.size w).alloc (Nat.le_refl _) o) (Nat.le_refl _)

theorem NumAt.new3 (w : World) (o1 o2 : Obj) (k : Nat) : NumAt (w.heap.size + 1 + 1) false (.slice none 0 0) (World.drewN (((w.alloc o1).alloc o2).alloc (.cells #[.bool false, .slice none 0 0] 66)) k) := by
  have := NumAt.new ((w.alloc o1).alloc o2) false (.slice none 0 0)
  rw [show ((w.alloc o1).alloc o2).heap.size = w.heap.size + 1 + 1 from by simp] at this
  exact this
theorem below3 (w : World) (o1 o2 o3 : Obj) (k : Nat) : Below w.heap.size w (World.drewN (((w.alloc o1).alloc o2).alloc o3) k) := by
  have h := (((Below.refl w.heap.size w).alloc (Nat.le_refl _) o1).alloc (by simp) o2).alloc (by simp; omega) o3
  exact ⟨h.os, h.tape, h.output, h.size, h.block⟩

theorem add_close {w w' : World} {N : Nat} {neg : Bool} {a' : Option Addr} {cap' : Nat} {ts : Array Value} {o1 o2 : Obj} (k : Nat)
    (hb : Below (World.drewN (((w.alloc o1).alloc o2).alloc (.cells #[.bool false, .slice none 0 0] 66)) k).heap.size (World.drewN (((w.alloc o1).alloc o2).alloc (.cells #[.bool false, .slice none 0 0] 66)) k) w')
    (F : Row a' (dg N) w' ∧ (dg N).length ≤ cap' ∧ cap' ≤ maxLen) (hts : ts[4]? = some (.pointer (some ⟨w.heap.size + 1 + 1, 0, none⟩))) :
    bodyPost Try.prog Try.f66 (GivesNum neg N w) Exit.ret { tmps := ts, defers := [] } ((w'.setCell ⟨w.heap.size + 1 + 1, 0, none⟩ (.bool neg)).setCell ⟨w.heap.size + 1 + 1, 1, none⟩ (.slice a' (dg N).length cap')) := by
  have NA0 := NumAt.new3 w o1 o2 k
  have NA := NA0.below hb NA0.lt
  have F1 := NA.set (neg' := neg) (s' := .slice a' (dg N).length cap')
  refine bodyPost_ret (v := .agg #[.bool neg, .slice a' (dg N).length cap']) (by simp [results, Try.results66, go_sem, F1.c0, F1.c1, hts]) rfl ⟨a', cap', rfl, F.1.far NA, F.2.1, F.2.2, ?_⟩
  have h3 := below3 w o1 o2 (.cells #[.bool false, .slice none 0 0] 66) k
  exact Below.setCell (Below.setCell (h3.trans (hb.mono h3.size)) (by show w.heap.size ≤ w.heap.size + 1 + 1; omega) _) (by show w.heap.size ≤ w.heap.size + 1 + 1; omega) _

theorem add_same (n : Bool) (x y : Nat) (a b : Option Addr) (c1 c2 : Nat) (w : World) (l1 : (dg x).length ≤ 100000000) (l2 : (dg y).length ≤ 100000000) (h1 : Row a (dg x) w) (h2 : Row b (dg y) w) :
    Calls Try.prog 66 #[.agg #[.bool n, .slice a (dg x).length c1], .agg #[.bool n, .slice b (dg y).length c2]] w (GivesNum n (x + y) w) := by
  have P := Lib.hid (fun w k1 k2 => plus_any x y a b c1 c2 w l1 l2 k1 k2)
  have H1 := Lib.hid h1
  have H2 := Lib.hid h2
  clear h1 h2 l1 l2
  generalize (dg x).length = nx at *
  generalize (dg y).length = ny at *
  have t1 : (n == n) = true := by simp
  go_enter Try.func66, Try.ntmps66
  go_wp2_with fail
  go_region_held3 (fun w' => w'.cell? ⟨w.heap.size, 0, none⟩ = some (.bool n) ∧ w'.cell? ⟨w.heap.size, 1, none⟩ = some (.slice a nx c1) ∧ w'.cell? ⟨w.heap.size + 1, 1, none⟩ = some (.slice b ny c2)) (simp [go_sem, World.cell?_alloc_past, *])
    (first | (go_at_call 82; refine (P.out _ ?_ ?_).mono ?_; (exact ((H1.out.alloc _).alloc _).alloc _); (exact ((H2.out.alloc _).alloc _).alloc _); rintro e w' ⟨a', cap', rfl, hr, hl, hm, hb⟩; obtain ⟨hc, hf⟩ := bcell hb))
  clear hc hf
  go_wp2_with fail
  exact add_close 1 hb ⟨hr, hl, hm⟩ rfl

theorem add_less (n m : Bool) (hnm : (n == m) = false) (x y : Nat) (hxy : x < y) (a b : Option Addr) (c1 c2 : Nat) (w : World) (l1 : (dg x).length ≤ 100000000) (l2 : (dg y).length ≤ 100000000) (h1 : Row a (dg x) w) (h2 : Row b (dg y) w) :
    Calls Try.prog 66 #[.agg #[.bool n, .slice a (dg x).length c1], .agg #[.bool m, .slice b (dg y).length c2]] w (GivesNum m (y - x) w) := by
  have P := Lib.hid (fun w k1 k2 => minus_any y x b a c2 c1 w (by omega) l2 k2 k1)
  have L := Lib.hid (fun w k1 k2 => less_any a b (dg x) (dg y) c1 c2 w (small_dg x) (small_dg y) (by omega) k1 k2)
  rw [less_dg, show decide (x < y) = true from by simp [hxy]] at L
  have H1 := Lib.hid h1
  have H2 := Lib.hid h2
  clear h1 h2 l1 l2
  generalize (dg x).length = nx at *
  generalize (dg y).length = ny at *
  clear hxy
  go_enter Try.func66, Try.ntmps66
  go_wp2_with fail
  refine (L.out _ (by exact ((H1.out.alloc _).alloc _).alloc _) (by exact ((H2.out.alloc _).alloc _).alloc _)).mono ?_
  rintro e w1 ⟨rfl, q, rfl⟩
  go_wp2_with fail
  go_region_held3 (fun w' => w'.cell? ⟨w.heap.size, 1, none⟩ = some (.slice a nx c1) ∧ w'.cell? ⟨w.heap.size + 1, 0, none⟩ = some (.bool m) ∧ w'.cell? ⟨w.heap.size + 1, 1, none⟩ = some (.slice b ny c2)) (simp [go_sem, World.cell?_alloc_past, *])
    (first | (go_at_call 84; refine (P.out _ ?_ ?_).mono ?_; (exact ((H1.out.alloc _).alloc _).alloc _); (exact ((H2.out.alloc _).alloc _).alloc _); rintro e w' ⟨a', cap', rfl, hr, hl, hm, hb⟩; obtain ⟨hc, hf⟩ := bcell hb))
  clear hc hf
  go_wp2_with fail
  exact add_close (q + 1) hb ⟨hr, hl, hm⟩ rfl

theorem add_more (n m : Bool) (hnm : (n == m) = false) (x y : Nat) (hxy : y ≤ x) (a b : Option Addr) (c1 c2 : Nat) (w : World) (l1 : (dg x).length ≤ 100000000) (h1 : Row a (dg x) w) (h2 : Row b (dg y) w) :
    Calls Try.prog 66 #[.agg #[.bool n, .slice a (dg x).length c1], .agg #[.bool m, .slice b (dg y).length c2]] w (GivesNum n (x - y) w) := by
  have P := Lib.hid (fun w k1 k2 => minus_any x y a b c1 c2 w hxy l1 k1 k2)
  have L := Lib.hid (fun w k1 k2 => less_any a b (dg x) (dg y) c1 c2 w (small_dg x) (small_dg y) (by omega) k1 k2)
  rw [less_dg, show decide (x < y) = false from by simp; omega] at L
  have H1 := Lib.hid h1
  have H2 := Lib.hid h2
  clear h1 h2 l1
  generalize (dg x).length = nx at *
  generalize (dg y).length = ny at *
  clear hxy
  go_enter Try.func66, Try.ntmps66
  go_wp2_with fail
  refine (L.out _ (by exact ((H1.out.alloc _).alloc _).alloc _) (by exact ((H2.out.alloc _).alloc _).alloc _)).mono ?_
  rintro e w1 ⟨rfl, q, rfl⟩
  go_wp2_with fail
  go_region_held3 (fun w' => w'.cell? ⟨w.heap.size, 0, none⟩ = some (.bool n) ∧ w'.cell? ⟨w.heap.size, 1, none⟩ = some (.slice a nx c1) ∧ w'.cell? ⟨w.heap.size + 1, 1, none⟩ = some (.slice b ny c2)) (simp [go_sem, World.cell?_alloc_past, *])
    (first | (go_at_call 84; refine (P.out _ ?_ ?_).mono ?_; (exact ((H1.out.alloc _).alloc _).alloc _); (exact ((H2.out.alloc _).alloc _).alloc _); rintro e w' ⟨a', cap', rfl, hr, hl, hm, hb⟩; obtain ⟨hc, hf⟩ := bcell hb))
  clear hc hf
  go_wp2_with fail
  exact add_close (q + 1) hb ⟨hr, hl, hm⟩ rfl

/-- A number with its sign. -/
def sgn (neg : Bool) (x : Nat) : Int := if neg then -(x : Int) else (x : Int)
theorem sgn_natAbs (neg : Bool) (x : Nat) : (sgn neg x).natAbs = x := by cases neg <;> simp [sgn]
theorem sgn_of (a : Int) : sgn (decide (a < 0)) a.natAbs = a := by
  unfold sgn
  by_cases h : a < 0 <;> simp [h] <;> omega

/-- The value is a number of the document's: its sign and its digits. -/
def NumV (v : Value) (z : Int) (w : World) : Prop :=
  ∃ (neg : Bool) (x : Nat) (a : Option Addr) (cap : Nat), v = .agg #[.bool neg, .slice a (dg x).length cap] ∧ Row a (dg x) w ∧ (dg x).length ≤ cap ∧ cap ≤ maxLen ∧ z = sgn neg x
theorem NumV.below {v : Value} {z : Int} {w w' : World} (h : NumV v z w) {B : Nat} (hb : Below B w w') (hB : w.heap.size ≤ B) : NumV v z w' := by
  obtain ⟨neg, x, a, cap, h1, h2, h3, h4, h5⟩ := h
  exact ⟨neg, x, a, cap, h1, h2.below hb hB, h3, h4, h5⟩
def GivesZ (z : Int) (w : World) (e : Ending) (w' : World) : Prop := ∃ v, e = .returned v ∧ NumV v z w' ∧ Below w.heap.size w w'
theorem GivesNum.toZ {neg : Bool} {x : Nat} {w : World} {e : Ending} {w' : World} (h : GivesNum neg x w e w') : GivesZ (sgn neg x) w e w' := by
  obtain ⟨a, cap, he, h1, h2, h3, h4⟩ := h
  exact ⟨_, he, ⟨neg, x, a, cap, rfl, h1, h2, h3, rfl⟩, h4⟩

/-- No number here has more than a thousand digits. -/
def Fair (z : Int) : Prop := z.natAbs < 65536 ^ 246
theorem Fair.len {neg : Bool} {x : Nat} (h : Fair (sgn neg x)) : (dg x).length ≤ 100000000 := by
  unfold Fair at h
  rw [sgn_natAbs] at h
  have := dg_length 246 x h
  omega

/-- Of: any plain number. -/
theorem of_z (a : Int) (w : World) (h : I64 a) : Calls Try.prog 53 #[.int .i64 a] w (GivesZ a w) := by
  refine (of_any a w h).mono fun e w' hg => ?_
  have := hg.toZ
  rwa [sgn_of] at this

/-- Add: the sum of any two numbers. -/
theorem add_z (v1 v2 : Value) (z1 z2 : Int) (w : World) (f1 : Fair z1) (f2 : Fair z2) (h1 : NumV v1 z1 w) (h2 : NumV v2 z2 w) :
    Calls Try.prog 66 #[v1, v2] w (GivesZ (z1 + z2) w) := by
  obtain ⟨n, x, a, c1, rfl, r1, _, _, rfl⟩ := h1
  obtain ⟨m, y, b, c2, rfl, r2, _, _, rfl⟩ := h2
  by_cases hnm : n = m
  · subst hnm
    rw [show sgn n x + sgn n y = sgn n (x + y) from by cases n <;> simp [sgn] <;> omega]
    exact (add_same n x y a b c1 c2 w f1.len f2.len r1 r2).mono fun e w' hg => hg.toZ
  · have hb : (n == m) = false := by simp [hnm]
    by_cases hxy : x < y
    · rw [show sgn n x + sgn m y = sgn m (y - x) from by cases n <;> cases m <;> simp [sgn] at * <;> omega]
      exact (add_less n m hb x y hxy a b c1 c2 w f1.len f2.len r1 r2).mono fun e w' hg => hg.toZ
    · rw [show sgn n x + sgn m y = sgn n (x - y) from by cases n <;> cases m <;> simp [sgn] at * <;> omega]
      exact (add_more n m hb x y (by omega) a b c1 c2 w f1.len r1 r2).mono fun e w' hg => hg.toZ
end Go.Proofs.Ythnjdncnmdmjaaa
