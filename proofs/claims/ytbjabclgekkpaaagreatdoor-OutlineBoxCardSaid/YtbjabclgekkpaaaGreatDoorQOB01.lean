/- Joined: Base, In32, PtMem, NearD, AffMath, AffMem, PtTrod, AffPts, AffThenM, AffAllM, AffAllP, Iter, RangeOpen, Feed, RowG, CurveMath, CrvMem, CrvRow, EdgRow, PathMath. -/
import Derived.Test.YtbjabclgekkpaaaGreatDoorProg
import Derived.BigFrame
import Derived.BigQuiet
import Derived.Carry
import Derived.ChangeSlices
import Derived.Deep.AppendLies
import Derived.Deep.RegionHeld3
import Derived.Deep.RegionWith
import Derived.Deep.Slices
import Derived.Deep.Upon
import Derived.KernelRfl
import Derived.Laws.Bits64b
import Derived.Laws.Externs
import Derived.Laws.Pointers
import Derived.Lib.Hide
import Derived.Lib.Mul64
import Derived.Lib.SmallJoins
import Derived.LoopIn
import Derived.LoopNIn
import Derived.Maps.AppendAt
import Derived.OpenShut
import Derived.OwnWalk
import Derived.OwnWalkIn
import Derived.ProofKit
import Derived.RangeFuncBound
import Derived.RangeFuncBox
import Derived.RangeFuncCalls
import Derived.RangeFuncLeaves
import Derived.RangeFuncNested
import Derived.RowKit3
import Derived.Scope
import Derived.Shelf.Abstract
import Derived.Shelf.RegionOpen
import Derived.Shelf.Spec.BitsCarry
import Derived.StillTactics
import Derived.StillTailTactics
import Derived.TacticsInMore
import Derived.WalkKit
import Derived.WalkSpells
namespace Go.Proofs.YtbjabclgekkpaaaGreatDoor
open Go.ChangeShapes Go.WideShapes Go.ChangeAt Go.RowKit Go.Shelf
theorem own : ownKnob Tryz.prog.godebug = none := by kernel_rfl
theorem laidOut : laidOutB Tryz.prog = true := by kernel_rfl
/-- A plain number. -/
def I64 (x : Int) : Prop := -9223372036854775808 ≤ x ∧ x ≤ 9223372036854775807
/- Plain facts on words of 64 bits (own proofs: the library's text that held the like of them wants a great module that takes half an hour on a new machine). -/
namespace Mul64
theorem mulN (x y : Nat) : (x : Int) * (y : Int) = ((x * y : Nat) : Int) := by push_cast; rfl
theorem addN (x y : Nat) : (x : Int) + (y : Int) = ((x + y : Nat) : Int) := by push_cast; rfl
theorem divN (x : Nat) : (x : Int) / 4294967296 = ((x / 4294967296 : Nat) : Int) := by omega
theorem wrapM (x : Nat) : IntKind.u64.wrap (x : Int) = ((x % 18446744073709551616 : Nat) : Int) := by
  rw [IntKind.wrap_u64]; omega
theorem wrapN (x : Nat) (h : x < 18446744073709551616) : IntKind.u64.wrap (x : Int) = (x : Int) := by
  rw [wrapM, Nat.mod_eq_of_lt h]
theorem maskN (x : Nat) (h : x < 18446744073709551616) : bits .and .u64 (x : Int) 4294967295 = ((x % 4294967296 : Nat) : Int) := by
  have k : x &&& 4294967295 = x % 4294967296 := Nat.and_two_pow_sub_one_eq_mod x 32
  rw [← k]
  exact bits_and_u64_nat x 4294967295 h (by decide)
end Mul64
end Go.Proofs.YtbjabclgekkpaaaGreatDoor
namespace Go.Proofs.YtbjabclgekkpaaaGreatDoor
def In32 (z : Int) : Prop := -4294967296 < z ∧ z < 4294967296
instance (z : Int) : Decidable (In32 z) := by unfold In32; infer_instance
end Go.Proofs.YtbjabclgekkpaaaGreatDoor
namespace Go.Proofs.YtbjabclgekkpaaaGreatDoor
open Go.RowKit Go.Shelf
def PBox (n : Nat) (x y : Int) (w : World) : Prop := w.heap[n]? = some (.cells #[.int .i64 x, .int .i64 y] 40)
theorem PBox.new (w : World) (x y : Int) : PBox w.heap.size x y (w.alloc (.cells #[.int .i64 x, .int .i64 y] 40)) := World.alloc_heap_new w _
theorem PBox.c0 {n : Nat} {x y : Int} {w : World} (h : PBox n x y w) : w.cell? ⟨n, 0, none⟩ = some (.int .i64 x) := by unfold PBox at h; simp [World.cell?, h]
theorem PBox.c1 {n : Nat} {x y : Int} {w : World} (h : PBox n x y w) : w.cell? ⟨n, 1, none⟩ = some (.int .i64 y) := by unfold PBox at h; simp [World.cell?, h]
theorem PBox.z {n : Nat} {x y : Int} {w : World} (h : PBox n x y w) (o : Nat) : w.frozen? ⟨n, o, none⟩ = false := by unfold PBox at h; simp [World.frozen?, h]
theorem PBox.lt {n : Nat} {x y : Int} {w : World} (h : PBox n x y w) : n < w.heap.size := (Array.getElem?_eq_some_iff.1 h).1
theorem PBox.next {n : Nat} {x y : Int} {w w' : World} (h : PBox n x y w) (t : Below w.heap.size w w') : PBox n x y w' := by
  have := h.lt
  unfold PBox at *; rw [t.block n this]; exact h
theorem In32.i {x : Int} (h : In32 x) : I64 x := by obtain ⟨h1, h2⟩ := h; exact ⟨by omega, by omega⟩
theorem PBox.set {n : Nat} {x y : Int} {w : World} (h : PBox n x y w) (x' y' : Int) : PBox n x' y' ((w.setCell ⟨n, 0, none⟩ (.int .i64 x')).setCell ⟨n, 1, none⟩ (.int .i64 y')) := by
  unfold PBox at *
  simp only [World.setCell, Array.getElem?_modify, h]
  simp
theorem PBox.other {n q : Nat} {x y : Int} {W : World} (h : PBox n x y W) (hn : n ≠ q) (o : Nat) (v : Value) : PBox n x y (W.setCell ⟨q, o, none⟩ v) := by
  unfold PBox at *; rw [Below.heap_setCell _ _ _ _ (by exact hn)]; exact h
theorem below_pt8 {w w' : World} {n : Nat} (h : Below w.heap.size w w') (hn : w.heap.size ≤ n) (x y : Value) : Below w.heap.size w ((w'.setCell ⟨n, 0, none⟩ x).setCell ⟨n, 1, none⟩ y) :=
  Below.setCell (Below.setCell h (by exact hn) _) (by exact hn) _
end Go.Proofs.YtbjabclgekkpaaaGreatDoor
namespace Go.Proofs.YtbjabclgekkpaaaGreatDoor
/-- The nearest whole number to v / d; of two that are as near the greater one. -/
def near (v : Int) (d : Nat) : Int := (v + (d : Int) / 2) / (d : Int)
end Go.Proofs.YtbjabclgekkpaaaGreatDoor
namespace Go.Proofs.YtbjabclgekkpaaaGreatDoor
/-- A matrix: its six numbers. -/
structure Mtx where
  a : Int
  b : Int
  c : Int
  d : Int
  e : Int
  f : Int
deriving DecidableEq
def Mtx.right (m : Mtx) : Prop := In32 m.a ∧ In32 m.b ∧ In32 m.c ∧ In32 m.d ∧ In32 m.e ∧ In32 m.f
instance mtxDec (m : Mtx) : Decidable m.right := by unfold Mtx.right; infer_instance
/-- One number, rounded once. -/
def numA (a x b y c : Int) : Int := near (a * x + b * y) (2 ^ 16) + c
def appM (m : Mtx) (x y : Int) : Int × Int := (numA m.a x m.c y m.e, numA m.b x m.d y m.f)
def sameM : Mtx := ⟨65536, 0, 0, 65536, 0, 0⟩
theorem prod32 {a x : Int} (ha : In32 a) (hx : In32 x) : -18446744073709551616 ≤ a * x ∧ a * x ≤ 18446744073709551616 := by
  obtain ⟨a1, a2⟩ := ha
  obtain ⟨x1, x2⟩ := hx
  have h : (a * x).natAbs ≤ 4294967296 * 4294967296 := by
    rw [Int.natAbs_mul]
    exact Nat.mul_le_mul (by omega) (by omega)
  omega
theorem near16 (v : Int) : near v (2 ^ 16) = (v + 32768) / 65536 := rfl
/-- Far from what an int64 holds. -/
theorem num_near {a x b y : Int} (ha : In32 a) (hx : In32 x) (hb : In32 b) (hy : In32 y) : -1125899906842624 ≤ near (a * x + b * y) (2 ^ 16) ∧ near (a * x + b * y) (2 ^ 16) ≤ 1125899906842624 := by
  have h1 := prod32 ha hx
  have h2 := prod32 hb hy
  rw [near16]
  generalize a * x = p at *
  generalize b * y = q at *
  omega
theorem mright_same : sameM.right := by decide
end Go.Proofs.YtbjabclgekkpaaaGreatDoor
namespace Go.Proofs.YtbjabclgekkpaaaGreatDoor
open Go.RowKit Go.Shelf
def Mtx.cells (m : Mtx) : Array Value := #[.int .i64 m.a, .int .i64 m.b, .int .i64 m.c, .int .i64 m.d, .int .i64 m.e, .int .i64 m.f]
def Mtx.val (m : Mtx) : Value := .agg m.cells
/-- A box with a matrix, a box with a point. -/
def MBox (n : Nat) (m : Mtx) (w : World) : Prop := w.heap[n]? = some (.cells m.cells 23)
theorem MBox.new (w : World) (m : Mtx) : MBox w.heap.size m (w.alloc (.cells m.cells 23)) := World.alloc_heap_new w _
theorem MBox.c0 {n : Nat} {m : Mtx} {w : World} (h : MBox n m w) : w.cell? ⟨n, 0, none⟩ = some (.int .i64 m.a) := by unfold MBox Mtx.cells at h; simp [World.cell?, h]
theorem MBox.c1 {n : Nat} {m : Mtx} {w : World} (h : MBox n m w) : w.cell? ⟨n, 1, none⟩ = some (.int .i64 m.b) := by unfold MBox Mtx.cells at h; simp [World.cell?, h]
theorem MBox.c2 {n : Nat} {m : Mtx} {w : World} (h : MBox n m w) : w.cell? ⟨n, 2, none⟩ = some (.int .i64 m.c) := by unfold MBox Mtx.cells at h; simp [World.cell?, h]
theorem MBox.c3 {n : Nat} {m : Mtx} {w : World} (h : MBox n m w) : w.cell? ⟨n, 3, none⟩ = some (.int .i64 m.d) := by unfold MBox Mtx.cells at h; simp [World.cell?, h]
theorem MBox.c4 {n : Nat} {m : Mtx} {w : World} (h : MBox n m w) : w.cell? ⟨n, 4, none⟩ = some (.int .i64 m.e) := by unfold MBox Mtx.cells at h; simp [World.cell?, h]
theorem MBox.c5 {n : Nat} {m : Mtx} {w : World} (h : MBox n m w) : w.cell? ⟨n, 5, none⟩ = some (.int .i64 m.f) := by unfold MBox Mtx.cells at h; simp [World.cell?, h]
theorem MBox.lt {n : Nat} {m : Mtx} {w : World} (h : MBox n m w) : n < w.heap.size := (Array.getElem?_eq_some_iff.1 h).1
theorem MBox.next {n : Nat} {m : Mtx} {w w' : World} (h : MBox n m w) (t : Below w.heap.size w w') : MBox n m w' := by
  have := h.lt
  unfold MBox at *; rw [t.block n this]; exact h
theorem MBox.other {n q : Nat} {m : Mtx} {W : World} (h : MBox n m W) (hn : n ≠ q) (o : Nat) (v : Value) : MBox n m (W.setCell ⟨q, o, none⟩ v) := by
  unfold MBox at *; rw [Below.heap_setCell _ _ _ _ (by exact hn)]; exact h
end Go.Proofs.YtbjabclgekkpaaaGreatDoor
namespace Go.Proofs.YtbjabclgekkpaaaGreatDoor
open Go.ChangeShapes Go.WideShapes Go.ChangeAt Go.RowKit Go.Shelf Go.Joins Go.Deep
theorem i64_of_wf {a : Int} (h : (Lit.int .i64 a).wf = true) : I64 a := by
  unfold I64
  simpa [Lit.wf, IntKind.min, IntKind.max, IntKind.signed, IntKind.bits] using h
theorem num_cell {P : Program} {H : Type} {enc : TypeId × Value → H} {W : World} {base n : Nat} {t : TypeId} {v : Value} {y : DataW H × List MemPlace} (ht : P.underlying t = some (.int .i64)) (h : DataW.trod enc P W base (fun _ => true) true n t [v] = some y) :
    ∃ a : Int, v = .int .i64 a ∧ I64 a := by
  obtain ⟨a, ea, _, wa⟩ := DataW.trod_int ht h
  exact ⟨a, by simpa using ea, i64_of_wf wa⟩
end Go.Proofs.YtbjabclgekkpaaaGreatDoor
namespace Go.Proofs.YtbjabclgekkpaaaGreatDoor
open Go.ChangeShapes Go.WideShapes Go.ChangeAt Go.RowKit Go.Shelf Go.Joins Go.Deep
abbrev Pt := Int × Int
def ptC (p : Pt) : List Value := [.int .i64 p.1, .int .i64 p.2]
def flatP : List Pt → List Value
  | [] => []
  | g :: t => ptC g ++ flatP t
theorem flatP_at (l : List Pt) : ∀ (i : Nat) (g : Pt), l[i]? = some g → (flatP l)[i * 2]? = some (.int .i64 g.1) ∧ (flatP l)[i * 2 + 1]? = some (.int .i64 g.2) := by
  induction l with
  | nil => intro i g h; simp at h
  | cons x t ih =>
    intro i g h
    cases i with
    | zero =>
      obtain rfl : x = g := by simpa using h
      simp [flatP, ptC]
    | succ i =>
      have := ih i g (by simpa using h)
      simp only [flatP]
      have hx : (ptC x).length = 2 := rfl
      rw [List.getElem?_append_right (by rw [hx]; omega), List.getElem?_append_right (by rw [hx]; omega), hx, show (i + 1) * 2 - 2 = i * 2 from by omega, show (i + 1) * 2 + 1 - 2 = i * 2 + 1 from by omega]
      exact this
theorem flatP_set (l : List Pt) : ∀ (i : Nat) (g : Pt), i < l.length → ((flatP l).set (i * 2) (.int .i64 g.1)).set (i * 2 + 1) (.int .i64 g.2) = flatP (l.set i g) := by
  induction l with
  | nil => intro i g h; simp at h
  | cons x t ih =>
    intro i g h
    cases i with
    | zero => simp [flatP, ptC]
    | succ i =>
      have := ih i g (by simpa using h)
      simp only [flatP, List.set_cons_succ]
      have hx : (ptC x).length = 2 := rfl
      rw [← this, List.set_append_right _ _ (by rw [hx]; omega), List.set_append_right _ _ (by rw [hx]; omega), hx, show (i + 1) * 2 - 2 = i * 2 from by omega, show (i + 1) * 2 + 1 - 2 = i * 2 + 1 from by omega]
theorem own_type8 {W : World} {R : Nat} {e : TypeId} {sz : Nat} {v : Value} {k : Nat} {xs : List Value} (h : W.ownsRow R e sz v k xs) : ∀ q, v.ownBlock = some q → q < W.heap.size ∧ R ≤ q ∧ ∃ cur, W.heap[q]? = some (.cells cur e (0, 0)) := by
  intro q hq
  rcases h.2 with ⟨rfl, _⟩ | ⟨g, cap, cur, rfl, hb, hg, _⟩
  · simp [Value.ownBlock] at hq
  · obtain rfl : g = q := by simpa [Value.ownBlock] using hq
    exact ⟨(Array.getElem?_eq_some_iff.1 hg).1, hb, cur, hg⟩
theorem own_stay8 {W W' : World} {R : Nat} {e : TypeId} {sz : Nat} {v : Value} {k : Nat} {xs : List Value} (h : W.ownsRow R e sz v k xs) (hb : ∀ q, v.ownBlock = some q → W'.heap[q]? = W.heap[q]?) : W'.ownsRow R e sz v k xs := by
  refine ⟨h.1, ?_⟩
  rcases h.2 with h | ⟨g, cap, cur, rfl, hR, hg, h1, h2, h3, h4⟩
  · exact .inl h
  · exact .inr ⟨g, cap, cur, rfl, hR, (hb g rfl).trans hg, h1, h2, h3, h4⟩
theorem own_cell8 {W : World} {R : Nat} {e : TypeId} {sz k : Nat} {b off : Nat} {len cap : Nat} {xs : List Value} (h : W.ownsRow R e sz (.slice (some ⟨b, off, none⟩) len cap) k xs) {i : Nat} {u : Value} (hi : xs[i]? = some u) : W.cell? ⟨b, off + i, none⟩ = some u := by
  rcases h.2 with ⟨h0, _⟩ | ⟨g, cap', cur, hv, hR, hg, h1, h2, h3, h4⟩
  · cases h0
  · cases hv
    rw [Nat.zero_add]
    unfold World.cell?
    rw [hg]
    show cur[i]? = some u
    rw [← h4] at hi
    have := (List.getElem?_eq_some_iff.1 hi).1
    rw [List.length_take] at this
    rw [List.getElem?_take, if_pos (by omega)] at hi
    simpa using hi
/-- A row of points of the call's own. -/
def Pts (R : Nat) (v : Value) (l : List Pt) (w : World) : Prop := w.ownsRow R 40 2 v l.length (flatP l)
theorem Pts.nil (R : Nat) (w : World) : Pts R (.slice none 0 0) [] w := World.ownsRow_nil _ _ _ _
theorem Pts.shape {R : Nat} {v : Value} {l : List Pt} {w : World} (h : Pts R v l w) : ∃ a cap, v = .slice a l.length cap := by
  rcases h.2 with ⟨rfl, h3⟩ | ⟨g, cap', cur, rfl, _⟩
  · exact ⟨none, 0, by rw [h3]⟩
  · exact ⟨_, _, rfl⟩
theorem Pts.lower {R R' : Nat} {v : Value} {l : List Pt} {w : World} (h : Pts R v l w) (hb : R' ≤ R) : Pts R' v l w := by
  refine ⟨h.1, ?_⟩
  rcases h.2 with h | ⟨g, cap, cur, rfl, hR, hg, h1, h2, h3, h4⟩
  · exact .inl h
  · exact .inr ⟨g, cap, cur, rfl, Nat.le_trans hb hR, hg, h1, h2, h3, h4⟩
theorem Pts.next {R : Nat} {v : Value} {l : List Pt} {w w' : World} (h : Pts R v l w) (t : Below w.heap.size w w') : Pts R v l w' :=
  own_stay8 h fun q hq => t.block q (own_type8 h q hq).1
/-- A point lies at a place. -/
structure PtAt8 (b o : Nat) (g : Pt) (w : World) : Prop where
  c0 : w.cell? ⟨b, o, none⟩ = some (.int .i64 g.1)
  c1 : w.cell? ⟨b, o + 1, none⟩ = some (.int .i64 g.2)
theorem PtAt8.below {b o : Nat} {g : Pt} {w w' : World} (h : PtAt8 b o g w) (t : Below w.heap.size w w') (hb : b < w.heap.size) : PtAt8 b o g w' :=
  ⟨(t.cell (p := ⟨b, o, none⟩) hb).trans h.c0, (t.cell (p := ⟨b, o + 1, none⟩) hb).trans h.c1⟩
/-- The live cells of a slice of points. -/
def RdP (a : Option Addr) (l : List Pt) (w : World) : Prop :=
  l = [] ∨ ∃ b off : Nat, a = some ⟨b, off, none⟩ ∧ b < w.heap.size ∧ ∀ i, i < l.length → PtAt8 b (off + i * 2) (l.getD i (0, 0)) w
theorem RdP.next {a : Option Addr} {l : List Pt} {w w' : World} (h : RdP a l w) (t : Below w.heap.size w w') : RdP a l w' := by
  rcases h with h | ⟨b, off, ha, hlt, hc⟩
  · exact .inl h
  · exact .inr ⟨b, off, ha, Nat.lt_of_lt_of_le hlt t.size, fun i hi => (hc i hi).below t hlt⟩
theorem RdP.pos {a : Option Addr} {l : List Pt} {w : World} (h : RdP a l w) (hl : 0 < l.length) : ∃ b off : Nat, a = some ⟨b, off, none⟩ ∧ b < w.heap.size ∧ ∀ i, i < l.length → PtAt8 b (off + i * 2) (l.getD i (0, 0)) w := by
  rcases h with rfl | h
  · exact absurd hl (by decide)
  · exact h
/-- A row of the call's own is read. -/
theorem Pts.reads {R : Nat} {v : Value} {l : List Pt} {w : World} (h : Pts R v l w) : ∃ a cap, v = .slice a l.length cap ∧ RdP a l w ∧ l.length ≤ cap := by
  obtain ⟨a, cap, rfl⟩ := h.shape
  have hcap : l.length ≤ cap := by
    rcases h.2 with ⟨_, h3⟩ | ⟨g, cap', cur, hv, hR, hg, h1, _⟩
    · omega
    · cases hv; exact h1
  refine ⟨a, cap, rfl, ?_, hcap⟩
  have h' := h
  rcases h'.2 with ⟨_, h3⟩ | ⟨g, cap', cur, hv, hR, hg, h1, _⟩
  · left; exact List.length_eq_zero_iff.1 h3
  · cases hv
    refine .inr ⟨g, 0, rfl, (Array.getElem?_eq_some_iff.1 hg).1, fun i hi => ?_⟩
    obtain ⟨e0, e1⟩ := flatP_at l i (l.getD i (0, 0)) (by simp [List.getD, List.getElem?_eq_getElem hi])
    have c0 := own_cell8 h e0
    have c1 := own_cell8 h e1
    exact ⟨c0, by rw [Nat.add_assoc]; exact c1⟩
theorem info_pt : (Tryz.prog.info? 40).map (fun i => (i.zero, i.size, i.bytes)) = some (some (.agg #[.int .i64 0, .int .i64 0]), 2, 16) := by kernel_rfl
end Go.Proofs.YtbjabclgekkpaaaGreatDoor
namespace Go.Proofs.YtbjabclgekkpaaaGreatDoor
open Go.RowKit Go.Shelf
theorem right_dec (m : Mtx) : decide m.right = (decide (In32 m.a) && (decide (In32 m.b) && (decide (In32 m.c) && (decide (In32 m.d) && (decide (In32 m.e) && decide (In32 m.f)))))) := by
  rw [Bool.eq_iff_iff]
  simp only [Bool.and_eq_true, decide_eq_true_eq]
  exact Iff.rfl
/-- What Apply answers: the point, and 0, 1 or 2. -/
def applyS (m : Mtx) (x y : Int) : (Int × Int) × Int :=
  if m.right ∧ In32 x ∧ In32 y then (if In32 (appM m x y).1 ∧ In32 (appM m x y).2 then (appM m x y, 0) else ((0, 0), 2)) else ((0, 0), 1)
theorem boxes3 (w : World) (m : Mtx) (x y : Int) : MBox w.heap.size m (((w.alloc (.cells m.cells 23)).alloc (.cells #[.int .i64 x, .int .i64 y] 40)).alloc (.cells #[.int .i64 0, .int .i64 0] 40)) ∧
    PBox (w.heap.size + 1) x y (((w.alloc (.cells m.cells 23)).alloc (.cells #[.int .i64 x, .int .i64 y] 40)).alloc (.cells #[.int .i64 0, .int .i64 0] 40)) ∧
    PBox (w.heap.size + 1 + 1) 0 0 (((w.alloc (.cells m.cells 23)).alloc (.cells #[.int .i64 x, .int .i64 y] 40)).alloc (.cells #[.int .i64 0, .int .i64 0] 40)) ∧
    Below w.heap.size w (((w.alloc (.cells m.cells 23)).alloc (.cells #[.int .i64 x, .int .i64 y] 40)).alloc (.cells #[.int .i64 0, .int .i64 0] 40)) := by
  have b1 := (Below.refl w.heap.size w).alloc (Nat.le_refl _) (.cells m.cells 23)
  have m1 := MBox.new w m
  generalize hA : w.alloc (.cells m.cells 23) = A at *
  have sA : A.heap.size = w.heap.size + 1 := by rw [← hA]; simp
  have b2 := (Below.refl A.heap.size A).alloc (Nat.le_refl _) (.cells #[.int .i64 x, .int .i64 y] 40)
  have p2 := PBox.new A x y
  generalize hB : A.alloc (.cells #[.int .i64 x, .int .i64 y] 40) = B at *
  have sB : B.heap.size = w.heap.size + 1 + 1 := by rw [← hB]; simp [sA]
  have b3 := (Below.refl B.heap.size B).alloc (Nat.le_refl _) (.cells #[.int .i64 0, .int .i64 0] 40)
  have p3 := PBox.new B 0 0
  rw [sA] at p2
  rw [sB] at p3
  exact ⟨(m1.next b2).next b3, p2.next b3, p3, (b1.trans (b2.mono b1.size)).trans (b3.mono (Nat.le_trans b1.size b2.size))⟩
end Go.Proofs.YtbjabclgekkpaaaGreatDoor
namespace Go.Proofs.YtbjabclgekkpaaaGreatDoor
open Go.RowKit Go.Shelf
/-- Has the point no error? Where it goes; its error's number. -/
def okP (m : Mtx) (p : Pt) : Prop := (applyS m p.1 p.2).2 = 0
instance (m : Mtx) (p : Pt) : Decidable (okP m p) := by unfold okP; infer_instance
def imgP (m : Mtx) (p : Pt) : Pt := (applyS m p.1 p.2).1
def errP (m : Mtx) (p : Pt) : Int := (applyS m p.1 p.2).2
/-- What All answers: the points, and 0, 1 or 2. -/
def allA (m : Mtx) (l : List Pt) : List Pt × Int :=
  if m.right then (match l.find? (fun p => !decide (okP m p)) with
    | none => (l.map (imgP m), 0)
    | some p => ([], errP m p)) else ([], 1)
theorem apply_is {m : Mtx} {p : Pt} (h : okP m p) : applyS m p.1 p.2 = (((imgP m p).1, (imgP m p).2), 0) := by
  unfold okP at h
  unfold imgP
  generalize applyS m p.1 p.2 = r at *
  obtain ⟨⟨a, b⟩, c⟩ := r
  simp only at h
  rw [h]
theorem all_wrong {m : Mtx} (h : ¬ m.right) (l : List Pt) : allA m l = ([], 1) := by unfold allA; rw [if_neg h]
theorem all_end {m : Mtx} (hm : m.right) {l : List Pt} (h : ∀ p ∈ l, okP m p) : allA m l = (l.map (imgP m), 0) := by
  unfold allA
  rw [if_pos hm]
  have e : l.find? (fun p => !decide (okP m p)) = none := by
    rw [List.find?_eq_none]; intro p hp; simp [h p hp]
  rw [e]
theorem all_stop {m : Mtx} (hm : m.right) {l : List Pt} {k : Nat} (hk : k < l.length) (h : ∀ p ∈ l.take k, okP m p) (hn : ¬ okP m (l.getD k (0, 0))) : allA m l = ([], errP m (l.getD k (0, 0))) := by
  unfold allA
  rw [if_pos hm]
  have eg : l.getD k (0, 0) = l[k] := by simp [List.getD, List.getElem?_eq_getElem hk]
  rw [eg] at hn ⊢
  have e : l.find? (fun p => !decide (okP m p)) = some l[k] := by
    have hs : l.take k ++ l[k] :: l.drop (k + 1) = l := by rw [← List.drop_eq_getElem_cons hk, List.take_append_drop]
    generalize l[k] = x at *
    calc l.find? (fun p => !decide (okP m p)) = (l.take k ++ x :: l.drop (k + 1)).find? (fun p => !decide (okP m p)) := by rw [hs]
      _ = some x := by
        rw [List.find?_append, List.find?_eq_none.2 (by intro p hp; simp [h p hp])]
        simp [hn]
  rw [e]
theorem all_zero (m : Mtx) (l : List Pt) (h : (allA m l).2 ≠ 0) : (allA m l).1 = [] := by
  unfold allA at *
  split at h
  · rename_i h1
    rw [if_pos h1]
    split at h
    · exact absurd rfl h
    · rfl
  · rename_i h1; rw [if_neg h1]
theorem take_ok {m : Mtx} {l : List Pt} {k : Nat} (hk : k < l.length) (h : ∀ p ∈ l.take k, okP m p) (hn : okP m (l.getD k (0, 0))) : ∀ p ∈ l.take (k + 1), okP m p := by
  have eg : l.getD k (0, 0) = l[k] := by simp [List.getD, List.getElem?_eq_getElem hk]
  rw [eg] at hn
  rw [List.take_succ_eq_append_getElem hk]
  intro p hp
  rcases List.mem_append.1 hp with hp | hp
  · exact h p hp
  · rw [List.mem_singleton.1 hp]; exact hn
/-- The row while it is filled. -/
def fillP (m : Mtx) (l : List Pt) (k : Nat) : List Pt := (l.take k).map (imgP m) ++ List.replicate (l.length - k) (0, 0)
theorem fillP_len (m : Mtx) (l : List Pt) (k : Nat) (h : k ≤ l.length) : (fillP m l k).length = l.length := by simp [fillP]; omega
theorem fillP_zero (m : Mtx) (l : List Pt) : fillP m l 0 = List.replicate l.length (0, 0) := by simp [fillP]
theorem fillP_end (m : Mtx) (l : List Pt) : fillP m l l.length = l.map (imgP m) := by simp [fillP]
theorem fillP_next (m : Mtx) (l : List Pt) (k : Nat) (h : k < l.length) : (fillP m l k).set k (imgP m (l.getD k (0, 0))) = fillP m l (k + 1) := by
  unfold fillP
  have eg : l.getD k (0, 0) = l[k] := by simp [List.getD, List.getElem?_eq_getElem h]
  rw [eg]
  obtain ⟨j, hj⟩ : ∃ j, l.length - k = j + 1 := ⟨l.length - k - 1, by omega⟩
  rw [hj, show l.length - (k + 1) = j from by omega, List.take_succ_eq_append_getElem h, List.map_append, List.replicate_succ]
  have hl : ((l.take k).map (imgP m)).length = k := by simp; omega
  rw [List.set_append_right _ _ (by omega), hl, Nat.sub_self]
  simp
theorem flat_zero (n : Nat) : flatP (List.replicate n (0, 0)) = List.replicate (n * 2) (.int .i64 0) := by
  induction n with
  | zero => rfl
  | succ n ih =>
    rw [List.replicate_succ, show (n + 1) * 2 = n * 2 + 1 + 1 from by omega, List.replicate_succ, List.replicate_succ]
    simp only [flatP]
    rw [ih]; rfl
theorem made_pts (n : Nat) : (madeCells (Value.cells (.agg #[.int .i64 0, .int .i64 0])) (n * 2)).toList = flatP (List.replicate n (0, 0)) := by
  rw [flat_zero]
  apply List.ext_getElem?
  intro j
  by_cases hj : j < n * 2
  · have h2 : j % 2 = 0 ∨ j % 2 = 1 := by omega
    rcases h2 with h2 | h2 <;> simp [madeCells, Value.cells, hj, h2]
  · simp [madeCells, Value.cells, hj]
theorem make_pts {ops : Array Oper} {rest : List Oper} {o : Oper} {a : Act} {Q : Exit → Act → World → Prop} (w : World) (hg : o.guard = none) (l c : Operand) (hop : o.op = Op.makeSlice 47 l c)
    (n : Nat) (L : Int) (hl : a.eval l = .int .i64 L) (hc : a.eval c = .int .i64 L) (hL : L = (n : Int)) (hn : n ≤ 1000000000)
    (hK : ∀ w', Pts w.heap.size (.slice (some ⟨w.heap.size, 0, none⟩) n n) (List.replicate n (0, 0)) w' → Below w.heap.size w w' → w.heap.size < w'.heap.size → wpList Tryz.prog ops Q rest (a.put o.dst (.slice (some ⟨w.heap.size, 0, none⟩) n n)) w') :
    wpList Tryz.prog ops Q (o :: rest) a w := by
  obtain ⟨i0, hi, hz0, hz1, hz2⟩ := info_parts info_pt
  refine wpList_make_full w hg l c 47 hop w.heap.size 40 i0 (.agg #[.int .i64 0, .int .i64 0]) 2 Tryz.underlying47 hi hz0 hz1 .i64 .i64 L L n hl hc hL hL (by rw [hz2]; omega) (by unfold maxLen; omega) (Nat.le_refl _) ?_
  intro w' hown hgr
  have hown' : Pts w.heap.size (.slice (some ⟨w.heap.size, 0, none⟩) n n) (List.replicate n (0, 0)) w' := by
    unfold Pts; rw [← made_pts, List.length_replicate]; exact hown
  exact hK w' hown' ((Below.refl _ _).grown hgr (Nat.le_refl _) (fun k hk => by cases hk)) (own_type8 hown' _ rfl).1
/-- One point is stored into a made row. -/
theorem pts_set {w : World} {B g n : Nat} {l : List Pt} (h : Pts B (.slice (some ⟨g, 0, none⟩) n n) l w) (hl : l.length = n) (k : Nat) (hk : k < n) (p : Pt) :
    Pts B (.slice (some ⟨g, 0, none⟩) n n) (l.set k p) ((w.setCell ⟨g, k * 2, none⟩ (.int .i64 p.1)).setCell ⟨g, k * 2 + 1, none⟩ (.int .i64 p.2)) := by
  subst hl
  unfold Pts at *
  have h1 := (h.stored (k * 2) (.int .i64 p.1)).1
  have h2 := (h1.stored (k * 2 + 1) (.int .i64 p.2)).1
  rw [flatP_set l k p hk] at h2
  rw [List.length_set]
  exact h2
theorem pts_cells {w : World} {B g n : Nat} {l : List Pt} (h : Pts B (.slice (some ⟨g, 0, none⟩) n n) l w) (hl : l.length = n) (k : Nat) (hk : k < n) :
    (∃ x : Int, w.cell? ⟨g, k * 2, none⟩ = some (.int .i64 x)) ∧ (∃ x : Int, w.cell? ⟨g, k * 2 + 1, none⟩ = some (.int .i64 x)) ∧ w.frozen? ⟨g, k * 2, none⟩ = false ∧ w.frozen? ⟨g, k * 2 + 1, none⟩ = false := by
  subst hl
  obtain ⟨e0, e1⟩ := flatP_at l k (l.getD k (0, 0)) (by simp [List.getD, List.getElem?_eq_getElem hk])
  have c0 := own_cell8 h e0
  have c1 := own_cell8 h e1
  rw [Nat.zero_add] at c0 c1
  exact ⟨⟨_, c0⟩, ⟨_, c1⟩, h.frozenAt _, h.frozenAt _⟩
theorem Pts.set {R q : Nat} {u : Value} {l : List Pt} {w : World} (hr : Pts R u l w) (hn : q < R) (o : Nat) (v : Value) : Pts R u l (w.setCell ⟨q, o, none⟩ v) :=
  own_stay8 hr fun k hk => Below.heap_setCell _ _ _ _ (by have := (own_type8 hr k hk).2.1; exact Nat.ne_of_gt (Nat.lt_of_lt_of_le hn this))
end Go.Proofs.YtbjabclgekkpaaaGreatDoor
namespace Go.Proofs.YtbjabclgekkpaaaGreatDoor
open Go.RowKit Go.Shelf
/-- What All answers, as it lies in memory. -/
def AllP (m : Mtx) (l : List Pt) (w : World) (e : Ending) (w' : World) : Prop :=
  ∃ v, e = .returned (.tuple #[v, .int .i64 (allA m l).2]) ∧ Pts w.heap.size v (allA m l).1 w' ∧ Below w.heap.size w w'
end Go.Proofs.YtbjabclgekkpaaaGreatDoor
namespace Go.Proofs.YtbjabclgekkpaaaGreatDoor
open Go.RowKit Go.Shelf
/-- Blocks lo to hi (hi not among them) are as they were. -/
structure Mid (lo hi : Nat) (W W' : World) : Prop where
  size : W.heap.size ≤ W'.heap.size
  block : ∀ b, lo ≤ b → b < hi → W'.heap[b]? = W.heap[b]?
/-- Below R nothing has turned but block B. -/
structure But (R B : Nat) (W W' : World) : Prop where
  os : W'.os = W.os
  tape : W'.tape = W.tape
  output : W'.output = W.output
  size : W.heap.size ≤ W'.heap.size
  block : ∀ q, q < R → q ≠ B → W'.heap[q]? = W.heap[q]?
theorem But.below {R B n : Nat} {W W' : World} (h : But R B W W') (h1 : n ≤ R) (h2 : n ≤ B) : Below n W W' := ⟨h.os, h.tape, h.output, h.size, fun k hk => h.block k (by omega) (by omega)⟩
/-- A slice that owns its row is a slice. -/
theorem own_shape {W : World} {base : Nat} {e : TypeId} {size : Nat} {v : Value} {k : Nat} {xs : List Value} (h : W.ownsRow base e size v k xs) : ∃ a cap, v = .slice a k cap := by
  rcases h.2 with ⟨rfl, rfl⟩ | ⟨g, cap, cur, rfl, _⟩
  · exact ⟨_, _, rfl⟩
  · exact ⟨_, _, rfl⟩
theorem own_lower {W : World} {base base' : Nat} {e : TypeId} {size : Nat} {v : Value} {k : Nat} {xs : List Value} (h : W.ownsRow base e size v k xs) (hb : base' ≤ base) : W.ownsRow base' e size v k xs := by
  refine ⟨h.1, ?_⟩
  rcases h.2 with h | ⟨g, cap, cur, h1, h2, h3⟩
  · exact .inl h
  · exact .inr ⟨g, cap, cur, h1, Nat.le_trans hb h2, h3⟩
end Go.Proofs.YtbjabclgekkpaaaGreatDoor
namespace Go.Proofs.YtbjabclgekkpaaaGreatDoor
open Go.RowKit
/-- The statement's opening: its record and the block for deferred calls are laid, the iterator is entered. -/
theorem wpIn_range_open {P : Program} {F : Fence} {n : Nat} {g : Operand} {ps : Array Tmp} {assign body : Code} {Q : Exit → Act → World → Prop} {a : Act} {w : World}
    (hro : F.round = none) (h1 : 1 ≤ n) {gf : Nat} {lb : Array Value} (hg : a.eval g = .func (.func gf) #[] lb) (hFg : F.fn gf) (eg : ∀ args w, (callFunc gf args).run P w = .ok (.enter gf args) w)
    (h : ∀ fn, F.fn fn → ∀ W1, (w.alloc (.deferred (some []))).alloc (.loop { state := .ready, pending := none, fn := fn, tmps := a.tmps, params := ps, assign, body, defers := w.heap.size }) = W1 →
      CallsIn F (n - 1) P gf (#[.func (.yield (w.heap.size + 1)) #[] #[]] ++ lb) W1 (rangePost F n P (w.heap.size + 1) Q { tmps := a.tmps, defers := [{ target := .collected w.heap.size, args := #[] }] ++ a.defers })) :
    (Code.rangeFunc g ps assign body).wpIn F n P Q a w := by
  refine wpIn_rangeFunc fun fn hfn => ?_
  rw [hro]
  obtain ⟨W1, hW1⟩ : ∃ W1, (w.alloc (.deferred (some []))).alloc (.loop { state := .ready, pending := none, fn := fn, tmps := a.tmps, params := ps, assign, body, defers := w.heap.size }) = W1 := ⟨_, rfl⟩
  refine ⟨w.heap.size + 1, [{ target := .collected w.heap.size, args := #[] }], W1, { target := .fn (.func gf) lb, args := #[.func (.yield (w.heap.size + 1)) #[] #[]] }, W1, gf,
    #[.func (.yield (w.heap.size + 1)) #[] #[]] ++ lb, W1, ?_, ?_, ?_, ?_, fun _ => h1, ?_⟩
  · rw [← hW1]; exact run_enterLoop_outer _ _ _ _ _
  · simp only [resolve, hg]
    simp [go_sem]
  · intro f' hf'
    simp [Target.leads] at hf'
    subst hf'
    exact hFg
  · simp [invoke, go_sem, eg]
  · exact h fn hfn _ hW1
end Go.Proofs.YtbjabclgekkpaaaGreatDoor
namespace Go.Proofs.YtbjabclgekkpaaaGreatDoor
open Go.RowKit Go.Shelf
/-- What an invariant of the loop abides: new memory; and that a variable of the iterator's own (a box of a type among T, from block D on) is written. -/
structure AbideT {β : Type} (T : TypeId → Prop) (D : Nat) (J : List β → World → Prop) : Prop where
  new : ∀ pre W W', J pre W → Below W.heap.size W W' → J pre W'
  priv : ∀ pre W W' b t cs z, J pre W → D ≤ b → T t → W.heap[b]? = some (.cells cs t z) → But W.heap.size b W W' → J pre W'
theorem AbideT.later {β : Type} {T : TypeId → Prop} {D D' : Nat} {J : List β → World → Prop} (h : AbideT T D J) (hd : D ≤ D') : AbideT T D' J :=
  ⟨h.new, fun pre W W' b t cs z hj hb => h.priv pre W W' b t cs z hj (Nat.le_trans hd hb)⟩
theorem noncells_below {W W' : World} {k : Nat} {o : Obj} (h : W.heap[k]? = some o) (hb : Below W.heap.size W W') : W'.heap[k]? = some o :=
  (hb.block k (Array.getElem?_eq_some_iff.1 h).1).trans h
theorem noncells_but {W W' : World} {k b : Nat} {o : Obj} {cs : Array Value} {t : TypeId} {z : Nat × Nat} (h : W.heap[k]? = some o) (ho : o.isCells = false) (hc : W.heap[b]? = some (.cells cs t z)) (hb : But W.heap.size b W W') : W'.heap[k]? = some o := by
  refine (hb.block k (Array.getElem?_eq_some_iff.1 h).1 ?_).trans h
  rintro rfl
  rw [hc] at h
  cases h
  cases ho
theorem AbideT.beside {β : Type} {T : TypeId → Prop} {D k k' : Nat} {o o' : Obj} {J : List β → World → Prop} (h : AbideT T D J) (ho : o.isCells = false) (ho' : o'.isCells = false) :
    AbideT T D (fun pre W => J pre W ∧ W.heap[k]? = some o ∧ W.heap[k']? = some o') :=
  ⟨fun pre W W' hj hb => ⟨h.new pre W W' hj.1 hb, noncells_below hj.2.1 hb, noncells_below hj.2.2 hb⟩,
   fun pre W W' b t cs z hj hd ht hc hb => ⟨h.priv pre W W' b t cs z hj.1 hd ht hc hb, noncells_but hj.2.1 ho hc hb, noncells_but hj.2.2 ho' hc hb⟩⟩
/-- What a round keeps: the iterator's captured variables (blocks a to b), and its own (boxes of types among T, from block D on). -/
structure KeepsT (T : TypeId → Prop) (a b D : Nat) (A B : World) : Prop where
  mid : Mid a b A B
  priv : ∀ c t cs z, D ≤ c → T t → A.heap[c]? = some (.cells cs t z) → B.heap[c]? = some (.cells cs t z)
end Go.Proofs.YtbjabclgekkpaaaGreatDoor
namespace Go.Proofs.YtbjabclgekkpaaaGreatDoor
open Go.RowKit Go.Shelf
/-- Things of sz cells each, in memory: their type, and how they are laid. -/
structure Lay8 (α : Type) where
  e : TypeId
  sz : Nat
  cl : α → List Value
  len : ∀ x, (cl x).length = sz
  pos : 0 < sz
  one : ∀ x, ∀ u ∈ cl x, u.oneCell' = true
def Lay8.flat {α : Type} (L : Lay8 α) : List α → List Value
  | [] => []
  | g :: t => L.cl g ++ L.flat t
section
variable {α : Type} (L : Lay8 α)
theorem Lay8.flat_append (a b : List α) : L.flat (a ++ b) = L.flat a ++ L.flat b := by
  induction a with
  | nil => rfl
  | cons g t ih => simp only [List.cons_append, Lay8.flat]; rw [ih, List.append_assoc]
theorem Lay8.flat_len (a : List α) : (L.flat a).length = a.length * L.sz := by
  induction a with
  | nil => simp [Lay8.flat]
  | cons g t ih => simp only [Lay8.flat, List.length_append, List.length_cons]; rw [ih, L.len, Nat.add_mul]; omega
theorem Lay8.flat_one (l : List α) : ∀ u ∈ L.flat l, u.oneCell' = true := by
  induction l with
  | nil => intro u h; cases h
  | cons g t ih =>
    intro u hu
    simp only [Lay8.flat, List.mem_append] at hu
    rcases hu with hu | hu
    · exact L.one _ _ hu
    · exact ih u hu
theorem Lay8.flat_at (l : List α) : ∀ (i : Nat) (g : α) (j : Nat) (u : Value), l[i]? = some g → (L.cl g)[j]? = some u → (L.flat l)[i * L.sz + j]? = some u := by
  induction l with
  | nil => intro i g j u h; simp at h
  | cons x t ih =>
    intro i g j u h hj
    have hx := L.len x
    have hlt : j < L.sz := by have := (List.getElem?_eq_some_iff.1 hj).1; rwa [L.len] at this
    cases i with
    | zero =>
      obtain rfl : x = g := by simpa using h
      simp only [Lay8.flat, Nat.zero_mul, Nat.zero_add]
      rw [List.getElem?_append_left (by rw [hx]; exact hlt)]
      exact hj
    | succ i =>
      have := ih i g j u (by simpa using h) hj
      simp only [Lay8.flat]
      rw [Nat.add_mul, List.getElem?_append_right (by rw [hx]; omega), hx, show i * L.sz + 1 * L.sz + j - L.sz = i * L.sz + j from by omega]
      exact this
/-- A row of the call's own. -/
def Lay8.own (R : Nat) (v : Value) (l : List α) (w : World) : Prop := w.ownsRow R L.e L.sz v l.length (L.flat l)
/-- A row that is read. -/
def Lay8.rd (a : Option Addr) (l : List α) (w : World) : Prop := l = [] ∨ ∃ b off, a = some ⟨b, off, none⟩ ∧ b < w.heap.size ∧ ∀ j u, (L.flat l)[j]? = some u → w.cell? ⟨b, off + j, none⟩ = some u
variable {L}
theorem Lay8.own_nil (R : Nat) (w : World) : L.own R (.slice none 0 0) [] w := World.ownsRow_nil _ _ _ _
theorem Lay8.own.type {W : World} {R : Nat} {v : Value} {l : List α} (h : L.own R v l W) : ∀ q, v.ownBlock = some q → q < W.heap.size ∧ R ≤ q ∧ ∃ cur, W.heap[q]? = some (.cells cur L.e (0, 0)) := by
  intro q hq
  rcases h.2 with ⟨rfl, _⟩ | ⟨g, cap, cur, rfl, hb, hg, _⟩
  · simp [Value.ownBlock] at hq
  · obtain rfl : g = q := by simpa [Value.ownBlock] using hq
    exact ⟨(Array.getElem?_eq_some_iff.1 hg).1, hb, cur, hg⟩
theorem Lay8.own.stay {W W' : World} {R : Nat} {v : Value} {l : List α} (h : L.own R v l W) (hb : ∀ q, v.ownBlock = some q → W'.heap[q]? = W.heap[q]?) : L.own R v l W' := by
  refine ⟨h.1, ?_⟩
  rcases h.2 with h | ⟨g, cap, cur, rfl, hR, hg, h1, h2, h3, h4⟩
  · exact .inl h
  · exact .inr ⟨g, cap, cur, rfl, hR, (hb g rfl).trans hg, h1, h2, h3, h4⟩
theorem Lay8.own.next {W W' : World} {R : Nat} {v : Value} {l : List α} (h : L.own R v l W) (t : Below W.heap.size W W') : L.own R v l W' :=
  h.stay fun q hq => t.block q (h.type q hq).1
theorem Lay8.own.low {R R' : Nat} {v : Value} {l : List α} {W : World} (h : L.own R v l W) (hR : R' ≤ R) : L.own R' v l W := by
  refine ⟨h.1, ?_⟩
  rcases h.2 with h | ⟨g, cap, cur, h1, h2, h3⟩
  · exact .inl h
  · exact .inr ⟨g, cap, cur, h1, by omega, h3⟩
theorem Lay8.own.free {W W' : World} {R : Nat} {v : Value} {l : List α} {row : Option Nat} (h : L.own R v l W) (hg : W.grownBy W' row)
    (hr : ∀ r, row = some r → ∃ o : Obj, W.heap[r]? = some o ∧ o.isCells = false) : L.own R v l W' :=
  h.stay fun q hq => by
    obtain ⟨hlt, _, cur, hc⟩ := h.type q hq
    refine hg.block q hlt fun e => ?_
    obtain ⟨o, ho, hn⟩ := hr q e.symm
    rw [hc] at ho
    cases ho
    cases hn
theorem Lay8.own.but {W W' : World} {R b : Nat} {t : TypeId} {v : Value} {l : List α} {cs : Array Value} {z : Nat × Nat} (h : L.own R v l W) (hb : W.heap[b]? = some (.cells cs t z)) (ht : t ≠ L.e) (B : But W.heap.size b W W') : L.own R v l W' :=
  h.stay fun q hq => by
    obtain ⟨hlt, _, cur, hc⟩ := h.type q hq
    refine B.block q hlt fun e => ?_
    subst e
    rw [hb] at hc
    injection hc with hc
    injection hc with _ hc _
    exact ht hc
theorem Lay8.own.shape {R : Nat} {v : Value} {l : List α} {W : World} (h : L.own R v l W) : ∃ a cap, v = .slice a l.length cap ∧ l.length ≤ cap := by
  rcases h.2 with ⟨rfl, h2⟩ | ⟨g, c, cur, rfl, _, _, h1, _⟩
  · exact ⟨none, 0, by rw [h2], by omega⟩
  · exact ⟨_, _, rfl, h1⟩
theorem Lay8.own.cell {R b k cap : Nat} {l : List α} {W : World} (h : L.own R (.slice (some ⟨b, 0, none⟩) k cap) l W) {j : Nat} {u : Value} (hj : (L.flat l)[j]? = some u) : W.cell? ⟨b, j, none⟩ = some u := by
  rcases h.2 with ⟨h0, _⟩ | ⟨g, cap', cur, hv, hR, hg, h1, h2, h3, h4⟩
  · cases h0
  · cases hv
    unfold World.cell?
    rw [hg]
    show cur[j]? = some u
    rw [← h4] at hj
    have := (List.getElem?_eq_some_iff.1 hj).1
    rw [List.length_take] at this
    rw [List.getElem?_take, if_pos (by omega)] at hj
    simpa using hj
theorem Lay8.rd.next {a : Option Addr} {l : List α} {w w' : World} (h : L.rd a l w) (t : Below w.heap.size w w') : L.rd a l w' := by
  rcases h with h | ⟨b, off, h1, h2, h3⟩
  · exact .inl h
  · exact .inr ⟨b, off, h1, Nat.lt_of_lt_of_le h2 t.size, fun j u hj => (t.cell (p := ⟨b, off + j, none⟩) (by exact h2)).trans (h3 j u hj)⟩
theorem Lay8.rd.pos {a : Option Addr} {l : List α} {w : World} (h : L.rd a l w) {i : Nat} (hi : i < l.length) : ∃ b off, a = some ⟨b, off, none⟩ ∧ b < w.heap.size ∧ ∀ j u, (L.flat l)[j]? = some u → w.cell? ⟨b, off + j, none⟩ = some u := by
  rcases h with rfl | h
  · simp at hi
  · exact h
variable (L)
variable {P : Program} {i0 : TypeInfo} {z : Value} {bytes : Nat} {st : TypeId}
/-- A new box of one thing, as a row. -/
theorem Lay8.own_one (w : World) (g : α) {B : Nat} (hB : B ≤ w.heap.size) : L.own B (.slice (some ⟨w.heap.size, 0, none⟩) 1 1) [g] (w.alloc (.cells (L.cl g).toArray L.e)) :=
  ⟨by have := L.flat_len [g]; simpa using this, Or.inr ⟨w.heap.size, 1, (L.cl g).toArray, rfl, hB, World.alloc_heap_new w _, Nat.le_refl _, by decide, by have := L.len g; simpa using this, by have := L.len g; simp [Lay8.flat]; rw [← this]; exact List.take_length⟩⟩
end
end Go.Proofs.YtbjabclgekkpaaaGreatDoor
namespace Go.Proofs.YtbjabclgekkpaaaGreatDoor
/-- The middle of two numbers. -/
def mid (a b : Int) : Int := near (a + b) 2
/-- The number at t / 2^16 between two. -/
def betw (a b t : Int) : Int := a + near ((b - a) * t) 65536
/-- A curve. -/
structure Crv where
  px : Int
  py : Int
  qx : Int
  qy : Int
  rx : Int
  ry : Int
  sx : Int
  sy : Int
/-- A number of a curve that is right. -/
def In40 (z : Int) : Prop := -1099511627776 ≤ z ∧ z ≤ 1099511627776
instance (z : Int) : Decidable (In40 z) := by unfold In40; exact inferInstance
/-- A curve that is right. -/
def Crv.right (c : Crv) : Prop := (In40 c.px ∧ In40 c.py) ∧ (In40 c.qx ∧ In40 c.qy) ∧ (In40 c.rx ∧ In40 c.ry) ∧ (In40 c.sx ∧ In40 c.sy)
instance (c : Crv) : Decidable c.right := by unfold Crv.right; exact inferInstance
/-- Three numbers that lie nearly on a line. -/
def bentF (a b c : Int) : Prop := a - 2 * b + c ≤ 512 ∧ -512 ≤ a - 2 * b + c
instance (a b c : Int) : Decidable (bentF a b c) := by unfold bentF; exact inferInstance
/-- A curve that is flat. -/
def Crv.flat (c : Crv) : Prop := bentF c.px c.qx c.rx ∧ bentF c.py c.qy c.ry ∧ bentF c.qx c.rx c.sx ∧ bentF c.qy c.ry c.sy
instance (c : Crv) : Decidable c.flat := by unfold Crv.flat; exact inferInstance
/-- What a row of four numbers is cut at: the middles of the middles. -/
def m3 (a b c : Int) : Int := mid (mid a b) (mid b c)
def m4 (a b c d : Int) : Int := mid (m3 a b c) (m3 b c d)
def b3 (a b c t : Int) : Int := betw (betw a b t) (betw b c t) t
def b4 (a b c d t : Int) : Int := betw (b3 a b c t) (b3 b c d t) t
end Go.Proofs.YtbjabclgekkpaaaGreatDoor
namespace Go.Proofs.YtbjabclgekkpaaaGreatDoor
open Go.RowKit Go.Shelf
/-- A box with these cells. -/
def CBox (n : Nat) (t : TypeId) (cs : Array Value) (w : World) : Prop := w.heap[n]? = some (.cells cs t)
theorem CBox.new (w : World) (t : TypeId) (cs : Array Value) : CBox w.heap.size t cs (w.alloc (.cells cs t)) := World.alloc_heap_new w _
theorem CBox.c {n : Nat} {t : TypeId} {cs : Array Value} {w : World} (h : CBox n t cs w) (i : Nat) {v : Value} (hi : cs[i]? = some v) : w.cell? ⟨n, i, none⟩ = some v := by
  unfold CBox at h; simp [World.cell?, h, hi]
theorem CBox.z {n : Nat} {t : TypeId} {cs : Array Value} {w : World} (h : CBox n t cs w) (o : Nat) : w.frozen? ⟨n, o, none⟩ = false := by unfold CBox at h; simp [World.frozen?, h]
theorem CBox.lt {n : Nat} {t : TypeId} {cs : Array Value} {w : World} (h : CBox n t cs w) : n < w.heap.size := (Array.getElem?_eq_some_iff.1 h).1
theorem CBox.next {n : Nat} {t : TypeId} {cs : Array Value} {w w' : World} (h : CBox n t cs w) (b : Below w.heap.size w w') : CBox n t cs w' := by
  have := h.lt
  unfold CBox at *; rw [b.block n this]; exact h
theorem CBox.set {n : Nat} {t : TypeId} {cs : Array Value} {w : World} (h : CBox n t cs w) (o : Nat) (v : Value) (ho : o < cs.size) : CBox n t (cs.set o v ho) (w.setCell ⟨n, o, none⟩ v) := by
  unfold CBox at *
  simp only [World.setCell, Array.getElem?_modify, h]
  simp [Array.setIfInBounds, ho]
theorem CBox.other {n q : Nat} {t : TypeId} {cs : Array Value} {W : World} (h : CBox n t cs W) (hn : n ≠ q) (o : Nat) (v : Value) : CBox n t cs (W.setCell ⟨q, o, none⟩ v) := by
  unfold CBox at *; rw [Below.heap_setCell _ _ _ _ (by exact hn)]; exact h
theorem CBox.drew {n : Nat} {t : TypeId} {cs : Array Value} {w : World} (h : CBox n t cs w) : CBox n t cs w.drew := h
theorem boxes_two (w : World) (a b : Array Value) (s t : TypeId) : CBox w.heap.size s a ((w.alloc (.cells a s)).alloc (.cells b t)) ∧ CBox (w.heap.size + 1) t b ((w.alloc (.cells a s)).alloc (.cells b t)) ∧ Below w.heap.size w ((w.alloc (.cells a s)).alloc (.cells b t)) := by
  have b1 := (Below.refl w.heap.size w).alloc (Nat.le_refl _) (.cells a s)
  have p1 := CBox.new w s a
  generalize hA : w.alloc (.cells a s) = A at *
  have sA : A.heap.size = w.heap.size + 1 := by rw [← hA]; simp
  have b2 := (Below.refl A.heap.size A).alloc (Nat.le_refl _) (.cells b t)
  have p2 := CBox.new A t b
  rw [sA] at p2
  exact ⟨p1.next b2, p2, b1.trans (b2.mono b1.size)⟩
theorem boxes_three (w : World) (a b c : Array Value) (s t u : TypeId) : CBox w.heap.size s a (((w.alloc (.cells a s)).alloc (.cells b t)).alloc (.cells c u)) ∧ CBox (w.heap.size + 1) t b (((w.alloc (.cells a s)).alloc (.cells b t)).alloc (.cells c u)) ∧
    CBox (w.heap.size + 1 + 1) u c (((w.alloc (.cells a s)).alloc (.cells b t)).alloc (.cells c u)) ∧ Below w.heap.size w (((w.alloc (.cells a s)).alloc (.cells b t)).alloc (.cells c u)) := by
  obtain ⟨p1, p2, b1⟩ := boxes_two w a b s t
  generalize hA : (w.alloc (.cells a s)).alloc (.cells b t) = A at *
  have sA : A.heap.size = w.heap.size + 1 + 1 := by rw [← hA]; simp
  have b2 := (Below.refl A.heap.size A).alloc (Nat.le_refl _) (.cells c u)
  have p3 := CBox.new A u c
  rw [sA] at p3
  exact ⟨p1.next b2, p2.next b2, p3, b1.trans (b2.mono b1.size)⟩
end Go.Proofs.YtbjabclgekkpaaaGreatDoor
namespace Go.Proofs.YtbjabclgekkpaaaGreatDoor
open Go.RowKit Go.Shelf
theorem CBox.free {W W' : World} {n : Nat} {t : TypeId} {cs : Array Value} {row : Option Nat} (h : CBox n t cs W) (hg : W.grownBy W' row)
    (hr : ∀ r, row = some r → ∃ o : Obj, W.heap[r]? = some o ∧ o.isCells = false) : CBox n t cs W' := by
  have hl := h.lt
  unfold CBox at *
  refine (hg.block n hl fun e => ?_).trans h
  obtain ⟨o, ho, hn⟩ := hr n e.symm
  rw [h] at ho
  cases ho
  cases hn
theorem CBox.but {W W' : World} {n b : Nat} {t : TypeId} {cs : Array Value} (h : CBox n t cs W) (hn : n ≠ b) (B : But W.heap.size b W W') : CBox n t cs W' := by
  have hl := h.lt
  unfold CBox at *
  exact (B.block n hl hn).trans h
theorem CBox.grown {W W' : World} {n : Nat} {t : TypeId} {cs : Array Value} {row : Option Nat} (h : CBox n t cs W) (hg : W.grownBy W' row) (hn : some n ≠ row) : CBox n t cs W' := by
  have hl := h.lt
  unfold CBox at *
  exact (hg.block n hl hn).trans h
end Go.Proofs.YtbjabclgekkpaaaGreatDoor
namespace Go.Proofs.YtbjabclgekkpaaaGreatDoor
open Go.RowKit Go.Shelf
/-- An edge, from one point to another one. -/
structure Edg where
  px : Int
  py : Int
  qx : Int
  qy : Int
deriving DecidableEq
def Edg.lst (g : Edg) : List Value := [.int .i64 g.px, .int .i64 g.py, .int .i64 g.qx, .int .i64 g.qy]
def edgL : Lay8 Edg := { e := 42, sz := 4, cl := Edg.lst, len := fun _ => rfl, pos := by decide, one := fun x u hu => by simp [Edg.lst] at hu; rcases hu with rfl | rfl | rfl | rfl <;> rfl }
/-- A row of edges of the call's own; one that is read. -/
def Edgs (R : Nat) (v : Value) (l : List Edg) (w : World) : Prop := edgL.own R v l w
def RdE (a : Option Addr) (l : List Edg) (w : World) : Prop := edgL.rd a l w
theorem info_edg : (Tryz.prog.info? 42).map (fun i => (i.zero, i.size, i.bytes)) = some (some (.agg #[.int .i64 0, .int .i64 0, .int .i64 0, .int .i64 0]), 4, 32) := by kernel_rfl
theorem RdE.at {a : Option Addr} {l : List Edg} {w : World} (h : RdE a l w) {i : Nat} {g : Edg} (hi : l[i]? = some g) :
    ∃ b off, a = some ⟨b, off, none⟩ ∧ b < w.heap.size ∧ w.cell? ⟨b, off + i * 4, none⟩ = some (.int .i64 g.px) ∧ w.cell? ⟨b, off + i * 4 + 1, none⟩ = some (.int .i64 g.py) ∧ w.cell? ⟨b, off + i * 4 + 2, none⟩ = some (.int .i64 g.qx) ∧ w.cell? ⟨b, off + i * 4 + 3, none⟩ = some (.int .i64 g.qy) := by
  obtain ⟨b, off, h1, h2, h3⟩ := Lay8.rd.pos h (List.getElem?_eq_some_iff.1 hi).1
  have k := fun j u (hj : (edgL.cl g)[j]? = some u) => h3 _ _ (edgL.flat_at l i g j u hi hj)
  refine ⟨b, off, h1, h2, k 0 _ rfl, ?_, ?_, ?_⟩
  · rw [Nat.add_assoc]; exact k 1 _ rfl
  · rw [Nat.add_assoc]; exact k 2 _ rfl
  · rw [Nat.add_assoc]; exact k 3 _ rfl
end Go.Proofs.YtbjabclgekkpaaaGreatDoor
namespace Go.Proofs.YtbjabclgekkpaaaGreatDoor
/-- What is read of a text: its length, its bytes, where blanks and gaps end, numbers. -/
structure Tx where
  len : Nat
  byte : Nat → Nat
  blkA : Nat → Nat
  gapA : Nat → Nat
  num : Nat → Bool → Int × Int × Nat
  ends : Nat → Bool → Nat
/-- May a number begin with this byte? -/
def startB (b : Nat) (sg : Bool) : Bool := (48 ≤ b && b ≤ 57) || b == 46 || (sg && (b == 43 || b == 45))
structure Tx.Ok (X : Tx) : Prop where
  blk : ∀ i, i ≤ X.len → i ≤ X.blkA i ∧ X.blkA i ≤ X.len
  gap : ∀ i, i ≤ X.len → i ≤ X.gapA i ∧ X.gapA i ≤ X.len
  comma : ∀ i, i < X.len → X.byte i = 44 → i < X.gapA i
  ends : ∀ i sg, i ≤ X.len → i ≤ X.ends i sg ∧ X.ends i sg ≤ X.len
  er : ∀ i sg, i ≤ X.len → (X.num i sg).2.1 = 0 ∨ (X.num i sg).2.1 = 2 ∨ (X.num i sg).2.1 = 3
  ok : ∀ i sg, i ≤ X.len → (X.num i sg).2.1 = 0 → (X.num i sg).2.2 = X.ends i sg ∧ i < X.ends i sg
  bad : ∀ i sg, i ≤ X.len → (X.num i sg).2.1 = 3 → (X.num i sg).2.2 = X.ends i sg
  great : ∀ i sg, i ≤ X.len → (X.num i sg).2.1 = 2 → (X.num i sg).2.2 = i
  start : ∀ i sg, i < X.len → startB (X.byte i) sg = true → i < X.ends i sg
structure Cmd where
  letter : Nat
  args : List Int
/-- How many arguments a group has; 99: none of the letters. -/
def cntL (c : Nat) : Nat :=
  if c = 77 ∨ c = 109 ∨ c = 76 ∨ c = 108 ∨ c = 84 ∨ c = 116 then 2
  else if c = 72 ∨ c = 104 ∨ c = 86 ∨ c = 118 then 1
  else if c = 67 ∨ c = 99 then 6
  else if c = 83 ∨ c = 115 ∨ c = 81 ∨ c = 113 then 4
  else if c = 65 ∨ c = 97 then 7
  else if c = 90 ∨ c = 122 then 0
  else 99
def isArc (c : Nat) : Bool := c == 65 || c == 97
/-- The letter of the groups behind the first one. -/
def nextL (c : Nat) : Nat := if c = 77 then 76 else if c = 109 then 108 else c
def flagA (X : Tx) (i : Nat) : Int × Int × Nat := if i < X.len ∧ (X.byte i = 48 ∨ X.byte i = 49) then (((X.byte i : Int) - 48), 0, i + 1) else (0, 3, i)
/-- The k-th argument, with the gap ahead of it. -/
def one (X : Tx) (c k i : Nat) : Int × Int × Nat :=
  if isArc c = false then X.num (if k = 0 then i else X.gapA i) true
  else if k = 3 ∧ X.gapA i = i then (0, 3, i)
  else if k = 3 ∨ k = 4 then flagA X (X.gapA i)
  else X.num (if k = 0 then i else X.gapA i) (decide (k ≠ 0 ∧ k ≠ 1))
/-- The arguments from the k-th on, so many of them: what there is, or where it is wrong. -/
def argsL (X : Tx) (c : Nat) : Nat → Nat → Nat → List Int → (List Int × Nat) ⊕ (Nat × Int)
  | 0, _, i, acc => .inl (acc, i)
  | n + 1, k, i, acc => if (one X c k i).2.1 = 0 then argsL X c n (k + 1) (one X c k i).2.2 (acc ++ [(one X c k i).1]) else .inr ((one X c k i).2.2, (one X c k i).2.1)
/-- Path data, from a place on: ahead of a letter (none), or of a group of a letter. -/
def pathL (X : Tx) : Nat → Option Nat → Nat → List Cmd → List Cmd × Int × Int
  | 0, _, _, out => (out, -1, 0)
  | f + 1, none, i, out =>
    if i < X.len then
      if cntL (X.byte i) = 99 ∨ (out = [] ∧ X.byte i ≠ 77 ∧ X.byte i ≠ 109) then (out, (i : Int), 3)
      else if cntL (X.byte i) = 0 then pathL X f none (X.blkA (i + 1)) (out ++ [⟨X.byte i, []⟩])
      else pathL X f (some (X.byte i)) (X.blkA (i + 1)) out
    else (out, -1, 0)
  | f + 1, some c, i, out =>
    match argsL X c (cntL c) 0 i [] with
    | .inr (at', e) => (out, (at' : Int), e)
    | .inl (xs, j) =>
      if X.blkA j < X.len ∧ X.byte (X.blkA j) = 44 then pathL X f (some (nextL c)) (X.gapA (X.blkA j)) (out ++ [⟨c, xs⟩])
      else if X.blkA j < X.len ∧ startB (X.byte (X.blkA j)) (!isArc c) = true then pathL X f (some (nextL c)) (X.blkA j) (out ++ [⟨c, xs⟩])
      else pathL X f none (X.blkA j) (out ++ [⟨c, xs⟩])
theorem flag_ok (X : Tx) (i : Nat) : ((flagA X i).2.1 = 0 ∧ (flagA X i).2.2 = i + 1 ∧ i < X.len) ∨ ((flagA X i).2.1 = 3 ∧ (flagA X i).2.2 = i) := by
  unfold flagA; split
  · rename_i h; exact Or.inl ⟨rfl, rfl, h.1⟩
  · exact Or.inr ⟨rfl, rfl⟩
theorem one_plain (X : Tx) {c : Nat} (k i : Nat) (h : isArc c = false) : one X c k i = X.num (if k = 0 then i else X.gapA i) true := by unfold one; rw [if_pos h]
theorem one_none (X : Tx) {c k i : Nat} (h : isArc c = true) (h1 : k = 3 ∧ X.gapA i = i) : one X c k i = (0, 3, i) := by unfold one; rw [if_neg (by rw [h]; decide), if_pos h1]
theorem one_flag (X : Tx) {c k i : Nat} (h : isArc c = true) (h1 : ¬ (k = 3 ∧ X.gapA i = i)) (h2 : k = 3 ∨ k = 4) : one X c k i = flagA X (X.gapA i) := by unfold one; rw [if_neg (by rw [h]; decide), if_neg h1, if_pos h2]
theorem one_num (X : Tx) {c k : Nat} (i : Nat) (h : isArc c = true) (h2 : ¬ (k = 3 ∨ k = 4)) : one X c k i = X.num (if k = 0 then i else X.gapA i) (decide (k ≠ 0 ∧ k ≠ 1)) := by unfold one; rw [if_neg (by rw [h]; decide), if_neg (fun h => h2 (Or.inl h.1)), if_neg h2]
/-- What an argument is: nothing, a flag or a number. -/
theorem one_cases (X : Tx) (c k i : Nat) : ∃ j : Nat, (j = i ∨ j = X.gapA i) ∧ (j = i → k = 0 ∨ X.gapA i = i) ∧ ((one X c k i = (0, 3, i) ∧ X.gapA i = i) ∨ (one X c k i = flagA X j ∧ j = X.gapA i) ∨ ∃ sg, one X c k i = X.num j sg ∧ (k = 0 → sg = !isArc c)) := by
  unfold one
  by_cases h : isArc c = false
  · rw [if_pos h]
    by_cases hk : k = 0
    · exact ⟨i, Or.inl rfl, fun _ => Or.inl hk, Or.inr (Or.inr ⟨true, by rw [if_pos hk], fun _ => by rw [h]; rfl⟩)⟩
    · exact ⟨X.gapA i, Or.inr rfl, fun e => Or.inr e, Or.inr (Or.inr ⟨true, by rw [if_neg hk], fun _ => by rw [h]; rfl⟩)⟩
  · rw [if_neg h]
    have h' : isArc c = true := by simpa using h
    by_cases h1 : k = 3 ∧ X.gapA i = i
    · rw [if_pos h1]
      exact ⟨i, Or.inl rfl, fun _ => Or.inr h1.2, Or.inl ⟨rfl, h1.2⟩⟩
    · rw [if_neg h1]
      by_cases h2 : k = 3 ∨ k = 4
      · rw [if_pos h2]
        exact ⟨X.gapA i, Or.inr rfl, fun e => Or.inr e, Or.inr (Or.inl ⟨rfl, rfl⟩)⟩
      · rw [if_neg h2]
        by_cases hk : k = 0
        · exact ⟨i, Or.inl rfl, fun _ => Or.inl hk, Or.inr (Or.inr ⟨_, by rw [if_pos hk], fun _ => by rw [h', hk]; rfl⟩)⟩
        · exact ⟨X.gapA i, Or.inr rfl, fun e => Or.inr e, Or.inr (Or.inr ⟨_, by rw [if_neg hk], fun e => absurd e hk⟩)⟩
/-- An argument goes on, or tells where it is wrong. -/
structure OneOk (X : Tx) (c k i : Nat) : Prop where
  hi : (one X c k i).2.2 ≤ X.len
  er : (one X c k i).2.1 = 0 ∨ (one X c k i).2.1 = 2 ∨ (one X c k i).2.1 = 3
  ok : (one X c k i).2.1 = 0 → i < (one X c k i).2.2
  bad : (one X c k i).2.1 = 3 → i ≤ (one X c k i).2.2
theorem num_hi {X : Tx} (H : X.Ok) (j : Nat) (sg : Bool) (h : j ≤ X.len) : (X.num j sg).2.2 ≤ X.len := by
  have he := H.ends j sg h
  rcases H.er j sg h with h0 | h0 | h0
  · rw [(H.ok j sg h h0).1]; exact he.2
  · rw [H.great j sg h h0]; exact h
  · rw [H.bad j sg h h0]; exact he.2
theorem one_ok {X : Tx} (H : X.Ok) (c k i : Nat) (hi : i ≤ X.len) : OneOk X c k i := by
  have hg := H.gap i hi
  obtain ⟨j, hj, _, h⟩ := one_cases X c k i
  have hij : i ≤ j ∧ j ≤ X.len := by rcases hj with rfl | rfl <;> omega
  rcases h with ⟨h, _⟩ | ⟨h, _⟩ | ⟨sg, h, _⟩
  · constructor <;> rw [h]
    · exact hi
    · exact Or.inr (Or.inr rfl)
    · intro e; cases e
    · intro _; exact Nat.le_refl _
  · rcases flag_ok X j with ⟨e1, e2, e3⟩ | ⟨e1, e2⟩
    · constructor <;> rw [h]
      · rw [e2]; omega
      · exact Or.inl e1
      · intro _; rw [e2]; omega
      · intro e; rw [e1] at e; cases e
    · constructor <;> rw [h]
      · rw [e2]; omega
      · exact Or.inr (Or.inr e1)
      · intro e; rw [e1] at e; cases e
      · intro _; rw [e2]; omega
  · constructor <;> rw [h]
    · exact num_hi H j sg hij.2
    · exact H.er j sg hij.2
    · intro e; have := H.ok j sg hij.2 e; omega
    · intro e; have := H.bad j sg hij.2 e; have := H.ends j sg hij.2; omega
theorem args_mono {X : Tx} (H : X.Ok) (c : Nat) : ∀ (n k i : Nat) (acc : List Int), i ≤ X.len →
    (∀ xs j, argsL X c n k i acc = .inl (xs, j) → i ≤ j ∧ j ≤ X.len ∧ (0 < n → i < j)) ∧ (∀ a e, argsL X c n k i acc = .inr (a, e) → a ≤ X.len ∧ (e = 2 ∨ e = 3) ∧ (e = 3 → i ≤ a)) := by
  intro n
  induction n with
  | zero =>
    intro k i acc hi
    refine ⟨fun xs j h => ?_, fun a e h => by cases h⟩
    obtain ⟨rfl, rfl⟩ : acc = xs ∧ i = j := by simpa [argsL] using h
    exact ⟨Nat.le_refl _, hi, fun h => absurd h (by omega)⟩
  | succ n ih =>
    intro k i acc hi
    have O := one_ok H c k i hi
    unfold argsL
    by_cases h0 : (one X c k i).2.1 = 0
    · rw [if_pos h0]
      have hlt := O.ok h0
      have := ih (k + 1) _ (acc ++ [(one X c k i).1]) O.hi
      refine ⟨fun xs j h => ?_, fun a e h => ?_⟩
      · have := this.1 xs j h; omega
      · have := this.2 a e h; exact ⟨this.1, this.2.1, fun h3 => by have := this.2.2 h3; omega⟩
    · rw [if_neg h0]
      refine ⟨(fun xs j h => by cases h), fun a e h => ?_⟩
      obtain ⟨rfl, rfl⟩ : (one X c k i).2.2 = a ∧ (one X c k i).2.1 = e := by simpa using h
      refine ⟨O.hi, ?_, O.bad⟩
      rcases O.er with h | h
      · exact absurd h h0
      · exact h
theorem arc_next (c : Nat) : isArc (nextL c) = isArc c := by
  unfold nextL
  split
  · rename_i h; subst h; decide
  · split
    · rename_i h; subst h; decide
    · rfl
theorem cnt_next (c : Nat) (h : 0 < cntL c) : 0 < cntL (nextL c) := by
  unfold nextL
  split
  · decide
  · split
    · decide
    · exact h
/-- More steps make no difference, once there are enough. -/
theorem path_fuel {X : Tx} (H : X.Ok) : ∀ (f : Nat) (st : Option Nat) (i : Nat) (out : List Cmd), i ≤ X.len → X.len - i + 1 ≤ f → (∀ c, st = some c → 0 < cntL c) → pathL X (f + 1) st i out = pathL X f st i out := by
  intro f
  induction f with
  | zero => intro st i out _ h _; omega
  | succ f ih =>
    intro st i out hi hf hst
    cases st with
    | none =>
      conv => lhs; unfold pathL
      conv => rhs; unfold pathL
      by_cases h1 : i < X.len
      · have hb := H.blk (i + 1) (by omega)
        rw [if_pos h1, if_pos h1]
        by_cases h2 : cntL (X.byte i) = 99 ∨ (out = [] ∧ X.byte i ≠ 77 ∧ X.byte i ≠ 109)
        · rw [if_pos h2, if_pos h2]
        · rw [if_neg h2, if_neg h2]
          by_cases h3 : cntL (X.byte i) = 0
          · rw [if_pos h3, if_pos h3]; exact ih _ _ _ hb.2 (by omega) (fun _ e => by cases e)
          · rw [if_neg h3, if_neg h3]; exact ih _ _ _ hb.2 (by omega) (fun c e => by cases e; omega)
      · rw [if_neg h1, if_neg h1]
    | some c =>
      have hc := hst c rfl
      have hn : ∀ c', some (nextL c) = some c' → 0 < cntL c' := fun c' e => by cases e; exact cnt_next c hc
      have M := args_mono H c (cntL c) 0 i [] hi
      conv => lhs; unfold pathL
      conv => rhs; unfold pathL
      cases he : argsL X c (cntL c) 0 i [] with
      | inr y => rfl
      | inl y =>
        obtain ⟨xs, j⟩ := y
        have hj := M.1 _ _ he
        have hlt := hj.2.2 hc
        have hb := H.blk j hj.2.1
        have hg := H.gap (X.blkA j) hb.2
        simp only
        by_cases h1 : X.blkA j < X.len ∧ X.byte (X.blkA j) = 44
        · rw [if_pos h1, if_pos h1]; exact ih _ _ _ hg.2 (by omega) hn
        · rw [if_neg h1, if_neg h1]
          by_cases h2 : X.blkA j < X.len ∧ startB (X.byte (X.blkA j)) (!isArc c) = true
          · rw [if_pos h2, if_pos h2]; exact ih _ _ _ hb.2 (by omega) hn
          · rw [if_neg h2, if_neg h2]; exact ih _ _ _ hb.2 (by omega) (fun _ e => by cases e)
/-- All of the text. -/
def pathAll (X : Tx) : List Cmd × Int × Int := pathL X (X.len + 1) none (X.blkA 0) []
end Go.Proofs.YtbjabclgekkpaaaGreatDoor
