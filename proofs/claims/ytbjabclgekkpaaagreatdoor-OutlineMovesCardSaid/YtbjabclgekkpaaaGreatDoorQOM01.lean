/- Joined: Base, In32, PtMem, NearD, AffMath, AffMem, PtTrod, AffPts, AffThenM, AffAllM, AffAllP, Iter, RangeOpen, Feed, RowG, CurveMath, CrvMem, CrvRow, EdgRow. -/
import Derived.Test.YtbjabclgekkpaaaGreatDoorProg
import Derived.BigFrame
import Derived.BigQuiet
import Derived.Carry
import Derived.ChangeSlices
import Derived.Deep.AppendLies
import Derived.Deep.RegionHeld3
import Derived.Deep.RegionWith
import Derived.Deep.Slices
import Derived.Deep.Upon
import Derived.KernelRfl
import Derived.Laws.Bits64b
import Derived.Laws.Externs
import Derived.Laws.Pointers
import Derived.Lib.Hide
import Derived.Lib.Mul64
import Derived.Lib.SmallJoins
import Derived.LoopIn
import Derived.LoopNIn
import Derived.Maps.AppendAt
import Derived.OpenShut
import Derived.OwnWalk
import Derived.OwnWalkIn
import Derived.ProofKit
import Derived.RangeFuncBound
import Derived.RangeFuncBox
import Derived.RangeFuncCalls
import Derived.RangeFuncLeaves
import Derived.RangeFuncNested
import Derived.RowKit3
import Derived.Scope
import Derived.Shelf.Abstract
import Derived.Shelf.RegionOpen
import Derived.Shelf.Spec.BitsCarry
import Derived.StillTactics
import Derived.StillTailTactics
import Derived.TacticsInMore
import Derived.WalkKit
import Derived.WalkSpells
namespace Go.Proofs.YtbjabclgekkpaaaGreatDoor
open Go.ChangeShapes Go.WideShapes Go.ChangeAt Go.RowKit Go.Shelf
theorem own : ownKnob Tryz.prog.godebug = none := by kernel_rfl
theorem laidOut : laidOutB Tryz.prog = true := by kernel_rfl
/-- A plain number. -/
def I64 (x : Int) : Prop := -9223372036854775808 ≤ x ∧ x ≤ 9223372036854775807
/- Plain facts on words of 64 bits (own proofs: the library's text that held the like of them wants a great module that takes half an hour on a new machine). -/
namespace Mul64
theorem mulN (x y : Nat) : (x : Int) * (y : Int) = ((x * y : Nat) : Int) := by push_cast; rfl
theorem addN (x y : Nat) : (x : Int) + (y : Int) = ((x + y : Nat) : Int) := by push_cast; rfl
theorem divN (x : Nat) : (x : Int) / 4294967296 = ((x / 4294967296 : Nat) : Int) := by omega
theorem wrapM (x : Nat) : IntKind.u64.wrap (x : Int) = ((x % 18446744073709551616 : Nat) : Int) := by
  rw [IntKind.wrap_u64]; omega
theorem wrapN (x : Nat) (h : x < 18446744073709551616) : IntKind.u64.wrap (x : Int) = (x : Int) := by
  rw [wrapM, Nat.mod_eq_of_lt h]
theorem maskN (x : Nat) (h : x < 18446744073709551616) : bits .and .u64 (x : Int) 4294967295 = ((x % 4294967296 : Nat) : Int) := by
  have k : x &&& 4294967295 = x % 4294967296 := Nat.and_two_pow_sub_one_eq_mod x 32
  rw [← k]
  exact bits_and_u64_nat x 4294967295 h (by decide)
end Mul64
end Go.Proofs.YtbjabclgekkpaaaGreatDoor
namespace Go.Proofs.YtbjabclgekkpaaaGreatDoor
def In32 (z : Int) : Prop := -4294967296 < z ∧ z < 4294967296
instance (z : Int) : Decidable (In32 z) := by unfold In32; infer_instance
end Go.Proofs.YtbjabclgekkpaaaGreatDoor
namespace Go.Proofs.YtbjabclgekkpaaaGreatDoor
open Go.RowKit Go.Shelf
def PBox (n : Nat) (x y : Int) (w : World) : Prop := w.heap[n]? = some (.cells #[.int .i64 x, .int .i64 y] 40)
theorem PBox.new (w : World) (x y : Int) : PBox w.heap.size x y (w.alloc (.cells #[.int .i64 x, .int .i64 y] 40)) := World.alloc_heap_new w _
theorem PBox.c0 {n : Nat} {x y : Int} {w : World} (h : PBox n x y w) : w.cell? ⟨n, 0, none⟩ = some (.int .i64 x) := by unfold PBox at h; simp [World.cell?, h]
theorem PBox.c1 {n : Nat} {x y : Int} {w : World} (h : PBox n x y w) : w.cell? ⟨n, 1, none⟩ = some (.int .i64 y) := by unfold PBox at h; simp [World.cell?, h]
theorem PBox.z {n : Nat} {x y : Int} {w : World} (h : PBox n x y w) (o : Nat) : w.frozen? ⟨n, o, none⟩ = false := by unfold PBox at h; simp [World.frozen?, h]
theorem PBox.lt {n : Nat} {x y : Int} {w : World} (h : PBox n x y w) : n < w.heap.size := (Array.getElem?_eq_some_iff.1 h).1
theorem PBox.next {n : Nat} {x y : Int} {w w' : World} (h : PBox n x y w) (t : Below w.heap.size w w') : PBox n x y w' := by
  have := h.lt
  unfold PBox at *; rw [t.block n this]; exact h
theorem In32.i {x : Int} (h : In32 x) : I64 x := by obtain ⟨h1, h2⟩ := h; exact ⟨by omega, by omega⟩
theorem PBox.set {n : Nat} {x y : Int} {w : World} (h : PBox n x y w) (x' y' : Int) : PBox n x' y' ((w.setCell ⟨n, 0, none⟩ (.int .i64 x')).setCell ⟨n, 1, none⟩ (.int .i64 y')) := by
  unfold PBox at *
  simp only [World.setCell, Array.getElem?_modify, h]
  simp
theorem PBox.other {n q : Nat} {x y : Int} {W : World} (h : PBox n x y W) (hn : n ≠ q) (o : Nat) (v : Value) : PBox n x y (W.setCell ⟨q, o, none⟩ v) := by
  unfold PBox at *; rw [Below.heap_setCell _ _ _ _ (by exact hn)]; exact h
theorem below_pt8 {w w' : World} {n : Nat} (h : Below w.heap.size w w') (hn : w.heap.size ≤ n) (x y : Value) : Below w.heap.size w ((w'.setCell ⟨n, 0, none⟩ x).setCell ⟨n, 1, none⟩ y) :=
  Below.setCell (Below.setCell h (by exact hn) _) (by exact hn) _
end Go.Proofs.YtbjabclgekkpaaaGreatDoor
namespace Go.Proofs.YtbjabclgekkpaaaGreatDoor
/-- The nearest whole number to v / d; of two that are as near the greater one. -/
def near (v : Int) (d : Nat) : Int := (v + (d : Int) / 2) / (d : Int)
end Go.Proofs.YtbjabclgekkpaaaGreatDoor
namespace Go.Proofs.YtbjabclgekkpaaaGreatDoor
/-- A matrix: its six numbers. -/
structure Mtx where
  a : Int
  b : Int
  c : Int
  d : Int
  e : Int
  f : Int
deriving DecidableEq
def Mtx.right (m : Mtx) : Prop := In32 m.a ∧ In32 m.b ∧ In32 m.c ∧ In32 m.d ∧ In32 m.e ∧ In32 m.f
instance mtxDec (m : Mtx) : Decidable m.right := by unfold Mtx.right; infer_instance
/-- One number, rounded once. -/
def numA (a x b y c : Int) : Int := near (a * x + b * y) (2 ^ 16) + c
def appM (m : Mtx) (x y : Int) : Int × Int := (numA m.a x m.c y m.e, numA m.b x m.d y m.f)
def sameM : Mtx := ⟨65536, 0, 0, 65536, 0, 0⟩
theorem prod32 {a x : Int} (ha : In32 a) (hx : In32 x) : -18446744073709551616 ≤ a * x ∧ a * x ≤ 18446744073709551616 := by
  obtain ⟨a1, a2⟩ := ha
  obtain ⟨x1, x2⟩ := hx
  have h : (a * x).natAbs ≤ 4294967296 * 4294967296 := by
    rw [Int.natAbs_mul]
    exact Nat.mul_le_mul (by omega) (by omega)
  omega
theorem near16 (v : Int) : near v (2 ^ 16) = (v + 32768) / 65536 := rfl
/-- Far from what an int64 holds. -/
theorem num_near {a x b y : Int} (ha : In32 a) (hx : In32 x) (hb : In32 b) (hy : In32 y) : -1125899906842624 ≤ near (a * x + b * y) (2 ^ 16) ∧ near (a * x + b * y) (2 ^ 16) ≤ 1125899906842624 := by
  have h1 := prod32 ha hx
  have h2 := prod32 hb hy
  rw [near16]
  generalize a * x = p at *
  generalize b * y = q at *
  omega
theorem near_mul (x : Int) : near (65536 * x) (2 ^ 16) = x := by rw [near16]; omega
theorem num_id (x y c : Int) : numA 65536 x 0 y c = x + c := by
  unfold numA; rw [Int.zero_mul, Int.add_zero, near_mul]
theorem num_id' (x y c : Int) : numA 0 x 65536 y c = y + c := by
  unfold numA; rw [Int.zero_mul, Int.zero_add, near_mul]
theorem app_same (x y : Int) : appM sameM x y = (x, y) := by
  unfold appM sameM; simp only [num_id, num_id', Int.add_zero]
theorem app_move (e f x y : Int) : appM ⟨65536, 0, 0, 65536, e, f⟩ x y = (x + e, y + f) := by
  unfold appM; simp only [num_id, num_id']
theorem mright_same : sameM.right := by decide
end Go.Proofs.YtbjabclgekkpaaaGreatDoor
namespace Go.Proofs.YtbjabclgekkpaaaGreatDoor
open Go.RowKit Go.Shelf
def Mtx.cells (m : Mtx) : Array Value := #[.int .i64 m.a, .int .i64 m.b, .int .i64 m.c, .int .i64 m.d, .int .i64 m.e, .int .i64 m.f]
def Mtx.val (m : Mtx) : Value := .agg m.cells
/-- A box with a matrix, a box with a point. -/
def MBox (n : Nat) (m : Mtx) (w : World) : Prop := w.heap[n]? = some (.cells m.cells 23)
theorem MBox.new (w : World) (m : Mtx) : MBox w.heap.size m (w.alloc (.cells m.cells 23)) := World.alloc_heap_new w _
theorem MBox.c0 {n : Nat} {m : Mtx} {w : World} (h : MBox n m w) : w.cell? ⟨n, 0, none⟩ = some (.int .i64 m.a) := by unfold MBox Mtx.cells at h; simp [World.cell?, h]
theorem MBox.c1 {n : Nat} {m : Mtx} {w : World} (h : MBox n m w) : w.cell? ⟨n, 1, none⟩ = some (.int .i64 m.b) := by unfold MBox Mtx.cells at h; simp [World.cell?, h]
theorem MBox.c2 {n : Nat} {m : Mtx} {w : World} (h : MBox n m w) : w.cell? ⟨n, 2, none⟩ = some (.int .i64 m.c) := by unfold MBox Mtx.cells at h; simp [World.cell?, h]
theorem MBox.c3 {n : Nat} {m : Mtx} {w : World} (h : MBox n m w) : w.cell? ⟨n, 3, none⟩ = some (.int .i64 m.d) := by unfold MBox Mtx.cells at h; simp [World.cell?, h]
theorem MBox.c4 {n : Nat} {m : Mtx} {w : World} (h : MBox n m w) : w.cell? ⟨n, 4, none⟩ = some (.int .i64 m.e) := by unfold MBox Mtx.cells at h; simp [World.cell?, h]
theorem MBox.c5 {n : Nat} {m : Mtx} {w : World} (h : MBox n m w) : w.cell? ⟨n, 5, none⟩ = some (.int .i64 m.f) := by unfold MBox Mtx.cells at h; simp [World.cell?, h]
theorem MBox.lt {n : Nat} {m : Mtx} {w : World} (h : MBox n m w) : n < w.heap.size := (Array.getElem?_eq_some_iff.1 h).1
theorem MBox.next {n : Nat} {m : Mtx} {w w' : World} (h : MBox n m w) (t : Below w.heap.size w w') : MBox n m w' := by
  have := h.lt
  unfold MBox at *; rw [t.block n this]; exact h
theorem MBox.other {n q : Nat} {m : Mtx} {W : World} (h : MBox n m W) (hn : n ≠ q) (o : Nat) (v : Value) : MBox n m (W.setCell ⟨q, o, none⟩ v) := by
  unfold MBox at *; rw [Below.heap_setCell _ _ _ _ (by exact hn)]; exact h
end Go.Proofs.YtbjabclgekkpaaaGreatDoor
namespace Go.Proofs.YtbjabclgekkpaaaGreatDoor
open Go.ChangeShapes Go.WideShapes Go.ChangeAt Go.RowKit Go.Shelf Go.Joins Go.Deep
theorem i64_of_wf {a : Int} (h : (Lit.int .i64 a).wf = true) : I64 a := by
  unfold I64
  simpa [Lit.wf, IntKind.min, IntKind.max, IntKind.signed, IntKind.bits] using h
theorem num_cell {P : Program} {H : Type} {enc : TypeId × Value → H} {W : World} {base n : Nat} {t : TypeId} {v : Value} {y : DataW H × List MemPlace} (ht : P.underlying t = some (.int .i64)) (h : DataW.trod enc P W base (fun _ => true) true n t [v] = some y) :
    ∃ a : Int, v = .int .i64 a ∧ I64 a := by
  obtain ⟨a, ea, _, wa⟩ := DataW.trod_int ht h
  exact ⟨a, by simpa using ea, i64_of_wf wa⟩
end Go.Proofs.YtbjabclgekkpaaaGreatDoor
namespace Go.Proofs.YtbjabclgekkpaaaGreatDoor
open Go.ChangeShapes Go.WideShapes Go.ChangeAt Go.RowKit Go.Shelf Go.Joins Go.Deep
abbrev Pt := Int × Int
def ptC (p : Pt) : List Value := [.int .i64 p.1, .int .i64 p.2]
def flatP : List Pt → List Value
  | [] => []
  | g :: t => ptC g ++ flatP t
theorem flatP_at (l : List Pt) : ∀ (i : Nat) (g : Pt), l[i]? = some g → (flatP l)[i * 2]? = some (.int .i64 g.1) ∧ (flatP l)[i * 2 + 1]? = some (.int .i64 g.2) := by
  induction l with
  | nil => intro i g h; simp at h
  | cons x t ih =>
    intro i g h
    cases i with
    | zero =>
      obtain rfl : x = g := by simpa using h
      simp [flatP, ptC]
    | succ i =>
      have := ih i g (by simpa using h)
      simp only [flatP]
      have hx : (ptC x).length = 2 := rfl
      rw [List.getElem?_append_right (by rw [hx]; omega), List.getElem?_append_right (by rw [hx]; omega), hx, show (i + 1) * 2 - 2 = i * 2 from by omega, show (i + 1) * 2 + 1 - 2 = i * 2 + 1 from by omega]
      exact this
theorem flatP_set (l : List Pt) : ∀ (i : Nat) (g : Pt), i < l.length → ((flatP l).set (i * 2) (.int .i64 g.1)).set (i * 2 + 1) (.int .i64 g.2) = flatP (l.set i g) := by
  induction l with
  | nil => intro i g h; simp at h
  | cons x t ih =>
    intro i g h
    cases i with
    | zero => simp [flatP, ptC]
    | succ i =>
      have := ih i g (by simpa using h)
      simp only [flatP, List.set_cons_succ]
      have hx : (ptC x).length = 2 := rfl
      rw [← this, List.set_append_right _ _ (by rw [hx]; omega), List.set_append_right _ _ (by rw [hx]; omega), hx, show (i + 1) * 2 - 2 = i * 2 from by omega, show (i + 1) * 2 + 1 - 2 = i * 2 + 1 from by omega]
theorem own_type8 {W : World} {R : Nat} {e : TypeId} {sz : Nat} {v : Value} {k : Nat} {xs : List Value} (h : W.ownsRow R e sz v k xs) : ∀ q, v.ownBlock = some q → q < W.heap.size ∧ R ≤ q ∧ ∃ cur, W.heap[q]? = some (.cells cur e (0, 0)) := by
  intro q hq
  rcases h.2 with ⟨rfl, _⟩ | ⟨g, cap, cur, rfl, hb, hg, _⟩
  · simp [Value.ownBlock] at hq
  · obtain rfl : g = q := by simpa [Value.ownBlock] using hq
    exact ⟨(Array.getElem?_eq_some_iff.1 hg).1, hb, cur, hg⟩
theorem own_stay8 {W W' : World} {R : Nat} {e : TypeId} {sz : Nat} {v : Value} {k : Nat} {xs : List Value} (h : W.ownsRow R e sz v k xs) (hb : ∀ q, v.ownBlock = some q → W'.heap[q]? = W.heap[q]?) : W'.ownsRow R e sz v k xs := by
  refine ⟨h.1, ?_⟩
  rcases h.2 with h | ⟨g, cap, cur, rfl, hR, hg, h1, h2, h3, h4⟩
  · exact .inl h
  · exact .inr ⟨g, cap, cur, rfl, hR, (hb g rfl).trans hg, h1, h2, h3, h4⟩
theorem own_cell8 {W : World} {R : Nat} {e : TypeId} {sz k : Nat} {b off : Nat} {len cap : Nat} {xs : List Value} (h : W.ownsRow R e sz (.slice (some ⟨b, off, none⟩) len cap) k xs) {i : Nat} {u : Value} (hi : xs[i]? = some u) : W.cell? ⟨b, off + i, none⟩ = some u := by
  rcases h.2 with ⟨h0, _⟩ | ⟨g, cap', cur, hv, hR, hg, h1, h2, h3, h4⟩
  · cases h0
  · cases hv
    rw [Nat.zero_add]
    unfold World.cell?
    rw [hg]
    show cur[i]? = some u
    rw [← h4] at hi
    have := (List.getElem?_eq_some_iff.1 hi).1
    rw [List.length_take] at this
    rw [List.getElem?_take, if_pos (by omega)] at hi
    simpa using hi
/-- A row of points of the call's own. -/
def Pts (R : Nat) (v : Value) (l : List Pt) (w : World) : Prop := w.ownsRow R 40 2 v l.length (flatP l)
theorem Pts.nil (R : Nat) (w : World) : Pts R (.slice none 0 0) [] w := World.ownsRow_nil _ _ _ _
theorem Pts.shape {R : Nat} {v : Value} {l : List Pt} {w : World} (h : Pts R v l w) : ∃ a cap, v = .slice a l.length cap := by
  rcases h.2 with ⟨rfl, h3⟩ | ⟨g, cap', cur, rfl, _⟩
  · exact ⟨none, 0, by rw [h3]⟩
  · exact ⟨_, _, rfl⟩
theorem Pts.lower {R R' : Nat} {v : Value} {l : List Pt} {w : World} (h : Pts R v l w) (hb : R' ≤ R) : Pts R' v l w := by
  refine ⟨h.1, ?_⟩
  rcases h.2 with h | ⟨g, cap, cur, rfl, hR, hg, h1, h2, h3, h4⟩
  · exact .inl h
  · exact .inr ⟨g, cap, cur, rfl, Nat.le_trans hb hR, hg, h1, h2, h3, h4⟩
theorem Pts.next {R : Nat} {v : Value} {l : List Pt} {w w' : World} (h : Pts R v l w) (t : Below w.heap.size w w') : Pts R v l w' :=
  own_stay8 h fun q hq => t.block q (own_type8 h q hq).1
/-- A point lies at a place. -/
structure PtAt8 (b o : Nat) (g : Pt) (w : World) : Prop where
  c0 : w.cell? ⟨b, o, none⟩ = some (.int .i64 g.1)
  c1 : w.cell? ⟨b, o + 1, none⟩ = some (.int .i64 g.2)
theorem PtAt8.below {b o : Nat} {g : Pt} {w w' : World} (h : PtAt8 b o g w) (t : Below w.heap.size w w') (hb : b < w.heap.size) : PtAt8 b o g w' :=
  ⟨(t.cell (p := ⟨b, o, none⟩) hb).trans h.c0, (t.cell (p := ⟨b, o + 1, none⟩) hb).trans h.c1⟩
/-- The live cells of a slice of points. -/
def RdP (a : Option Addr) (l : List Pt) (w : World) : Prop :=
  l = [] ∨ ∃ b off : Nat, a = some ⟨b, off, none⟩ ∧ b < w.heap.size ∧ ∀ i, i < l.length → PtAt8 b (off + i * 2) (l.getD i (0, 0)) w
theorem RdP.next {a : Option Addr} {l : List Pt} {w w' : World} (h : RdP a l w) (t : Below w.heap.size w w') : RdP a l w' := by
  rcases h with h | ⟨b, off, ha, hlt, hc⟩
  · exact .inl h
  · exact .inr ⟨b, off, ha, Nat.lt_of_lt_of_le hlt t.size, fun i hi => (hc i hi).below t hlt⟩
theorem RdP.pos {a : Option Addr} {l : List Pt} {w : World} (h : RdP a l w) (hl : 0 < l.length) : ∃ b off : Nat, a = some ⟨b, off, none⟩ ∧ b < w.heap.size ∧ ∀ i, i < l.length → PtAt8 b (off + i * 2) (l.getD i (0, 0)) w := by
  rcases h with rfl | h
  · exact absurd hl (by decide)
  · exact h
/-- A row of the call's own is read. -/
theorem Pts.reads {R : Nat} {v : Value} {l : List Pt} {w : World} (h : Pts R v l w) : ∃ a cap, v = .slice a l.length cap ∧ RdP a l w ∧ l.length ≤ cap := by
  obtain ⟨a, cap, rfl⟩ := h.shape
  have hcap : l.length ≤ cap := by
    rcases h.2 with ⟨_, h3⟩ | ⟨g, cap', cur, hv, hR, hg, h1, _⟩
    · omega
    · cases hv; exact h1
  refine ⟨a, cap, rfl, ?_, hcap⟩
  have h' := h
  rcases h'.2 with ⟨_, h3⟩ | ⟨g, cap', cur, hv, hR, hg, h1, _⟩
  · left; exact List.length_eq_zero_iff.1 h3
  · cases hv
    refine .inr ⟨g, 0, rfl, (Array.getElem?_eq_some_iff.1 hg).1, fun i hi => ?_⟩
    obtain ⟨e0, e1⟩ := flatP_at l i (l.getD i (0, 0)) (by simp [List.getD, List.getElem?_eq_getElem hi])
    have c0 := own_cell8 h e0
    have c1 := own_cell8 h e1
    exact ⟨c0, by rw [Nat.add_assoc]; exact c1⟩
theorem info_pt : (Tryz.prog.info? 40).map (fun i => (i.zero, i.size, i.bytes)) = some (some (.agg #[.int .i64 0, .int .i64 0]), 2, 16) := by kernel_rfl
theorem range_pt (n : Nat) (f : Nat → Pt) (i : Nat) (hi : i < n) : ((List.range n).map f).getD i (0, 0) = f i := by simp [hi]
theorem add_none (b off n : Nat) : (⟨b, off, none⟩ : Addr).add n = ⟨b, off + n, none⟩ := by
  by_cases h : n = 0
  · subst h; simp [Addr.add]
  · simp [Addr.add, h]
/-- An argument of type []api.Point. -/
theorem pts_of_trod {P : Program} {H : Type} {enc : TypeId × Value → H} {W : World} {base : Nat} {v : Value} {d : DataW H} {p : List MemPlace} {u t : TypeId} {g0 g1 : Field}
    (hu : P.underlying u = some (.slice t)) (hs : P.underlying t = some (.struct #[g0, g1])) (hC : P.cellsOf t = 2) (ho : [g0, g1].map (fun f => (f.offset, P.cellsOf f.type, P.underlying f.type)) = [(0, 1, some (.int .i64)), (1, 1, some (.int .i64))])
    (hok : Value.okWide P W .any base u v) (h : DataW.Trod enc P W 0 (fun _ => true) true u v d p) :
    ∃ (a : Option Addr) (l : List Pt) (cap : Nat), v = .slice a l.length cap ∧ l.length ≤ maxLen ∧ RdP a l W ∧ (∀ g ∈ l, I64 g.1 ∧ I64 g.2) ∧ l.length ≤ cap := by
  obtain ⟨a0, len, cap, rfl⟩ := okWide_slice hu hok
  obtain ⟨fuel, hf⟩ := h
  simp only [List.map_cons, List.map_nil, List.cons.injEq, Prod.mk.injEq, and_true] at ho
  obtain ⟨⟨o0, k0, t0⟩, o1, k1, t1⟩ := ho
  rcases open_slice hu hf with ⟨hcs, hx⟩ | ⟨a, len', cap', m, n, D, Pl, hcs, _, hl, hm, hmm, hx, hcell⟩
  · simp [Value.cells] at hcs
    obtain ⟨rfl, rfl, rfl⟩ := hcs
    exact ⟨none, [], 0, rfl, Nat.zero_le _, Or.inl rfl, (fun g hg => by cases hg), Nat.le_refl _⟩
  · simp [Value.cells] at hcs
    obtain ⟨rfl, rfl, rfl⟩ := hcs
    simp only [if_true] at hmm
    rw [hC] at hcell
    have K : ∀ i, i < len → ∃ g : Pt, W.cells? 0 (a.add (i * 2)) 2 = some (ptC g) ∧ I64 g.1 ∧ I64 g.2 := by
      intro i hi
      obtain ⟨cs', h1, h2⟩ := hcell i (by omega)
      obtain ⟨xs, k, _, _, hcl, hxl, hff⟩ := DataW.trod_struct hs h2
      rw [hC] at hcl
      have hxl' : xs.length = 2 := hxl
      match cs', hcl with
      | [v0, v1], _ =>
        have f0 := hff 0 g0 rfl
        have f1 := hff 1 g1 rfl
        rw [o0, k0] at f0
        rw [o1, k1] at f1
        rw [List.getElem?_eq_getElem (by omega)] at f0 f1
        obtain ⟨x, e0, i0⟩ := num_cell (v := v0) t0 f0
        obtain ⟨y, e1, i1⟩ := num_cell (v := v1) t1 f1
        subst e0 e1
        exact ⟨(x, y), h1, i0, i1⟩
    obtain ⟨F, hF⟩ := choose_lt (α := Pt) K
    have hlen : ((List.range len).map F).length = len := by simp
    refine ⟨some a, (List.range len).map F, cap, by rw [hlen], by rw [hlen]; omega, ?_, ?_, by rw [hlen]; omega⟩
    · by_cases h0 : len = 0
      · left; rw [h0]; rfl
      · right
        obtain ⟨b, off, sp⟩ := a
        have C : ∀ i, i < len → ∀ j, j < 2 → W.cell? (((⟨b, off, sp⟩ : Addr).add (i * 2)).add j) = (ptC (F i))[j]? := fun i hi j hj => by
          obtain ⟨_, _, hc⟩ := World.cells?_some (hF i hi).1
          exact hc j hj
        have c0 := C 0 (by omega) 0 (by decide)
        have hsp : sp = none := by
          cases sp with
          | none => rfl
          | some x =>
            exfalso
            have c0' : W.cell? ⟨b, off, some x⟩ = some (Value.int .i64 (F 0).1) := by simpa [Addr.add, ptC] using c0
            simp only [World.cell?] at c0'
            split at c0' <;> simp at c0'
        subst hsp
        have hb : b < W.heap.size := by
          refine Nat.lt_of_not_le fun hge => ?_
          have hn : W.heap[b]? = none := by simp; omega
          have c0' : W.cell? ⟨b, off, none⟩ = some (Value.int .i64 (F 0).1) := by simpa [Addr.add, ptC] using c0
          simp [World.cell?, hn] at c0'
        refine ⟨b, off, rfl, hb, fun i hi => ?_⟩
        rw [hlen] at hi
        rw [range_pt len F i hi]
        have E : ∀ j, j < 2 → ∀ u, (ptC (F i))[j]? = some u → W.cell? ⟨b, off + i * 2 + j, none⟩ = some u := fun j hj u hu => by
          have := C i hi j hj
          rw [add_none, add_none, hu] at this
          exact this
        exact ⟨E 0 (by decide) _ rfl, E 1 (by decide) _ rfl⟩
    · intro g hg
      obtain ⟨i, hi, rfl⟩ := List.mem_map.1 hg
      exact (hF i (List.mem_range.1 hi)).2
end Go.Proofs.YtbjabclgekkpaaaGreatDoor
namespace Go.Proofs.YtbjabclgekkpaaaGreatDoor
open Go.RowKit Go.Shelf
theorem right_dec (m : Mtx) : decide m.right = (decide (In32 m.a) && (decide (In32 m.b) && (decide (In32 m.c) && (decide (In32 m.d) && (decide (In32 m.e) && decide (In32 m.f)))))) := by
  rw [Bool.eq_iff_iff]
  simp only [Bool.and_eq_true, decide_eq_true_eq]
  exact Iff.rfl
/-- What Apply answers: the point, and 0, 1 or 2. -/
def applyS (m : Mtx) (x y : Int) : (Int × Int) × Int :=
  if m.right ∧ In32 x ∧ In32 y then (if In32 (appM m x y).1 ∧ In32 (appM m x y).2 then (appM m x y, 0) else ((0, 0), 2)) else ((0, 0), 1)
theorem boxes3 (w : World) (m : Mtx) (x y : Int) : MBox w.heap.size m (((w.alloc (.cells m.cells 23)).alloc (.cells #[.int .i64 x, .int .i64 y] 40)).alloc (.cells #[.int .i64 0, .int .i64 0] 40)) ∧
    PBox (w.heap.size + 1) x y (((w.alloc (.cells m.cells 23)).alloc (.cells #[.int .i64 x, .int .i64 y] 40)).alloc (.cells #[.int .i64 0, .int .i64 0] 40)) ∧
    PBox (w.heap.size + 1 + 1) 0 0 (((w.alloc (.cells m.cells 23)).alloc (.cells #[.int .i64 x, .int .i64 y] 40)).alloc (.cells #[.int .i64 0, .int .i64 0] 40)) ∧
    Below w.heap.size w (((w.alloc (.cells m.cells 23)).alloc (.cells #[.int .i64 x, .int .i64 y] 40)).alloc (.cells #[.int .i64 0, .int .i64 0] 40)) := by
  have b1 := (Below.refl w.heap.size w).alloc (Nat.le_refl _) (.cells m.cells 23)
  have m1 := MBox.new w m
  generalize hA : w.alloc (.cells m.cells 23) = A at *
  have sA : A.heap.size = w.heap.size + 1 := by rw [← hA]; simp
  have b2 := (Below.refl A.heap.size A).alloc (Nat.le_refl _) (.cells #[.int .i64 x, .int .i64 y] 40)
  have p2 := PBox.new A x y
  generalize hB : A.alloc (.cells #[.int .i64 x, .int .i64 y] 40) = B at *
  have sB : B.heap.size = w.heap.size + 1 + 1 := by rw [← hB]; simp [sA]
  have b3 := (Below.refl B.heap.size B).alloc (Nat.le_refl _) (.cells #[.int .i64 0, .int .i64 0] 40)
  have p3 := PBox.new B 0 0
  rw [sA] at p2
  rw [sB] at p3
  exact ⟨(m1.next b2).next b3, p2.next b3, p3, (b1.trans (b2.mono b1.size)).trans (b3.mono (Nat.le_trans b1.size b2.size))⟩
end Go.Proofs.YtbjabclgekkpaaaGreatDoor
namespace Go.Proofs.YtbjabclgekkpaaaGreatDoor
open Go.RowKit Go.Shelf
/-- Has the point no error? Where it goes; its error's number. -/
def okP (m : Mtx) (p : Pt) : Prop := (applyS m p.1 p.2).2 = 0
instance (m : Mtx) (p : Pt) : Decidable (okP m p) := by unfold okP; infer_instance
def imgP (m : Mtx) (p : Pt) : Pt := (applyS m p.1 p.2).1
def errP (m : Mtx) (p : Pt) : Int := (applyS m p.1 p.2).2
/-- What All answers: the points, and 0, 1 or 2. -/
def allA (m : Mtx) (l : List Pt) : List Pt × Int :=
  if m.right then (match l.find? (fun p => !decide (okP m p)) with
    | none => (l.map (imgP m), 0)
    | some p => ([], errP m p)) else ([], 1)
theorem apply_is {m : Mtx} {p : Pt} (h : okP m p) : applyS m p.1 p.2 = (((imgP m p).1, (imgP m p).2), 0) := by
  unfold okP at h
  unfold imgP
  generalize applyS m p.1 p.2 = r at *
  obtain ⟨⟨a, b⟩, c⟩ := r
  simp only at h
  rw [h]
theorem all_wrong {m : Mtx} (h : ¬ m.right) (l : List Pt) : allA m l = ([], 1) := by unfold allA; rw [if_neg h]
theorem all_end {m : Mtx} (hm : m.right) {l : List Pt} (h : ∀ p ∈ l, okP m p) : allA m l = (l.map (imgP m), 0) := by
  unfold allA
  rw [if_pos hm]
  have e : l.find? (fun p => !decide (okP m p)) = none := by
    rw [List.find?_eq_none]; intro p hp; simp [h p hp]
  rw [e]
theorem all_stop {m : Mtx} (hm : m.right) {l : List Pt} {k : Nat} (hk : k < l.length) (h : ∀ p ∈ l.take k, okP m p) (hn : ¬ okP m (l.getD k (0, 0))) : allA m l = ([], errP m (l.getD k (0, 0))) := by
  unfold allA
  rw [if_pos hm]
  have eg : l.getD k (0, 0) = l[k] := by simp [List.getD, List.getElem?_eq_getElem hk]
  rw [eg] at hn ⊢
  have e : l.find? (fun p => !decide (okP m p)) = some l[k] := by
    have hs : l.take k ++ l[k] :: l.drop (k + 1) = l := by rw [← List.drop_eq_getElem_cons hk, List.take_append_drop]
    generalize l[k] = x at *
    calc l.find? (fun p => !decide (okP m p)) = (l.take k ++ x :: l.drop (k + 1)).find? (fun p => !decide (okP m p)) := by rw [hs]
      _ = some x := by
        rw [List.find?_append, List.find?_eq_none.2 (by intro p hp; simp [h p hp])]
        simp [hn]
  rw [e]
theorem all_zero (m : Mtx) (l : List Pt) (h : (allA m l).2 ≠ 0) : (allA m l).1 = [] := by
  unfold allA at *
  split at h
  · rename_i h1
    rw [if_pos h1]
    split at h
    · exact absurd rfl h
    · rfl
  · rename_i h1; rw [if_neg h1]
theorem take_ok {m : Mtx} {l : List Pt} {k : Nat} (hk : k < l.length) (h : ∀ p ∈ l.take k, okP m p) (hn : okP m (l.getD k (0, 0))) : ∀ p ∈ l.take (k + 1), okP m p := by
  have eg : l.getD k (0, 0) = l[k] := by simp [List.getD, List.getElem?_eq_getElem hk]
  rw [eg] at hn
  rw [List.take_succ_eq_append_getElem hk]
  intro p hp
  rcases List.mem_append.1 hp with hp | hp
  · exact h p hp
  · rw [List.mem_singleton.1 hp]; exact hn
/-- The row while it is filled. -/
def fillP (m : Mtx) (l : List Pt) (k : Nat) : List Pt := (l.take k).map (imgP m) ++ List.replicate (l.length - k) (0, 0)
theorem fillP_len (m : Mtx) (l : List Pt) (k : Nat) (h : k ≤ l.length) : (fillP m l k).length = l.length := by simp [fillP]; omega
theorem fillP_zero (m : Mtx) (l : List Pt) : fillP m l 0 = List.replicate l.length (0, 0) := by simp [fillP]
theorem fillP_end (m : Mtx) (l : List Pt) : fillP m l l.length = l.map (imgP m) := by simp [fillP]
theorem fillP_next (m : Mtx) (l : List Pt) (k : Nat) (h : k < l.length) : (fillP m l k).set k (imgP m (l.getD k (0, 0))) = fillP m l (k + 1) := by
  unfold fillP
  have eg : l.getD k (0, 0) = l[k] := by simp [List.getD, List.getElem?_eq_getElem h]
  rw [eg]
  obtain ⟨j, hj⟩ : ∃ j, l.length - k = j + 1 := ⟨l.length - k - 1, by omega⟩
  rw [hj, show l.length - (k + 1) = j from by omega, List.take_succ_eq_append_getElem h, List.map_append, List.replicate_succ]
  have hl : ((l.take k).map (imgP m)).length = k := by simp; omega
  rw [List.set_append_right _ _ (by omega), hl, Nat.sub_self]
  simp
theorem flat_zero (n : Nat) : flatP (List.replicate n (0, 0)) = List.replicate (n * 2) (.int .i64 0) := by
  induction n with
  | zero => rfl
  | succ n ih =>
    rw [List.replicate_succ, show (n + 1) * 2 = n * 2 + 1 + 1 from by omega, List.replicate_succ, List.replicate_succ]
    simp only [flatP]
    rw [ih]; rfl
theorem made_pts (n : Nat) : (madeCells (Value.cells (.agg #[.int .i64 0, .int .i64 0])) (n * 2)).toList = flatP (List.replicate n (0, 0)) := by
  rw [flat_zero]
  apply List.ext_getElem?
  intro j
  by_cases hj : j < n * 2
  · have h2 : j % 2 = 0 ∨ j % 2 = 1 := by omega
    rcases h2 with h2 | h2 <;> simp [madeCells, Value.cells, hj, h2]
  · simp [madeCells, Value.cells, hj]
theorem make_pts {ops : Array Oper} {rest : List Oper} {o : Oper} {a : Act} {Q : Exit → Act → World → Prop} (w : World) (hg : o.guard = none) (l c : Operand) (hop : o.op = Op.makeSlice 47 l c)
    (n : Nat) (L : Int) (hl : a.eval l = .int .i64 L) (hc : a.eval c = .int .i64 L) (hL : L = (n : Int)) (hn : n ≤ 1000000000)
    (hK : ∀ w', Pts w.heap.size (.slice (some ⟨w.heap.size, 0, none⟩) n n) (List.replicate n (0, 0)) w' → Below w.heap.size w w' → w.heap.size < w'.heap.size → wpList Tryz.prog ops Q rest (a.put o.dst (.slice (some ⟨w.heap.size, 0, none⟩) n n)) w') :
    wpList Tryz.prog ops Q (o :: rest) a w := by
  obtain ⟨i0, hi, hz0, hz1, hz2⟩ := info_parts info_pt
  refine wpList_make_full w hg l c 47 hop w.heap.size 40 i0 (.agg #[.int .i64 0, .int .i64 0]) 2 Tryz.underlying47 hi hz0 hz1 .i64 .i64 L L n hl hc hL hL (by rw [hz2]; omega) (by unfold maxLen; omega) (Nat.le_refl _) ?_
  intro w' hown hgr
  have hown' : Pts w.heap.size (.slice (some ⟨w.heap.size, 0, none⟩) n n) (List.replicate n (0, 0)) w' := by
    unfold Pts; rw [← made_pts, List.length_replicate]; exact hown
  exact hK w' hown' ((Below.refl _ _).grown hgr (Nat.le_refl _) (fun k hk => by cases hk)) (own_type8 hown' _ rfl).1
/-- One point is stored into a made row. -/
theorem pts_set {w : World} {B g n : Nat} {l : List Pt} (h : Pts B (.slice (some ⟨g, 0, none⟩) n n) l w) (hl : l.length = n) (k : Nat) (hk : k < n) (p : Pt) :
    Pts B (.slice (some ⟨g, 0, none⟩) n n) (l.set k p) ((w.setCell ⟨g, k * 2, none⟩ (.int .i64 p.1)).setCell ⟨g, k * 2 + 1, none⟩ (.int .i64 p.2)) := by
  subst hl
  unfold Pts at *
  have h1 := (h.stored (k * 2) (.int .i64 p.1)).1
  have h2 := (h1.stored (k * 2 + 1) (.int .i64 p.2)).1
  rw [flatP_set l k p hk] at h2
  rw [List.length_set]
  exact h2
theorem pts_cells {w : World} {B g n : Nat} {l : List Pt} (h : Pts B (.slice (some ⟨g, 0, none⟩) n n) l w) (hl : l.length = n) (k : Nat) (hk : k < n) :
    (∃ x : Int, w.cell? ⟨g, k * 2, none⟩ = some (.int .i64 x)) ∧ (∃ x : Int, w.cell? ⟨g, k * 2 + 1, none⟩ = some (.int .i64 x)) ∧ w.frozen? ⟨g, k * 2, none⟩ = false ∧ w.frozen? ⟨g, k * 2 + 1, none⟩ = false := by
  subst hl
  obtain ⟨e0, e1⟩ := flatP_at l k (l.getD k (0, 0)) (by simp [List.getD, List.getElem?_eq_getElem hk])
  have c0 := own_cell8 h e0
  have c1 := own_cell8 h e1
  rw [Nat.zero_add] at c0 c1
  exact ⟨⟨_, c0⟩, ⟨_, c1⟩, h.frozenAt _, h.frozenAt _⟩
theorem Pts.set {R q : Nat} {u : Value} {l : List Pt} {w : World} (hr : Pts R u l w) (hn : q < R) (o : Nat) (v : Value) : Pts R u l (w.setCell ⟨q, o, none⟩ v) :=
  own_stay8 hr fun k hk => Below.heap_setCell _ _ _ _ (by have := (own_type8 hr k hk).2.1; exact Nat.ne_of_gt (Nat.lt_of_lt_of_le hn this))
end Go.Proofs.YtbjabclgekkpaaaGreatDoor
namespace Go.Proofs.YtbjabclgekkpaaaGreatDoor
open Go.RowKit Go.Shelf
/-- What All answers, as it lies in memory. -/
def AllP (m : Mtx) (l : List Pt) (w : World) (e : Ending) (w' : World) : Prop :=
  ∃ v, e = .returned (.tuple #[v, .int .i64 (allA m l).2]) ∧ Pts w.heap.size v (allA m l).1 w' ∧ Below w.heap.size w w'
end Go.Proofs.YtbjabclgekkpaaaGreatDoor
namespace Go.Proofs.YtbjabclgekkpaaaGreatDoor
open Go.RowKit Go.Shelf
/-- Blocks lo to hi (hi not among them) are as they were. -/
structure Mid (lo hi : Nat) (W W' : World) : Prop where
  size : W.heap.size ≤ W'.heap.size
  block : ∀ b, lo ≤ b → b < hi → W'.heap[b]? = W.heap[b]?
/-- Below R nothing has turned but block B. -/
structure But (R B : Nat) (W W' : World) : Prop where
  os : W'.os = W.os
  tape : W'.tape = W.tape
  output : W'.output = W.output
  size : W.heap.size ≤ W'.heap.size
  block : ∀ q, q < R → q ≠ B → W'.heap[q]? = W.heap[q]?
theorem But.below {R B n : Nat} {W W' : World} (h : But R B W W') (h1 : n ≤ R) (h2 : n ≤ B) : Below n W W' := ⟨h.os, h.tape, h.output, h.size, fun k hk => h.block k (by omega) (by omega)⟩
/-- A slice that owns its row is a slice. -/
theorem own_shape {W : World} {base : Nat} {e : TypeId} {size : Nat} {v : Value} {k : Nat} {xs : List Value} (h : W.ownsRow base e size v k xs) : ∃ a cap, v = .slice a k cap := by
  rcases h.2 with ⟨rfl, rfl⟩ | ⟨g, cap, cur, rfl, _⟩
  · exact ⟨_, _, rfl⟩
  · exact ⟨_, _, rfl⟩
theorem own_lower {W : World} {base base' : Nat} {e : TypeId} {size : Nat} {v : Value} {k : Nat} {xs : List Value} (h : W.ownsRow base e size v k xs) (hb : base' ≤ base) : W.ownsRow base' e size v k xs := by
  refine ⟨h.1, ?_⟩
  rcases h.2 with h | ⟨g, cap, cur, h1, h2, h3⟩
  · exact .inl h
  · exact .inr ⟨g, cap, cur, h1, Nat.le_trans hb h2, h3⟩
end Go.Proofs.YtbjabclgekkpaaaGreatDoor
namespace Go.Proofs.YtbjabclgekkpaaaGreatDoor
open Go.RowKit
/-- The statement's opening: its record and the block for deferred calls are laid, the iterator is entered. -/
theorem wpIn_range_open {P : Program} {F : Fence} {n : Nat} {g : Operand} {ps : Array Tmp} {assign body : Code} {Q : Exit → Act → World → Prop} {a : Act} {w : World}
    (hro : F.round = none) (h1 : 1 ≤ n) {gf : Nat} {lb : Array Value} (hg : a.eval g = .func (.func gf) #[] lb) (hFg : F.fn gf) (eg : ∀ args w, (callFunc gf args).run P w = .ok (.enter gf args) w)
    (h : ∀ fn, F.fn fn → ∀ W1, (w.alloc (.deferred (some []))).alloc (.loop { state := .ready, pending := none, fn := fn, tmps := a.tmps, params := ps, assign, body, defers := w.heap.size }) = W1 →
      CallsIn F (n - 1) P gf (#[.func (.yield (w.heap.size + 1)) #[] #[]] ++ lb) W1 (rangePost F n P (w.heap.size + 1) Q { tmps := a.tmps, defers := [{ target := .collected w.heap.size, args := #[] }] ++ a.defers })) :
    (Code.rangeFunc g ps assign body).wpIn F n P Q a w := by
  refine wpIn_rangeFunc fun fn hfn => ?_
  rw [hro]
  obtain ⟨W1, hW1⟩ : ∃ W1, (w.alloc (.deferred (some []))).alloc (.loop { state := .ready, pending := none, fn := fn, tmps := a.tmps, params := ps, assign, body, defers := w.heap.size }) = W1 := ⟨_, rfl⟩
  refine ⟨w.heap.size + 1, [{ target := .collected w.heap.size, args := #[] }], W1, { target := .fn (.func gf) lb, args := #[.func (.yield (w.heap.size + 1)) #[] #[]] }, W1, gf,
    #[.func (.yield (w.heap.size + 1)) #[] #[]] ++ lb, W1, ?_, ?_, ?_, ?_, fun _ => h1, ?_⟩
  · rw [← hW1]; exact run_enterLoop_outer _ _ _ _ _
  · simp only [resolve, hg]
    simp [go_sem]
  · intro f' hf'
    simp [Target.leads] at hf'
    subst hf'
    exact hFg
  · simp [invoke, go_sem, eg]
  · exact h fn hfn _ hW1
end Go.Proofs.YtbjabclgekkpaaaGreatDoor
namespace Go.Proofs.YtbjabclgekkpaaaGreatDoor
open Go.RowKit Go.Shelf
/-- What an invariant of the loop abides: new memory; and that a variable of the iterator's own (a box of a type among T, from block D on) is written. -/
structure AbideT {β : Type} (T : TypeId → Prop) (D : Nat) (J : List β → World → Prop) : Prop where
  new : ∀ pre W W', J pre W → Below W.heap.size W W' → J pre W'
  priv : ∀ pre W W' b t cs z, J pre W → D ≤ b → T t → W.heap[b]? = some (.cells cs t z) → But W.heap.size b W W' → J pre W'
theorem AbideT.later {β : Type} {T : TypeId → Prop} {D D' : Nat} {J : List β → World → Prop} (h : AbideT T D J) (hd : D ≤ D') : AbideT T D' J :=
  ⟨h.new, fun pre W W' b t cs z hj hb => h.priv pre W W' b t cs z hj (Nat.le_trans hd hb)⟩
theorem noncells_below {W W' : World} {k : Nat} {o : Obj} (h : W.heap[k]? = some o) (hb : Below W.heap.size W W') : W'.heap[k]? = some o :=
  (hb.block k (Array.getElem?_eq_some_iff.1 h).1).trans h
theorem noncells_but {W W' : World} {k b : Nat} {o : Obj} {cs : Array Value} {t : TypeId} {z : Nat × Nat} (h : W.heap[k]? = some o) (ho : o.isCells = false) (hc : W.heap[b]? = some (.cells cs t z)) (hb : But W.heap.size b W W') : W'.heap[k]? = some o := by
  refine (hb.block k (Array.getElem?_eq_some_iff.1 h).1 ?_).trans h
  rintro rfl
  rw [hc] at h
  cases h
  cases ho
theorem AbideT.beside {β : Type} {T : TypeId → Prop} {D k k' : Nat} {o o' : Obj} {J : List β → World → Prop} (h : AbideT T D J) (ho : o.isCells = false) (ho' : o'.isCells = false) :
    AbideT T D (fun pre W => J pre W ∧ W.heap[k]? = some o ∧ W.heap[k']? = some o') :=
  ⟨fun pre W W' hj hb => ⟨h.new pre W W' hj.1 hb, noncells_below hj.2.1 hb, noncells_below hj.2.2 hb⟩,
   fun pre W W' b t cs z hj hd ht hc hb => ⟨h.priv pre W W' b t cs z hj.1 hd ht hc hb, noncells_but hj.2.1 ho hc hb, noncells_but hj.2.2 ho' hc hb⟩⟩
/-- What a round keeps: the iterator's captured variables (blocks a to b), and its own (boxes of types among T, from block D on). -/
structure KeepsT (T : TypeId → Prop) (a b D : Nat) (A B : World) : Prop where
  mid : Mid a b A B
  priv : ∀ c t cs z, D ≤ c → T t → A.heap[c]? = some (.cells cs t z) → B.heap[c]? = some (.cells cs t z)
end Go.Proofs.YtbjabclgekkpaaaGreatDoor
namespace Go.Proofs.YtbjabclgekkpaaaGreatDoor
open Go.RowKit Go.Shelf
/-- Things of sz cells each, in memory: their type, and how they are laid. -/
structure Lay8 (α : Type) where
  e : TypeId
  sz : Nat
  cl : α → List Value
  len : ∀ x, (cl x).length = sz
  pos : 0 < sz
  one : ∀ x, ∀ u ∈ cl x, u.oneCell' = true
def Lay8.flat {α : Type} (L : Lay8 α) : List α → List Value
  | [] => []
  | g :: t => L.cl g ++ L.flat t
section
variable {α : Type} (L : Lay8 α)
theorem Lay8.flat_append (a b : List α) : L.flat (a ++ b) = L.flat a ++ L.flat b := by
  induction a with
  | nil => rfl
  | cons g t ih => simp only [List.cons_append, Lay8.flat]; rw [ih, List.append_assoc]
theorem Lay8.flat_snoc (a : List α) (g : α) : L.flat (a ++ [g]) = L.flat a ++ L.cl g := by rw [L.flat_append]; simp [Lay8.flat]
theorem Lay8.flat_len (a : List α) : (L.flat a).length = a.length * L.sz := by
  induction a with
  | nil => simp [Lay8.flat]
  | cons g t ih => simp only [Lay8.flat, List.length_append, List.length_cons]; rw [ih, L.len, Nat.add_mul]; omega
theorem Lay8.flat_one (l : List α) : ∀ u ∈ L.flat l, u.oneCell' = true := by
  induction l with
  | nil => intro u h; cases h
  | cons g t ih =>
    intro u hu
    simp only [Lay8.flat, List.mem_append] at hu
    rcases hu with hu | hu
    · exact L.one _ _ hu
    · exact ih u hu
theorem Lay8.flat_at (l : List α) : ∀ (i : Nat) (g : α) (j : Nat) (u : Value), l[i]? = some g → (L.cl g)[j]? = some u → (L.flat l)[i * L.sz + j]? = some u := by
  induction l with
  | nil => intro i g j u h; simp at h
  | cons x t ih =>
    intro i g j u h hj
    have hx := L.len x
    have hlt : j < L.sz := by have := (List.getElem?_eq_some_iff.1 hj).1; rwa [L.len] at this
    cases i with
    | zero =>
      obtain rfl : x = g := by simpa using h
      simp only [Lay8.flat, Nat.zero_mul, Nat.zero_add]
      rw [List.getElem?_append_left (by rw [hx]; exact hlt)]
      exact hj
    | succ i =>
      have := ih i g j u (by simpa using h) hj
      simp only [Lay8.flat]
      rw [Nat.add_mul, List.getElem?_append_right (by rw [hx]; omega), hx, show i * L.sz + 1 * L.sz + j - L.sz = i * L.sz + j from by omega]
      exact this
/-- A row of the call's own. -/
def Lay8.own (R : Nat) (v : Value) (l : List α) (w : World) : Prop := w.ownsRow R L.e L.sz v l.length (L.flat l)
/-- A row that is read. -/
def Lay8.rd (a : Option Addr) (l : List α) (w : World) : Prop := l = [] ∨ ∃ b off, a = some ⟨b, off, none⟩ ∧ b < w.heap.size ∧ ∀ j u, (L.flat l)[j]? = some u → w.cell? ⟨b, off + j, none⟩ = some u
variable {L}
theorem Lay8.own_nil (R : Nat) (w : World) : L.own R (.slice none 0 0) [] w := World.ownsRow_nil _ _ _ _
theorem Lay8.own.type {W : World} {R : Nat} {v : Value} {l : List α} (h : L.own R v l W) : ∀ q, v.ownBlock = some q → q < W.heap.size ∧ R ≤ q ∧ ∃ cur, W.heap[q]? = some (.cells cur L.e (0, 0)) := by
  intro q hq
  rcases h.2 with ⟨rfl, _⟩ | ⟨g, cap, cur, rfl, hb, hg, _⟩
  · simp [Value.ownBlock] at hq
  · obtain rfl : g = q := by simpa [Value.ownBlock] using hq
    exact ⟨(Array.getElem?_eq_some_iff.1 hg).1, hb, cur, hg⟩
theorem Lay8.own.stay {W W' : World} {R : Nat} {v : Value} {l : List α} (h : L.own R v l W) (hb : ∀ q, v.ownBlock = some q → W'.heap[q]? = W.heap[q]?) : L.own R v l W' := by
  refine ⟨h.1, ?_⟩
  rcases h.2 with h | ⟨g, cap, cur, rfl, hR, hg, h1, h2, h3, h4⟩
  · exact .inl h
  · exact .inr ⟨g, cap, cur, rfl, hR, (hb g rfl).trans hg, h1, h2, h3, h4⟩
theorem Lay8.own.next {W W' : World} {R : Nat} {v : Value} {l : List α} (h : L.own R v l W) (t : Below W.heap.size W W') : L.own R v l W' :=
  h.stay fun q hq => t.block q (h.type q hq).1
theorem Lay8.own.low {R R' : Nat} {v : Value} {l : List α} {W : World} (h : L.own R v l W) (hR : R' ≤ R) : L.own R' v l W := by
  refine ⟨h.1, ?_⟩
  rcases h.2 with h | ⟨g, cap, cur, h1, h2, h3⟩
  · exact .inl h
  · exact .inr ⟨g, cap, cur, h1, by omega, h3⟩
theorem Lay8.own.free {W W' : World} {R : Nat} {v : Value} {l : List α} {row : Option Nat} (h : L.own R v l W) (hg : W.grownBy W' row)
    (hr : ∀ r, row = some r → ∃ o : Obj, W.heap[r]? = some o ∧ o.isCells = false) : L.own R v l W' :=
  h.stay fun q hq => by
    obtain ⟨hlt, _, cur, hc⟩ := h.type q hq
    refine hg.block q hlt fun e => ?_
    obtain ⟨o, ho, hn⟩ := hr q e.symm
    rw [hc] at ho
    cases ho
    cases hn
theorem Lay8.own.but {W W' : World} {R b : Nat} {t : TypeId} {v : Value} {l : List α} {cs : Array Value} {z : Nat × Nat} (h : L.own R v l W) (hb : W.heap[b]? = some (.cells cs t z)) (ht : t ≠ L.e) (B : But W.heap.size b W W') : L.own R v l W' :=
  h.stay fun q hq => by
    obtain ⟨hlt, _, cur, hc⟩ := h.type q hq
    refine B.block q hlt fun e => ?_
    subst e
    rw [hb] at hc
    injection hc with hc
    injection hc with _ hc _
    exact ht hc
theorem Lay8.own.shape {R : Nat} {v : Value} {l : List α} {W : World} (h : L.own R v l W) : ∃ a cap, v = .slice a l.length cap ∧ l.length ≤ cap := by
  rcases h.2 with ⟨rfl, h2⟩ | ⟨g, c, cur, rfl, _, _, h1, _⟩
  · exact ⟨none, 0, by rw [h2], by omega⟩
  · exact ⟨_, _, rfl, h1⟩
theorem Lay8.own.cell {R b k cap : Nat} {l : List α} {W : World} (h : L.own R (.slice (some ⟨b, 0, none⟩) k cap) l W) {j : Nat} {u : Value} (hj : (L.flat l)[j]? = some u) : W.cell? ⟨b, j, none⟩ = some u := by
  rcases h.2 with ⟨h0, _⟩ | ⟨g, cap', cur, hv, hR, hg, h1, h2, h3, h4⟩
  · cases h0
  · cases hv
    unfold World.cell?
    rw [hg]
    show cur[j]? = some u
    rw [← h4] at hj
    have := (List.getElem?_eq_some_iff.1 hj).1
    rw [List.length_take] at this
    rw [List.getElem?_take, if_pos (by omega)] at hj
    simpa using hj
theorem Lay8.own.rd {R k cap : Nat} {a : Option Addr} {l : List α} {W : World} (h : L.own R (.slice a k cap) l W) : L.rd a l W := by
  have hc := fun b (e : a = some ⟨b, 0, none⟩) j u hj => (show L.own R (.slice (some ⟨b, 0, none⟩) k cap) l W from e ▸ h).cell (j := j) (u := u) hj
  rcases h.2 with ⟨_, h2⟩ | ⟨g, c, cur, h1, _, hg, _⟩
  · exact .inl (List.length_eq_zero_iff.1 h2)
  · injection h1 with h1
    exact .inr ⟨g, 0, h1, (Array.getElem?_eq_some_iff.1 hg).1, fun j u hj => by rw [Nat.zero_add]; exact hc g h1 j u hj⟩
theorem Lay8.rd.next {a : Option Addr} {l : List α} {w w' : World} (h : L.rd a l w) (t : Below w.heap.size w w') : L.rd a l w' := by
  rcases h with h | ⟨b, off, h1, h2, h3⟩
  · exact .inl h
  · exact .inr ⟨b, off, h1, Nat.lt_of_lt_of_le h2 t.size, fun j u hj => (t.cell (p := ⟨b, off + j, none⟩) (by exact h2)).trans (h3 j u hj)⟩
theorem Lay8.rd.pos {a : Option Addr} {l : List α} {w : World} (h : L.rd a l w) {i : Nat} (hi : i < l.length) : ∃ b off, a = some ⟨b, off, none⟩ ∧ b < w.heap.size ∧ ∀ j u, (L.flat l)[j]? = some u → w.cell? ⟨b, off + j, none⟩ = some u := by
  rcases h with rfl | h
  · simp at hi
  · exact h
variable (L)
variable {P : Program} {i0 : TypeInfo} {z : Value} {bytes : Nat} {st : TypeId}
/-- One thing more, in a plain region of a fenced walk; and of a plain one. -/
theorem Lay8.one_in {F : Fence} {N : Nat} {ops : Array Oper} {rest : List Oper} {o : Oper} {a : Act} {Q : Exit → Act → World → Prop} (w : World) (hst : P.underlying st = some (.slice L.e)) (hi : P.info? L.e = some i0) (hz0 : i0.zero = some z) (hz1 : i0.size = L.sz) (hz2 : i0.bytes = bytes) (hzs : z.cells.size = L.sz) (hby : bytes ≤ 128)
    (hgd : o.guard = none) (s x : Operand) (ho : o.op = .call { callee := .builtin .append, args := #[s, x], argTypes := #[st, st] }) {B n : Nat} {v : Value} {l : List α} (hn : w.heap.size = n) (g : α) (hown : L.own B v l w) (hs : a.eval s = v)
    (hx : a.eval x = .slice (some ⟨n, 0, none⟩) 1 1) (hk : l.length ≤ 100000000) (hB : B ≤ w.heap.size)
    (h : ∀ v' w', L.own B v' (l ++ [g]) w' → w.grownBy w' v.ownBlock → wpListIn F N P ops Q rest (a.put o.dst v') w') :
    wpListIn F N P ops Q (o :: rest) a (w.alloc (.cells (L.cl g).toArray L.e)) := by
  subst hn
  have hal : Below w.heap.size w (w.alloc (.cells (L.cl g).toArray L.e)) := (Below.refl w.heap.size w).alloc (Nat.le_refl _) _
  refine wpListIn_append_own _ hgd s x st ho B L.e i0 _ L.sz bytes hst hi hz0 hz1 hz2 hzs L.pos v l.length (L.flat l) hs (hown.next hal) ⟨w.heap.size, 0, none⟩ 1 1 (L.cl g) hx (by rw [L.len, Nat.one_mul]) (World.news_of_block (World.alloc_heap_new w _)) (L.one g) (by unfold maxLen; omega) ?_ (by simp; omega) ?_
  · have := Nat.mul_le_mul (show l.length + 1 ≤ 100000001 from by omega) hby
    omega
  · intro v' w' hown' hg _
    refine h v' w' (by unfold Lay8.own; rw [L.flat_snoc, List.length_append]; exact hown') ?_
    exact ⟨hg.os, hg.tape, hg.output, Nat.le_trans (by simp) hg.size, fun k hk hne => (hg.block k (by simp; omega) hne).trans (Below.heap_alloc _ _ _ hk)⟩
theorem Lay8.one_pl {ops : Array Oper} {rest : List Oper} {o : Oper} {a : Act} {Q : Exit → Act → World → Prop} (w : World) (hst : P.underlying st = some (.slice L.e)) (hi : P.info? L.e = some i0) (hz0 : i0.zero = some z) (hz1 : i0.size = L.sz) (hz2 : i0.bytes = bytes) (hzs : z.cells.size = L.sz) (hby : bytes ≤ 128)
    (hgd : o.guard = none) (s x : Operand) (ho : o.op = .call { callee := .builtin .append, args := #[s, x], argTypes := #[st, st] }) {B n : Nat} {v : Value} {l : List α} (hn : w.heap.size = n) (g : α) (hown : L.own B v l w) (hs : a.eval s = v)
    (hx : a.eval x = .slice (some ⟨n, 0, none⟩) 1 1) (hk : l.length ≤ 100000000) (hB : B ≤ w.heap.size)
    (h : ∀ v' w', L.own B v' (l ++ [g]) w' → w.grownBy w' v.ownBlock → wpList P ops Q rest (a.put o.dst v') w') :
    wpList P ops Q (o :: rest) a (w.alloc (.cells (L.cl g).toArray L.e)) := by
  subst hn
  have hal : Below w.heap.size w (w.alloc (.cells (L.cl g).toArray L.e)) := (Below.refl w.heap.size w).alloc (Nat.le_refl _) _
  refine wpList_append_own _ hgd s x st ho B L.e i0 _ L.sz bytes hst hi hz0 hz1 hz2 hzs L.pos v l.length (L.flat l) hs (hown.next hal) ⟨w.heap.size, 0, none⟩ 1 1 (L.cl g) hx (by rw [L.len, Nat.one_mul]) (World.news_of_block (World.alloc_heap_new w _)) (L.one g) (by unfold maxLen; omega) ?_ (by simp; omega) ?_
  · have := Nat.mul_le_mul (show l.length + 1 ≤ 100000001 from by omega) hby
    omega
  · intro v' w' hown' hg _
    refine h v' w' (by unfold Lay8.own; rw [L.flat_snoc, List.length_append]; exact hown') ?_
    exact ⟨hg.os, hg.tape, hg.output, Nat.le_trans (by simp) hg.size, fun k hk hne => (hg.block k (by simp; omega) hne).trans (Below.heap_alloc _ _ _ hk)⟩
/-- A new box of one thing, as a row. -/
theorem Lay8.own_one (w : World) (g : α) {B : Nat} (hB : B ≤ w.heap.size) : L.own B (.slice (some ⟨w.heap.size, 0, none⟩) 1 1) [g] (w.alloc (.cells (L.cl g).toArray L.e)) :=
  ⟨by have := L.flat_len [g]; simpa using this, Or.inr ⟨w.heap.size, 1, (L.cl g).toArray, rfl, hB, World.alloc_heap_new w _, Nat.le_refl _, by decide, by have := L.len g; simpa using this, by have := L.len g; simp [Lay8.flat]; rw [← this]; exact List.take_length⟩⟩
end
end Go.Proofs.YtbjabclgekkpaaaGreatDoor
namespace Go.Proofs.YtbjabclgekkpaaaGreatDoor
/-- The middle of two numbers. -/
def mid (a b : Int) : Int := near (a + b) 2
/-- The number at t / 2^16 between two. -/
def betw (a b t : Int) : Int := a + near ((b - a) * t) 65536
/-- A curve. -/
structure Crv where
  px : Int
  py : Int
  qx : Int
  qy : Int
  rx : Int
  ry : Int
  sx : Int
  sy : Int
/-- A number of a curve that is right. -/
def In40 (z : Int) : Prop := -1099511627776 ≤ z ∧ z ≤ 1099511627776
instance (z : Int) : Decidable (In40 z) := by unfold In40; exact inferInstance
/-- A curve that is right. -/
def Crv.right (c : Crv) : Prop := (In40 c.px ∧ In40 c.py) ∧ (In40 c.qx ∧ In40 c.qy) ∧ (In40 c.rx ∧ In40 c.ry) ∧ (In40 c.sx ∧ In40 c.sy)
instance (c : Crv) : Decidable c.right := by unfold Crv.right; exact inferInstance
/-- Three numbers that lie nearly on a line. -/
def bentF (a b c : Int) : Prop := a - 2 * b + c ≤ 512 ∧ -512 ≤ a - 2 * b + c
instance (a b c : Int) : Decidable (bentF a b c) := by unfold bentF; exact inferInstance
/-- A curve that is flat. -/
def Crv.flat (c : Crv) : Prop := bentF c.px c.qx c.rx ∧ bentF c.py c.qy c.ry ∧ bentF c.qx c.rx c.sx ∧ bentF c.qy c.ry c.sy
instance (c : Crv) : Decidable c.flat := by unfold Crv.flat; exact inferInstance
/-- What a row of four numbers is cut at: the middles of the middles. -/
def m3 (a b c : Int) : Int := mid (mid a b) (mid b c)
def m4 (a b c d : Int) : Int := mid (m3 a b c) (m3 b c d)
def b3 (a b c t : Int) : Int := betw (betw a b t) (betw b c t) t
def b4 (a b c d t : Int) : Int := betw (b3 a b c t) (b3 b c d t) t
end Go.Proofs.YtbjabclgekkpaaaGreatDoor
namespace Go.Proofs.YtbjabclgekkpaaaGreatDoor
open Go.RowKit Go.Shelf
/-- A box with these cells. -/
def CBox (n : Nat) (t : TypeId) (cs : Array Value) (w : World) : Prop := w.heap[n]? = some (.cells cs t)
theorem CBox.new (w : World) (t : TypeId) (cs : Array Value) : CBox w.heap.size t cs (w.alloc (.cells cs t)) := World.alloc_heap_new w _
theorem CBox.c {n : Nat} {t : TypeId} {cs : Array Value} {w : World} (h : CBox n t cs w) (i : Nat) {v : Value} (hi : cs[i]? = some v) : w.cell? ⟨n, i, none⟩ = some v := by
  unfold CBox at h; simp [World.cell?, h, hi]
theorem CBox.z {n : Nat} {t : TypeId} {cs : Array Value} {w : World} (h : CBox n t cs w) (o : Nat) : w.frozen? ⟨n, o, none⟩ = false := by unfold CBox at h; simp [World.frozen?, h]
theorem CBox.lt {n : Nat} {t : TypeId} {cs : Array Value} {w : World} (h : CBox n t cs w) : n < w.heap.size := (Array.getElem?_eq_some_iff.1 h).1
theorem CBox.next {n : Nat} {t : TypeId} {cs : Array Value} {w w' : World} (h : CBox n t cs w) (b : Below w.heap.size w w') : CBox n t cs w' := by
  have := h.lt
  unfold CBox at *; rw [b.block n this]; exact h
theorem CBox.set {n : Nat} {t : TypeId} {cs : Array Value} {w : World} (h : CBox n t cs w) (o : Nat) (v : Value) (ho : o < cs.size) : CBox n t (cs.set o v ho) (w.setCell ⟨n, o, none⟩ v) := by
  unfold CBox at *
  simp only [World.setCell, Array.getElem?_modify, h]
  simp [Array.setIfInBounds, ho]
theorem CBox.other {n q : Nat} {t : TypeId} {cs : Array Value} {W : World} (h : CBox n t cs W) (hn : n ≠ q) (o : Nat) (v : Value) : CBox n t cs (W.setCell ⟨q, o, none⟩ v) := by
  unfold CBox at *; rw [Below.heap_setCell _ _ _ _ (by exact hn)]; exact h
theorem CBox.drew {n : Nat} {t : TypeId} {cs : Array Value} {w : World} (h : CBox n t cs w) : CBox n t cs w.drew := h
theorem boxes_two (w : World) (a b : Array Value) (s t : TypeId) : CBox w.heap.size s a ((w.alloc (.cells a s)).alloc (.cells b t)) ∧ CBox (w.heap.size + 1) t b ((w.alloc (.cells a s)).alloc (.cells b t)) ∧ Below w.heap.size w ((w.alloc (.cells a s)).alloc (.cells b t)) := by
  have b1 := (Below.refl w.heap.size w).alloc (Nat.le_refl _) (.cells a s)
  have p1 := CBox.new w s a
  generalize hA : w.alloc (.cells a s) = A at *
  have sA : A.heap.size = w.heap.size + 1 := by rw [← hA]; simp
  have b2 := (Below.refl A.heap.size A).alloc (Nat.le_refl _) (.cells b t)
  have p2 := CBox.new A t b
  rw [sA] at p2
  exact ⟨p1.next b2, p2, b1.trans (b2.mono b1.size)⟩
theorem boxes_three (w : World) (a b c : Array Value) (s t u : TypeId) : CBox w.heap.size s a (((w.alloc (.cells a s)).alloc (.cells b t)).alloc (.cells c u)) ∧ CBox (w.heap.size + 1) t b (((w.alloc (.cells a s)).alloc (.cells b t)).alloc (.cells c u)) ∧
    CBox (w.heap.size + 1 + 1) u c (((w.alloc (.cells a s)).alloc (.cells b t)).alloc (.cells c u)) ∧ Below w.heap.size w (((w.alloc (.cells a s)).alloc (.cells b t)).alloc (.cells c u)) := by
  obtain ⟨p1, p2, b1⟩ := boxes_two w a b s t
  generalize hA : (w.alloc (.cells a s)).alloc (.cells b t) = A at *
  have sA : A.heap.size = w.heap.size + 1 + 1 := by rw [← hA]; simp
  have b2 := (Below.refl A.heap.size A).alloc (Nat.le_refl _) (.cells c u)
  have p3 := CBox.new A u c
  rw [sA] at p3
  exact ⟨p1.next b2, p2.next b2, p3, b1.trans (b2.mono b1.size)⟩
end Go.Proofs.YtbjabclgekkpaaaGreatDoor
namespace Go.Proofs.YtbjabclgekkpaaaGreatDoor
open Go.RowKit Go.Shelf
theorem CBox.free {W W' : World} {n : Nat} {t : TypeId} {cs : Array Value} {row : Option Nat} (h : CBox n t cs W) (hg : W.grownBy W' row)
    (hr : ∀ r, row = some r → ∃ o : Obj, W.heap[r]? = some o ∧ o.isCells = false) : CBox n t cs W' := by
  have hl := h.lt
  unfold CBox at *
  refine (hg.block n hl fun e => ?_).trans h
  obtain ⟨o, ho, hn⟩ := hr n e.symm
  rw [h] at ho
  cases ho
  cases hn
theorem CBox.but {W W' : World} {n b : Nat} {t : TypeId} {cs : Array Value} (h : CBox n t cs W) (hn : n ≠ b) (B : But W.heap.size b W W') : CBox n t cs W' := by
  have hl := h.lt
  unfold CBox at *
  exact (B.block n hl hn).trans h
theorem CBox.grown {W W' : World} {n : Nat} {t : TypeId} {cs : Array Value} {row : Option Nat} (h : CBox n t cs W) (hg : W.grownBy W' row) (hn : some n ≠ row) : CBox n t cs W' := by
  have hl := h.lt
  unfold CBox at *
  exact (hg.block n hl hn).trans h
end Go.Proofs.YtbjabclgekkpaaaGreatDoor
namespace Go.Proofs.YtbjabclgekkpaaaGreatDoor
open Go.RowKit Go.Shelf
/-- An edge, from one point to another one. -/
structure Edg where
  px : Int
  py : Int
  qx : Int
  qy : Int
deriving DecidableEq
def Edg.lst (g : Edg) : List Value := [.int .i64 g.px, .int .i64 g.py, .int .i64 g.qx, .int .i64 g.qy]
def edgL : Lay8 Edg := { e := 42, sz := 4, cl := Edg.lst, len := fun _ => rfl, pos := by decide, one := fun x u hu => by simp [Edg.lst] at hu; rcases hu with rfl | rfl | rfl | rfl <;> rfl }
/-- A row of edges of the call's own; one that is read. -/
def Edgs (R : Nat) (v : Value) (l : List Edg) (w : World) : Prop := edgL.own R v l w
def RdE (a : Option Addr) (l : List Edg) (w : World) : Prop := edgL.rd a l w
theorem info_edg : (Tryz.prog.info? 42).map (fun i => (i.zero, i.size, i.bytes)) = some (some (.agg #[.int .i64 0, .int .i64 0, .int .i64 0, .int .i64 0]), 4, 32) := by kernel_rfl
theorem RdE.at {a : Option Addr} {l : List Edg} {w : World} (h : RdE a l w) {i : Nat} {g : Edg} (hi : l[i]? = some g) :
    ∃ b off, a = some ⟨b, off, none⟩ ∧ b < w.heap.size ∧ w.cell? ⟨b, off + i * 4, none⟩ = some (.int .i64 g.px) ∧ w.cell? ⟨b, off + i * 4 + 1, none⟩ = some (.int .i64 g.py) ∧ w.cell? ⟨b, off + i * 4 + 2, none⟩ = some (.int .i64 g.qx) ∧ w.cell? ⟨b, off + i * 4 + 3, none⟩ = some (.int .i64 g.qy) := by
  obtain ⟨b, off, h1, h2, h3⟩ := Lay8.rd.pos h (List.getElem?_eq_some_iff.1 hi).1
  have k := fun j u (hj : (edgL.cl g)[j]? = some u) => h3 _ _ (edgL.flat_at l i g j u hi hj)
  refine ⟨b, off, h1, h2, k 0 _ rfl, ?_, ?_, ?_⟩
  · rw [Nat.add_assoc]; exact k 1 _ rfl
  · rw [Nat.add_assoc]; exact k 2 _ rfl
  · rw [Nat.add_assoc]; exact k 3 _ rfl
end Go.Proofs.YtbjabclgekkpaaaGreatDoor
