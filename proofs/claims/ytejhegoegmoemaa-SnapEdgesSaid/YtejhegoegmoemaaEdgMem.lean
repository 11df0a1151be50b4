/-
  Edges; rows of edges in memory.
-/
import Derived.Test.YtejhegoegmoemaaRowG
import Derived.Test.YtejhegoegmoemaaCellsRow
import Derived.Test.YtejhegoegmoemaaPtMem
namespace Go.Proofs.Ytejhegoegmoemaa
open Go.RowKit Go.Shelf

/-- An edge, from one point to another one. -/
structure Edg where
  px : Int
  py : Int
  qx : Int
  qy : Int
deriving DecidableEq
def Edg.lst (g : Edg) : List Value := [.int .i64 g.px, .int .i64 g.py, .int .i64 g.qx, .int .i64 g.qy]
def Edg.arr (g : Edg) : Array Value := #[.int .i64 g.px, .int .i64 g.py, .int .i64 g.qx, .int .i64 g.qy]
def Edg.val (g : Edg) : Value := .agg g.arr
def edgL : Lay8 Edg := { e := 35, sz := 4, cl := Edg.lst, len := fun _ => rfl, pos := by decide, one := fun x u hu => by simp [Edg.lst] at hu; rcases hu with rfl | rfl | rfl | rfl <;> rfl }
/-- A row of edges of the call's own; one that is read. -/
def Edgs (R : Nat) (v : Value) (l : List Edg) (w : World) : Prop := edgL.own R v l w
def RdE (a : Option Addr) (l : List Edg) (w : World) : Prop := edgL.rd a l w
theorem info_edg : (Try.prog.info? 35).map (fun i => (i.zero, i.size, i.bytes)) = some (some (.agg #[.int .i64 0, .int .i64 0, .int .i64 0, .int .i64 0]), 4, 32) := by kernel_rfl
theorem RdE.at {a : Option Addr} {l : List Edg} {w : World} (h : RdE a l w) {i : Nat} {g : Edg} (hi : l[i]? = some g) :
    ∃ b off, a = some ⟨b, off, none⟩ ∧ b < w.heap.size ∧ w.cell? ⟨b, off + i * 4, none⟩ = some (.int .i64 g.px) ∧ w.cell? ⟨b, off + i * 4 + 1, none⟩ = some (.int .i64 g.py) ∧ w.cell? ⟨b, off + i * 4 + 2, none⟩ = some (.int .i64 g.qx) ∧ w.cell? ⟨b, off + i * 4 + 3, none⟩ = some (.int .i64 g.qy) := by
  obtain ⟨b, off, h1, h2, h3⟩ := Lay8.rd.pos h (List.getElem?_eq_some_iff.1 hi).1
  have k := fun j u (hj : (edgL.cl g)[j]? = some u) => h3 _ _ (edgL.flat_at l i g j u hi hj)
  refine ⟨b, off, h1, h2, k 0 _ rfl, ?_, ?_, ?_⟩
  · rw [Nat.add_assoc]; exact k 1 _ rfl
  · rw [Nat.add_assoc]; exact k 2 _ rfl
  · rw [Nat.add_assoc]; exact k 3 _ rfl
end Go.Proofs.Ytejhegoegmoemaa
