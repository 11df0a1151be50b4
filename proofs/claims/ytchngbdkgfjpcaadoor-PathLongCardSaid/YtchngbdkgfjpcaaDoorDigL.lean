/-
  Digits as a text: a number's digits as a list; one byte as a text; texts put together.
-/
import Derived.Test.YtchngbdkgfjpcaaDoorDecFar
import Derived.Laws.Concat
import Derived.Laws.IdiomStrings
namespace Go.Proofs.YtchngbdkgfjpcaaDoor
open Go.RowKit Go.Shelf

def db (n : Nat) : UInt8 := UInt8.ofNat (48 + n % 10)
theorem db_nat (n : Nat) : (db n).toNat = 48 + n % 10 := by
  unfold db; rw [UInt8.toNat_ofNat']; omega
/-- A number's digits. -/
def digL (n : Nat) : List UInt8 := if _h : n < 10 then [db n] else digL (n / 10) ++ [db n]
  termination_by n
  decreasing_by omega

/-- One byte as a text. -/
theorem one_byte (c : UInt8) (x : Int) (hx : x = (c.toNat : Int)) (W : World) : Sem.run Tryd.prog (convert 44 9 (.slice (some ⟨W.heap.size, 0, none⟩) 1 1)) (W.alloc (.cells #[.int .u8 x] 5)) = .ok (.string ⟨[c].toArray⟩) (W.alloc (.cells #[.int .u8 x] 5)) := by
  subst hx
  refine run_convert_bytes_back (P := Tryd.prog) (W.alloc (.cells #[.int .u8 (c.toNat : Int)] 5)) 44 9 5 ⟨W.heap.size, 0, none⟩ 1 [c] (by kernel_rfl) (by kernel_rfl) (by kernel_rfl) ?_
  intro j hj
  obtain rfl : j = 0 := by simp at hj; omega
  show (W.alloc _).cell? ⟨W.heap.size, 0, none⟩ = _
  exact World.cell?_alloc_new W _ _ 0
theorem cat_run (x y : List UInt8) (W : World) (h : x.length + y.length ≤ 9223372036854775807) : Sem.run Tryd.prog (Op.stringOp .add ⟨x.toArray⟩ ⟨y.toArray⟩) W = .ok (.string ⟨(x ++ y).toArray⟩) W := by
  rw [run_string_add_sum W _ _ (by simpa [ByteArray.size] using h), ByteArray.mk_append_mk]

theorem digL_step (m : Nat) (h : m / 10 ≠ 0) : digL m = digL (m / 10) ++ [db m] := by
  rw [digL, dif_neg (by omega)]
theorem digL_last (m : Nat) (h : m / 10 = 0) : digL m = [db m] := by
  rw [digL, dif_pos (by omega)]
end Go.Proofs.YtchngbdkgfjpcaaDoor
