/-
  A text that is put together byte by byte in a row of the call's own.
-/
import Derived.Test.YtchngbdkgfjpcaaDoorDecPrintM
import Derived.OwnWalk
import Derived.Lib.UnsafeStr
import Derived.Laws.AppendOwn
import Derived.Deep.CutBlock
import Derived.Deep.DeepCutAuto
namespace Go.Proofs.YtchngbdkgfjpcaaDoor
open Go.RowKit Go.Shelf

theorem info_u8 : (Tryd.prog.info? 5).map (fun i => (i.zero, i.size, i.bytes)) = some (some (.int .u8 0), 1, 1) := by kernel_rfl
/-- One byte appended to a row of the call's own. -/
theorem append_byte {ops : Array Oper} {rest : List Oper} {o : Oper} {a : Act} {Q : Exit → Act → World → Prop} (w : World) (hgd : o.guard = none) (s x : Operand)
    (ho : o.op = .call { callee := .builtin .append, args := #[s, x], argTypes := #[44, 44] }) {B k : Nat} {v : Value} {os : List Value} (d : Int) (hown : w.ownsRow B 5 1 v k os) (hs : a.eval s = v)
    (hx : a.eval x = .slice (some ⟨w.heap.size, 0, none⟩) 1 1) (hk : k ≤ 1000000000) (hB : B ≤ w.heap.size)
    (h : ∀ v' w', w'.ownsRow B 5 1 v' (k + 1) (os ++ [.int .u8 d]) → Below B w w' → wpList Tryd.prog ops Q rest (a.put o.dst v') w') :
    wpList Tryd.prog ops Q (o :: rest) a (w.alloc (.cells #[.int .u8 d] 5)) := by
  obtain ⟨i0, hi, hz0, hz1, hz2⟩ := info_parts info_u8
  refine wpList_append_own _ hgd s x 44 ho B 5 i0 (.int .u8 0) 1 1 Tryd.underlying44 hi hz0 hz1 hz2 rfl (by decide) v k os hs (hown.alloc _) ⟨w.heap.size, 0, none⟩ 1 1 [.int .u8 d] hx rfl ?_ ?_ ?_ ?_ ?_ ?_
  · intro j u hj
    match j, hj with
    | 0, hj => simp at hj; subst hj; simp [Addr.add]
  · intro u hu; simp at hu; subst hu; rfl
  · unfold maxLen; omega
  · omega
  · simp; omega
  · intro v' w' hown' hg _
    refine h v' w' hown' ?_
    refine ((Below.refl B w).alloc hB _).grown hg (by simp; omega) ?_
    intro q hq
    exact (hown.lt q hq).1
theorem bytes_snoc (l : List UInt8) (b : UInt8) : Lib.byteCells (l ++ [b]) = Lib.byteCells l ++ [.int .u8 (b.toNat : Int)] := by simp [Lib.byteCells]
theorem bytes_append (l t : List UInt8) : Lib.byteCells (l ++ t) = Lib.byteCells l ++ Lib.byteCells t := by simp [Lib.byteCells]

/-- The row of the call's own, as a text. -/
theorem text_of_own {w : World} {B : Nat} {v : Value} {l : List UInt8} (h : w.ownsRow B 5 1 v l.length (Lib.byteCells l)) (hl : l ≠ []) : Sem.run Tryd.prog (convert 44 9 v) w = .ok (.string ⟨l.toArray⟩) w := by
  rcases h.2 with ⟨rfl, h0⟩ | ⟨g, cap, cur, rfl, hB, hh, hn, hm, hs, ht⟩
  · exact absurd (List.length_eq_zero_iff.1 h0) hl
  · refine run_convert_bytes_back (P := Tryd.prog) w 44 9 5 ⟨g, 0, none⟩ cap l (by kernel_rfl) (by kernel_rfl) (by kernel_rfl) ?_
    intro j hj
    have hc : (Lib.byteCells l)[j]? = some (.int .u8 (l[j].toNat : Int)) := by simp [Lib.byteCells, List.getElem?_eq_getElem hj]
    have := h.cells (g := g) rfl j _ hc
    by_cases h0 : j = 0
    · subst h0; simpa [Addr.add] using this
    · simpa [Addr.add, h0] using this

theorem frac_step (r : Nat) (h : r < 65536) (h0 : r ≠ 0) : frac 16 r = UInt8.ofNat (48 + 10 * r / 65536) :: frac 16 (10 * r % 65536) := by
  have e := (ends_start r h).next
  rw [frac_more 15 _ e]
  rw [frac, if_neg h0]

/-- The text so far. -/
def Text (w : World) (l : List UInt8) (v : Value) (wc : World) : Prop := wc.ownsRow w.heap.size 5 1 v l.length (Lib.byteCells l) ∧ Below w.heap.size w wc
theorem Text.one {w wc w1 : World} {l : List UInt8} {v v' : Value} {b : UInt8} {d : Int} (h : Text w l v wc) (h1 : w1.ownsRow w.heap.size 5 1 v' (l.length + 1) (Lib.byteCells l ++ [.int .u8 d])) (h2 : Below w.heap.size wc w1) (hd : d = (b.toNat : Int)) : Text w (l ++ [b]) v' w1 := by
  subst hd
  refine ⟨?_, h.2.trans h2⟩
  rw [bytes_snoc, List.length_append]; exact h1
def natU8 : Value → Nat
  | .int _ n => n.toNat
  | _ => 0

end Go.Proofs.YtchngbdkgfjpcaaDoor
