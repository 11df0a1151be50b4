/-
  The law's digits: a number's digits as a text.
-/
import Derived.Test.YtfikkfiihknccaaDoorDecWakes
import Derived.Laws.Concat
import Derived.Laws.IdiomStrings
namespace Go.Proofs.YtfikkfiihknccaaDoor
open Go.RowKit Go.Shelf

def db (n : Nat) : UInt8 := UInt8.ofNat (48 + n % 10)
theorem db_nat (n : Nat) : (db n).toNat = 48 + n % 10 := by
  unfold db; rw [UInt8.toNat_ofNat']; omega
/-- A number's digits. -/
def digL (n : Nat) : List UInt8 := if _h : n < 10 then [db n] else digL (n / 10) ++ [db n]
  termination_by n
  decreasing_by omega

def DigInv (n : Nat) (w : World) (a s : Value) (wr : World) : Prop :=
  ∃ (m : Nat) (t : List UInt8), a = .int .i64 (m : Int) ∧ s = .string ⟨t.toArray⟩ ∧ t.length + m ≤ 4294967295 ∧ Hid (digL n = digL m ++ t) ∧ Below w.heap.size w wr

/-- One byte as a text. -/
theorem one_byte (c : UInt8) (x : Int) (hx : x = (c.toNat : Int)) (W : World) : Sem.run Tryd.prog (convert 51 9 (.slice (some ⟨W.heap.size, 0, none⟩) 1 1)) (W.alloc (.cells #[.int .u8 x] 5)) = .ok (.string ⟨[c].toArray⟩) (W.alloc (.cells #[.int .u8 x] 5)) := by
  subst hx
  refine run_convert_bytes_back (P := Tryd.prog) (W.alloc (.cells #[.int .u8 (c.toNat : Int)] 5)) 51 9 5 ⟨W.heap.size, 0, none⟩ 1 [c] (by kernel_rfl) (by kernel_rfl) (by kernel_rfl) ?_
  intro j hj
  obtain rfl : j = 0 := by simp at hj; omega
  show (W.alloc _).cell? ⟨W.heap.size, 0, none⟩ = _
  exact World.cell?_alloc_new W _ _ 0
theorem cat_run (x y : List UInt8) (W : World) (h : x.length + y.length ≤ 9223372036854775807) : Sem.run Tryd.prog (Op.stringOp .add ⟨x.toArray⟩ ⟨y.toArray⟩) W = .ok (.string ⟨(x ++ y).toArray⟩) W := by
  rw [run_string_add_sum W _ _ (by simpa [ByteArray.size] using h), ByteArray.mk_append_mk]

theorem digL_step (m : Nat) (h : m / 10 ≠ 0) : digL m = digL (m / 10) ++ [db m] := by
  rw [digL, dif_neg (by omega)]
theorem digL_last (m : Nat) (h : m / 10 = 0) : digL m = [db m] := by
  rw [digL, dif_pos (by omega)]
set_option maxRecDepth 100000 in
theorem digits_any (n : Nat) (w : World) (hn : n ≤ 4294967295) : Calls Tryd.prog 12 #[.int .i64 (n : Int)] w fun e w' => e = .returned (.string ⟨(digL n).toArray⟩) ∧ Below w.heap.size w w' := by
  go_enter Tryd.func12, Tryd.ntmps12
  go_wp2_with fail
  go_loopw [0, 3] (fun a s wr => DigInv n w a s wr) (fun a _ _ => (intOf a).toNat)
  case atStart => exact ⟨n, [], rfl, rfl, by simpa using hn, Lib.hid (by simp), Below.refl _ _⟩
  case round =>
    obtain ⟨m, t, rfl, rfl, ht, hd, hb⟩ := hrel
    have HD := hd
    have HB := Lib.hid hb
    clear hd hb
    have e1 : (m : Int).tmod 10 = ((m % 10 : Nat) : Int) := rfl
    have e2 : (m : Int).tdiv 10 = ((m / 10 : Nat) : Int) := rfl
    have l1 : m % 10 < 10 := Nat.mod_lt _ (by decide)
    have l2 : m / 10 ≤ m := Nat.div_le_self _ _
    have l3 : m / 10 ≠ 0 → m / 10 < m := by omega
    have hn := db_nat m
    have S1 := Lib.hid (digL_step m)
    have S2 := Lib.hid (digL_last m)
    generalize m % 10 = c at *
    generalize m / 10 = q at *
    have e3 : IntKind.i64.wrap (48 + (c : Int)) = 48 + (c : Int) := IntWalk.i64_in _ (by omega)
    have e4 : IntKind.u8.wrap (48 + (c : Int)) = 48 + (c : Int) := IntWalk.u8_in _ (by omega)
    have e5 := one_byte (db m) (48 + (c : Int)) (by rw [hn]; omega) wr
    have e6 := fun W => cat_run [db m] t W (by simp; omega)
    generalize db m = d at *
    have e7 : IntKind.i64.wrap (q : Int) = (q : Int) := IntWalk.i64_in _ (by omega)
    clear hn l1
    have B' := Lib.hid (HB.out.alloc HB.out.size (.cells #[.int .u8 (48 + (c : Int))] 5))
    by_cases h0 : q = 0
    · subst h0
      go_wp2_with fail
      go_ret
      exact ⟨by rw [HD.out, S2.out trivial]; rfl, B'.out⟩
    · have h0' : ((q : Int) == 0) = false := by rw [beq_eq_false_iff_ne]; omega
      have l4 := l3 h0
      go_wp2_with fail
      go_roundw
      case rel => exact ⟨q, d :: t, rfl, rfl, by simp; omega, Lib.hid (by rw [HD.out, S1.out h0]; simp), B'.out⟩
      case measure => simp [intOf]; omega
end Go.Proofs.YtfikkfiihknccaaDoor
