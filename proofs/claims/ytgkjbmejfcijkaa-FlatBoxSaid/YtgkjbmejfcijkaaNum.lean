/-
  The contracts of package wide's numbers of 128 bits: add, invert, negate, widen, size; what each does to the two words of its receiver, in whatever memory.
-/
import Derived.Test.YtgkjbmejfcijkaaBase
namespace Go.Proofs.Ytgkjbmejfcijkaa
open Go.RowKit Go.Shelf

/-- Word and its bound. -/
def Word (x : Int) : Prop := 0 ≤ x ∧ x < 18446744073709551616

theorem add64 (x y c : Int) (hx : 0 ≤ x) (hy : 0 ≤ y) (hc0 : 0 ≤ c) (hc : c ≤ 1) (w : World) : (callFunc 63 #[.int .u64 x, .int .u64 y, .int .u64 c]).run Try.prog w =
    .ok (.value (.tuple #[.int .u64 ((x + y + c) % 18446744073709551616), .int .u64 ((x + y + c) / 18446744073709551616)])) w := by
  rw [run_callFunc_extern Try.func63 (by kernel_rfl) (by kernel_rfl) (by kernel_rfl) (e := add64Entry) (by kernel_rfl), run_add64 x y c hx hy hc0 hc]
  simp only [Result.andThen]

theorem add64_0 (x y : Int) (hx : 0 ≤ x) (hy : 0 ≤ y) (w : World) : (callFunc 63 #[.int .u64 x, .int .u64 y, .int .u64 0]).run Try.prog w =
    .ok (.value (.tuple #[.int .u64 ((x + y) % 18446744073709551616), .int .u64 ((x + y) / 18446744073709551616)])) w := by
  simpa using add64 x y 0 hx hy (Int.le_refl 0) (by decide) w

/-- Of the world nothing that was there has turned, but for block b. -/
structure Turn (b : Nat) (w w' : World) : Prop where
  os : w'.os = w.os
  tape : w'.tape = w.tape
  output : w'.output = w.output
  size : w.heap.size ≤ w'.heap.size
  block : ∀ k, k < w.heap.size → k ≠ b → w'.heap[k]? = w.heap[k]?

/-- Block b holds the two words. -/
def Two (b : Nat) (h l : Int) (w : World) : Prop := w.heap[b]? = some (.cells #[.int .u64 h, .int .u64 l] 92)

theorem Two.lt {b : Nat} {h l : Int} {w : World} (H : Two b h l w) : b < w.heap.size := by
  unfold Two at H
  exact (Array.getElem?_eq_some_iff.1 H).1
theorem Two.c0 {b : Nat} {h l : Int} {w : World} (H : Two b h l w) : w.cell? ⟨b, 0, none⟩ = some (.int .u64 h) := by
  unfold Two at H; simp [World.cell?, H]
theorem Two.c1 {b : Nat} {h l : Int} {w : World} (H : Two b h l w) : w.cell? ⟨b, 1, none⟩ = some (.int .u64 l) := by
  unfold Two at H; simp [World.cell?, H]
theorem Two.z0 {b : Nat} {h l : Int} {w : World} (H : Two b h l w) : w.frozen? ⟨b, 0, none⟩ = false := by
  unfold Two at H; simp [World.frozen?, H]
theorem Two.z1 {b : Nat} {h l : Int} {w : World} (H : Two b h l w) : w.frozen? ⟨b, 1, none⟩ = false := by
  unfold Two at H; simp [World.frozen?, H]

/-- Two stores into the block's cells, in whatever order. -/
theorem heap_set {b : Nat} {c : Array Value} {w : World} (o : Nat) (v : Value) (H : w.heap[b]? = some (.cells c 92)) : (w.setCell ⟨b, o, none⟩ v).heap[b]? = some (.cells (c.setIfInBounds o v) 92) := by
  simp only [World.setCell, Array.getElem?_modify, H]
  simp
theorem Turn.refl (b : Nat) (w : World) : Turn b w w := ⟨rfl, rfl, rfl, Nat.le_refl _, fun _ _ _ => rfl⟩
theorem Turn.trans {b : Nat} {u v w : World} (h : Turn b u v) (k : Turn b v w) : Turn b u w :=
  ⟨k.os.trans h.os, k.tape.trans h.tape, k.output.trans h.output, Nat.le_trans h.size k.size, fun i hi hn => (k.block i (Nat.lt_of_lt_of_le hi h.size) hn).trans (h.block i hi hn)⟩
theorem Turn.drew {b : Nat} {u w : World} (h : Turn b u w) : Turn b u w.drew := ⟨h.os, h.tape, h.output, h.size, h.block⟩
theorem Turn.set {b : Nat} {u w : World} (h : Turn b u w) (o : Nat) (v : Value) : Turn b u (w.setCell ⟨b, o, none⟩ v) :=
  h.trans ⟨rfl, rfl, rfl, by simp [World.setCell], fun k _ hn => Below.heap_setCell _ _ _ _ hn⟩
theorem Turn.alloc {b : Nat} {u w : World} (h : Turn b u w) (o : Obj) : Turn b u (w.alloc o) :=
  h.trans ⟨rfl, rfl, rfl, by simp, fun k hk _ => Below.heap_alloc _ _ _ hk⟩
theorem Turn.setNew {b q : Nat} {u w : World} (h : Turn b u w) (hq : u.heap.size ≤ q) (o : Nat) (v : Value) : Turn b u (w.setCell ⟨q, o, none⟩ v) :=
  ⟨h.os, h.tape, h.output, by have := h.size; simpa [World.setCell] using this, fun k hk hn => (Below.heap_setCell _ _ _ _ (by show k ≠ q; omega)).trans (h.block k hk hn)⟩
theorem Two.drew {b : Nat} {h l : Int} {w : World} (H : Two b h l w) : Two b h l w.drew := H
theorem Two.alloc {b : Nat} {h l : Int} {w : World} (H : Two b h l w) (o : Obj) : Two b h l (w.alloc o) := by
  have := H.lt
  unfold Two at *
  rw [Below.heap_alloc _ _ _ this]; exact H
/-- A block that a later call leaves alone. -/
theorem Two.kept {b q : Nat} {h l : Int} {w w' : World} (H : Two b h l w) (t : Turn q w w') (hn : b ≠ q) : Two b h l w' := by
  have := H.lt
  unfold Two at *
  rw [t.block b this hn]; exact H
theorem Two.below {b B : Nat} {h l : Int} {w w' : World} (H : Two b h l w) (t : Below B w w') (hn : b < B) : Two b h l w' := by
  unfold Two at *
  rw [t.block b hn]; exact H
theorem Turn.below {b B : Nat} {w w' : World} (t : Turn b w w') (h : B ≤ b) (hB : B ≤ w.heap.size) : Below B w w' :=
  ⟨t.os, t.tape, t.output, t.size, fun k hk => t.block k (by omega) (by omega)⟩

theorem xor_max (h : Int) (h1 : 0 ≤ h) (h2 : h < 18446744073709551616) : bits BinOp.xor IntKind.u64 (if IntKind.u64.signed = true then -1 else IntKind.u64.max) h = 18446744073709551615 - h := by
  obtain ⟨n, rfl⟩ := Int.eq_ofNat_of_zero_le h1
  have hn : n < 18446744073709551616 := by omega
  have e : (if IntKind.u64.signed = true then -1 else IntKind.u64.max) = ((18446744073709551615 : Nat) : Int) := by decide
  rw [e, bits_xor_u64_nat _ _ (by omega) hn]
  have k := BitVec.allOnes_xor (x := BitVec.ofNat 64 n)
  have k2 := congrArg BitVec.toNat k
  simp only [BitVec.toNat_xor, BitVec.toNat_allOnes, BitVec.toNat_not, BitVec.toNat_ofNat] at k2
  rw [Nat.mod_eq_of_lt (by omega)] at k2
  have k3 : 18446744073709551615 ^^^ n = 18446744073709551615 - n := by
    rw [show (18446744073709551615 : Nat) = 2 ^ 64 - 1 from rfl, k2]
  rw [k3]
  omega

theorem size_neg (a : Int) (w : World) (h : a < 0) (h1 : -9223372036854775808 ≤ a) :
    Calls Try.prog 61 #[.int .i64 a] w fun e w' => e = .returned (.int .u64 (-a)) ∧ w = w' := by
  go_enter Try.func61, Try.ntmps61
  go_wp2
  go_ret
  refine ⟨?_, rfl⟩
  show Ending.returned (.int .u64 _) = _
  rw [show IntKind.u64.wrap (-IntKind.u64.wrap a) = -a from by rw [IntKind.wrap_u64, IntKind.wrap_u64]; omega]

theorem size_pos (a : Int) (w : World) (h : 0 ≤ a) (h1 : a ≤ 9223372036854775807) :
    Calls Try.prog 61 #[.int .i64 a] w fun e w' => e = .returned (.int .u64 a) ∧ w = w' := by
  go_enter Try.func61, Try.ntmps61
  go_wp2
  go_ret
  refine ⟨?_, rfl⟩
  show Ending.returned (.int .u64 _) = _
  first
    | rfl
    | rw [show IntKind.u64.wrap a = a from by rw [IntKind.wrap_u64]; omega]

/-- size: the number without its sign. -/
theorem size_any (a : Int) (w : World) (h0 : -9223372036854775808 ≤ a) (h1 : a ≤ 9223372036854775807) :
    Calls Try.prog 61 #[.int .i64 a] w fun e w' => e = .returned (.int .u64 (a.natAbs : Int)) ∧ w = w' := by
  by_cases h : a < 0
  · rw [show (a.natAbs : Int) = -a from by omega]; exact size_neg a w h h0
  · rw [show (a.natAbs : Int) = a from by omega]; exact size_pos a w (by omega) h1

/-- widen: the two words of a plain number. -/
theorem widen_any (a : Int) (w : World) (h0 : -9223372036854775808 ≤ a) (h1 : a ≤ 9223372036854775807) :
    Calls Try.prog 66 #[.int .i64 a] w fun e w' => e = .returned (.agg #[.int .u64 (a / 18446744073709551616 % 18446744073709551616), .int .u64 (a % 18446744073709551616)]) ∧ w' = w.alloc (.cells #[.int .u64 (a / 18446744073709551616 % 18446744073709551616), .int .u64 (a % 18446744073709551616)] 92) := by
  have e1 : IntKind.u64.wrap (a / 9223372036854775808) = a / 18446744073709551616 % 18446744073709551616 := by rw [IntKind.wrap_u64]; omega
  have e2 : IntKind.u64.wrap a = a % 18446744073709551616 := by rw [IntKind.wrap_u64]
  go_enter Try.func66, Try.ntmps66
  go_wp2
  exact bodyPost_ret (v := .agg #[.int .u64 (a / 18446744073709551616 % 18446744073709551616), .int .u64 (a % 18446744073709551616)]) (by simp [results, Try.results66, go_sem]) rfl ⟨rfl, rfl⟩

theorem invert_any (b : Nat) (h l : Int) (w : World) (hh : Word h) (hl : Word l) (H : Two b h l w) :
    Calls Try.prog 64 #[.pointer (some ⟨b, 0, none⟩)] w fun e w' => e = .returned (.tuple #[]) ∧ Turn b w w' ∧ Two b (18446744073709551615 - h) (18446744073709551615 - l) w' := by
  obtain ⟨h1, h2⟩ := hh; obtain ⟨l1, l2⟩ := hl
  have c0 := H.c0; have c1 := H.c1; have z0 := H.z0; have z1 := H.z1
  have x0 := xor_max h h1 h2; have x1 := xor_max l l1 l2
  go_enter Try.func64, Try.ntmps64
  go_wp2
  go_region
  all_goals
    go_end0
    refine ⟨rfl, ?_, ?_⟩
    · exact (((Turn.refl b w).set 0 _).set 1 _).drew
    · exact heap_set 1 _ (heap_set 0 _ H)

theorem add_any (b : Nat) (h l h' l' : Int) (w : World) (hh : Word h) (hl : Word l) (hh' : Word h') (hl' : Word l') (H : Two b h l w) :
    Calls Try.prog 57 #[.pointer (some ⟨b, 0, none⟩), .agg #[.int .u64 h', .int .u64 l']] w fun e w' => e = .returned (.tuple #[]) ∧ Turn b w w' ∧ Two b ((h + h' + (l + l') / 18446744073709551616) % 18446744073709551616) ((l + l') % 18446744073709551616) w' := by
  obtain ⟨h1, h2⟩ := hh; obtain ⟨l1, l2⟩ := hl; obtain ⟨h3, h4⟩ := hh'; obtain ⟨l3, l4⟩ := hl'
  have c0 := H.c0; have c1 := H.c1; have z0 := H.z0; have z1 := H.z1; have hb := H.lt
  have ea := World.new_ne w ⟨b, 0, none⟩ c0
  have k0 : 0 ≤ (l + l') / 18446744073709551616 := by omega
  have k1 : (l + l') / 18446744073709551616 ≤ 1 := by omega
  have a0 := add64_0 l l' l1 l3
  have a1 := add64 h h' _ h1 h3 k0 k1
  go_enter Try.func57, Try.ntmps57
  go_wp2
  go_region
  go_wp2
  go_region
  go_end0
  refine ⟨rfl, ?_, ?_⟩
  · exact ((((Turn.refl b w).set 1 _).set 0 _).alloc _).drew.drew
  · exact Two.alloc (w := (w.setCell ⟨b, 1, none⟩ _).setCell ⟨b, 0, none⟩ _) (heap_set 0 _ (heap_set 1 _ H)) _
end Go.Proofs.Ytgkjbmejfcijkaa
