/-
  Joined texts: ScanRd, ScanGap, ScanNum.
-/
import Derived.Test.YtgiibcnakiggaaaDoorJDec
import Derived.Test.YtgiibcnakiggaaaDoorJMath
import Derived.Defers
namespace Go.Proofs.YtgiibcnakiggaaaDoor
open Go.RowKit Go.Shelf

/-- Of the world nothing that was there has turned, but for block b. -/
structure Turned (b : Nat) (w w' : World) : Prop where
  os : w'.os = w.os
  tape : w'.tape = w.tape
  output : w'.output = w.output
  size : w.heap.size ≤ w'.heap.size
  block : ∀ k, k < w.heap.size → k ≠ b → w'.heap[k]? = w.heap[k]?
theorem Turned.refl (b : Nat) (w : World) : Turned b w w := ⟨rfl, rfl, rfl, Nat.le_refl _, fun _ _ _ => rfl⟩
theorem Turned.trans {b : Nat} {u v w : World} (h : Turned b u v) (k : Turned b v w) : Turned b u w :=
  ⟨k.os.trans h.os, k.tape.trans h.tape, k.output.trans h.output, Nat.le_trans h.size k.size, fun i hi hn => (k.block i (Nat.lt_of_lt_of_le hi h.size) hn).trans (h.block i hi hn)⟩
theorem Turned.drew {b : Nat} {u w : World} (h : Turned b u w) : Turned b u w.drew := ⟨h.os, h.tape, h.output, h.size, h.block⟩
theorem Turned.set {b : Nat} {u w : World} (h : Turned b u w) (o : Nat) (v : Value) : Turned b u (w.setCell ⟨b, o, none⟩ v) :=
  h.trans ⟨rfl, rfl, rfl, by simp [World.setCell], fun k _ hn => Below.heap_setCell _ _ _ _ hn⟩
theorem Turned.alloc {b : Nat} {u w : World} (h : Turned b u w) (o : Obj) : Turned b u (w.alloc o) :=
  h.trans ⟨rfl, rfl, rfl, by simp, fun k hk _ => Below.heap_alloc _ _ _ hk⟩
theorem Turned.setNew {b q : Nat} {u w : World} (h : Turned b u w) (hq : u.heap.size ≤ q) (o : Nat) (v : Value) : Turned b u (w.setCell ⟨q, o, none⟩ v) :=
  ⟨h.os, h.tape, h.output, by have := h.size; simpa [World.setCell] using this, fun k hk hn => (Below.heap_setCell _ _ _ _ (by show k ≠ q; omega)).trans (h.block k hk hn)⟩
theorem Turned.of_below {b : Nat} {w w' : World} (h : Below w.heap.size w w') : Turned b w w' := ⟨h.os, h.tape, h.output, h.size, fun k hk _ => h.block k hk⟩
theorem Turned.below {b B : Nat} {w w' : World} (t : Turned b w w') (h : B ≤ b) (hB : B ≤ w.heap.size) : Below B w w' :=
  ⟨t.os, t.tape, t.output, t.size, fun k hk => t.block k (by omega) (by omega)⟩

theorem drewq (w : World) (n : Nat) : Below w.heap.size w (w.drewN n) :=
  have h := Below.refl w.heap.size w
  ⟨h.os, h.tape, h.output, h.size, h.block⟩

/-- Block b is a reader of the text s at the place k. -/
def Rdr (b : Nat) (s : ByteArray) (k : Nat) (w : World) : Prop := w.heap[b]? = some (.cells #[.string s, .int .i64 (k : Int)] 98)
theorem Rdr.lt {b : Nat} {s : ByteArray} {k : Nat} {w : World} (H : Rdr b s k w) : b < w.heap.size := by
  unfold Rdr at H; exact (Array.getElem?_eq_some_iff.1 H).1
theorem Rdr.c0 {b : Nat} {s : ByteArray} {k : Nat} {w : World} (H : Rdr b s k w) : w.cell? ⟨b, 0, none⟩ = some (.string s) := by
  unfold Rdr at H; simp [World.cell?, H]
theorem Rdr.c1 {b : Nat} {s : ByteArray} {k : Nat} {w : World} (H : Rdr b s k w) : w.cell? ⟨b, 1, none⟩ = some (.int .i64 (k : Int)) := by
  unfold Rdr at H; simp [World.cell?, H]
theorem Rdr.z1 {b : Nat} {s : ByteArray} {k : Nat} {w : World} (H : Rdr b s k w) : w.frozen? ⟨b, 1, none⟩ = false := by
  unfold Rdr at H; simp [World.frozen?, H]
theorem Rdr.set {b : Nat} {s : ByteArray} {k j : Nat} {w : World} (H : Rdr b s k w) : Rdr b s j (w.setCell ⟨b, 1, none⟩ (.int .i64 (j : Int))) := by
  unfold Rdr at *
  simp only [World.setCell, Array.getElem?_modify, H]
  simp
theorem Rdr.drew {b : Nat} {s : ByteArray} {k : Nat} {w : World} (H : Rdr b s k w) : Rdr b s k w.drew := H
theorem Rdr.below {b B : Nat} {s : ByteArray} {k : Nat} {w w' : World} (H : Rdr b s k w) (t : Below B w w') (hn : b < B) : Rdr b s k w' := by
  unfold Rdr at *
  rw [t.block b hn]; exact H
theorem Rdr.next {b : Nat} {s : ByteArray} {k : Nat} {w w' : World} (H : Rdr b s k w) (t : Below w.heap.size w w') : Rdr b s k w' := H.below t H.lt
theorem Rdr.new (w : World) (s : ByteArray) : Rdr w.heap.size s 0 (w.alloc (.cells #[.string s, .int .i64 0] 98)) := by
  show (w.heap.push _)[w.heap.size]? = _
  rw [Array.getElem?_push, if_pos rfl]; rfl

theorem New_any (s : ByteArray) (w : World) : Calls Tryd.prog 39 #[.string s] w fun e w' => e = .returned (.pointer (some ⟨w.heap.size, 0, none⟩)) ∧ Rdr w.heap.size s 0 w' ∧ Below w.heap.size w w' := by
  have R := Lib.hid (Rdr.new w s)
  have B := Lib.hid ((Below.refl w.heap.size w).alloc (Nat.le_refl _) (.cells #[.string s, .int .i64 0] 98))
  go_enter Tryd.func39, Tryd.ntmps39
  go_wp2_with fail
  go_ret
  exact ⟨rfl, R.out, B.out⟩
theorem At_any (b : Nat) (s : ByteArray) (k : Nat) (w : World) (H : Rdr b s k w) : Calls Tryd.prog 46 #[.pointer (some ⟨b, 0, none⟩)] w fun e w' => e = .returned (.int .i64 (k : Int)) ∧ w = w' := by
  have c1 := H.c1
  clear H
  go_enter Tryd.func46, Tryd.ntmps46
  go_wp2_with fail
  go_ret
  exact ⟨rfl, rfl⟩
theorem Left_any (b : Nat) (s : ByteArray) (k : Nat) (w : World) (H : Rdr b s k w) (hs : s.size ≤ maxLen) (hk : k ≤ s.size) : Calls Tryd.prog 41 #[.pointer (some ⟨b, 0, none⟩)] w fun e w' => e = .returned (.int .i64 ((s.size - k : Nat) : Int)) ∧ Below w.heap.size w w' ∧ Rdr b s k w' := by
  have c0 := H.c0
  have c1 := H.c1
  have HR := Lib.hid H
  have hs' : s.size ≤ 9223372036854775807 := hs
  have e : IntKind.i64.wrap ((s.size : Int) - (k : Int)) = ((s.size - k : Nat) : Int) := by rw [IntWalk.i64_in _ (by omega)]; omega
  clear H hs hs'
  go_enter Tryd.func41, Tryd.ntmps41
  go_wp2_with fail
  go_quiet (fail)
  go_wp2_with fail
  go_ret
  have d := drewq w nq
  exact ⟨rfl, d, HR.out.next d⟩

/-- The byte at a place, 0 at the end. -/
def pk (s : ByteArray) (k : Nat) : Nat := if h : k < s.size then s[k].toNat else 0
theorem pk_in {s : ByteArray} {k : Nat} (h : k < s.size) : pk s k = s[k].toNat := dif_pos h
theorem pk_out {s : ByteArray} {k : Nat} (h : ¬ k < s.size) : pk s k = 0 := dif_neg h
theorem pk_lt (s : ByteArray) (k : Nat) : pk s k < 256 := by
  unfold pk; split
  · exact UInt8.toNat_lt _
  · decide
def PeekPost (b : Nat) (s : ByteArray) (k : Nat) (w : World) (e : Ending) (w' : World) : Prop := e = .returned (.tuple #[.int .u8 (pk s k : Int), .bool (decide (k < s.size))]) ∧ Below w.heap.size w w' ∧ Rdr b s k w'
theorem Peek_any (b : Nat) (s : ByteArray) (k : Nat) (w : World) (H : Rdr b s k w) (hs : s.size ≤ maxLen) (hk : k ≤ s.size) : Calls Tryd.prog 62 #[.pointer (some ⟨b, 0, none⟩)] w (PeekPost b s k w) := by
  have c0 := H.c0
  have c1 := H.c1
  have HR := Lib.hid H
  have hs' : s.size ≤ 9223372036854775807 := hs
  clear H hs
  by_cases h : k < s.size
  · have hp := Lib.hid (pk_in h)
    have hq := Lib.hid (decide_eq_true h)
    have hne : ((k : Int) == (s.size : Int)) = false := by rw [beq_eq_false_iff_ne]; omega
    go_enter Tryd.func62, Tryd.ntmps62
    go_wp2_with fail
    go_quiet (fail)
    have d := Lib.hid (drewq w nq)
    have c0' := (d.out.cell (p := ⟨b, 0, none⟩) (by exact HR.out.lt)).trans c0
    have c1' := (d.out.cell (p := ⟨b, 1, none⟩) (by exact HR.out.lt)).trans c1
    have R' := Lib.hid (HR.out.next d.out)
    generalize w.drewN nq = w1 at *
    go_wp2_with fail
    go_quiet (fail)
    have d2 := Lib.hid (drewq w1 nq)
    have R2 := Lib.hid (R'.out.next d2.out)
    generalize w1.drewN nq = w2 at *
    go_wp2_with fail
    go_ret2
    exact ⟨by rw [hp.out, hq.out]; rfl, d.out.trans (d2.out.mono d.out.size), R2.out⟩
  · have hp := Lib.hid (pk_out h)
    have hq := Lib.hid (decide_eq_false h)
    have hne : ((k : Int) == (s.size : Int)) = true := by rw [beq_iff_eq]; omega
    go_enter Tryd.func62, Tryd.ntmps62
    go_wp2_with fail
    go_quiet (fail)
    have d := Lib.hid (drewq w nq)
    have R' := Lib.hid (HR.out.next d.out)
    generalize w.drewN nq = w1 at *
    go_wp2_with fail
    go_ret2
    exact ⟨by rw [hp.out, hq.out]; rfl, d.out, R'.out⟩

/-- One byte further, but not beyond the end. -/
def stp (s : ByteArray) (k : Nat) : Nat := if k < s.size then k + 1 else k
theorem stp_in {s : ByteArray} {k : Nat} (h : k < s.size) : stp s k = k + 1 := if_pos h
theorem stp_out {s : ByteArray} {k : Nat} (h : ¬ k < s.size) : stp s k = k := if_neg h
theorem stp_le {s : ByteArray} {k : Nat} (h : k ≤ s.size) : stp s k ≤ s.size ∧ k ≤ stp s k := by unfold stp; split <;> omega
def RTakePost (b : Nat) (s : ByteArray) (k : Nat) (w : World) (e : Ending) (w' : World) : Prop := e = .returned (.tuple #[.int .u8 (pk s k : Int), .bool (decide (k < s.size))]) ∧ Turned b w w' ∧ Rdr b s (stp s k) w'
theorem rtake_any (b : Nat) (s : ByteArray) (k : Nat) (w : World) (H : Rdr b s k w) (hs : s.size ≤ maxLen) (hk : k ≤ s.size) : Calls Tryd.prog 82 #[.pointer (some ⟨b, 0, none⟩)] w (RTakePost b s k w) := by
  have P := Lib.hid (Peek_any b s k w H hs hk)
  unfold PeekPost at P
  have hs' : s.size ≤ 9223372036854775807 := hs
  clear H hs
  by_cases h : k < s.size
  · have hq := Lib.hid (stp_in h)
    unfold RTakePost
    rw [hq.out]
    rw [decide_eq_true h] at P ⊢
    have e1 : IntKind.i64.wrap ((k : Int) + 1) = ((k + 1 : Nat) : Int) := by rw [IntWalk.i64_in _ (by omega)]; omega
    generalize pk s k = c at *
    go_enter Tryd.func82, Tryd.ntmps82
    go_wp2_with fail
    refine P.out.mono ?_
    rintro e w1 ⟨rfl, b1, R1⟩
    have HR := Lib.hid R1
    have c1 := R1.c1
    have z1 := R1.z1
    have B1 := Lib.hid b1
    clear R1 b1 P
    go_wp2_with fail
    go_ret2
    exact ⟨rfl, (Turned.of_below B1.out).set 1 _, HR.out.set⟩
  · have hq := Lib.hid (stp_out h)
    unfold RTakePost
    rw [hq.out]
    rw [decide_eq_false h] at P ⊢
    generalize pk s k = c at *
    go_enter Tryd.func82, Tryd.ntmps82
    go_wp2_with fail
    refine P.out.mono ?_
    rintro e w1 ⟨rfl, b1, R1⟩
    have HR := Lib.hid R1
    have B1 := Lib.hid b1
    clear R1 b1 P
    go_wp2_with fail
    go_ret2
    exact ⟨rfl, Turned.of_below B1.out, HR.out⟩
theorem Skip_any (b : Nat) (s : ByteArray) (k : Nat) (w : World) (H : Rdr b s k w) (hs : s.size ≤ maxLen) (hk : k ≤ s.size) : Calls Tryd.prog 65 #[.pointer (some ⟨b, 0, none⟩)] w fun e w' => e = .returned (.bool (decide (k < s.size))) ∧ Turned b w w' ∧ Rdr b s (stp s k) w' := by
  have P := Lib.hid (rtake_any b s k w H hs hk)
  unfold RTakePost at P
  clear H hs
  generalize pk s k = c at *
  generalize decide (k < s.size) = ok at *
  generalize stp s k = k' at *
  go_enter Tryd.func65, Tryd.ntmps65
  go_wp2_with fail
  refine P.out.mono ?_
  rintro e w1 ⟨rfl, b1, R1⟩
  have HR := Lib.hid R1
  have B1 := Lib.hid b1
  clear R1 b1 P
  go_wp2_with fail
  go_ret
  exact ⟨rfl, B1.out, HR.out⟩

/-- The table of blanks lies in memory as its text says. -/
def Blks (w : World) : Prop := ∀ i : Nat, i ≤ 32 → w.cell? ⟨1, i, none⟩ = some (.bool (isBlN i))
theorem blank_any (c : Nat) (w : World) (hc : c < 256) (T : Blks w) : Calls Tryd.prog 63 #[.int .u8 (c : Int)] w fun e w' => e = .returned (.bool (isBlN c)) ∧ w = w' := by
  have m1 : IntKind.i64.wrap (c : Int) = (c : Int) := IntWalk.i64_in _ (by omega)
  by_cases h : c ≤ 32
  · have hT := T c h
    clear T
    have h1 : (c : Int) < 33 := by omega
    generalize isBlN c = z at *
    go_enter Tryd.func63, Tryd.ntmps63
    go_wp2_with fail
    go_ret
    exact ⟨rfl, rfl⟩
  · have h1 : ¬ (c : Int) < 33 := by omega
    have h2 : isBlN c = false := by unfold isBlN; simp; omega
    rw [h2]
    clear T
    go_enter Tryd.func63, Tryd.ntmps63
    go_wp2_with fail
    go_ret
    exact ⟨rfl, rfl⟩

/-- Of the byte 0 or 1: its value, and one byte further. -/
def flg (s : ByteArray) (k : Nat) : Int × Int × Nat := if pk s k = 48 then (0, 0, k + 1) else if pk s k = 49 then (1, 0, k + 1) else (0, 3, k)
theorem Flag_any (b : Nat) (s : ByteArray) (k : Nat) (w : World) (H : Rdr b s k w) (hs : s.size ≤ maxLen) (hk : k ≤ s.size) : Calls Tryd.prog 85 #[.pointer (some ⟨b, 0, none⟩)] w fun e w' => e = .returned (.tuple #[.int .i64 (flg s k).1, .int .i64 (flg s k).2.1]) ∧ Turned b w w' ∧ Rdr b s (flg s k).2.2 w' := by
  have P := Lib.hid (Peek_any b s k w H hs hk)
  unfold PeekPost at P
  have hs' : s.size ≤ 9223372036854775807 := hs
  have hlt : k = s.size → pk s k = 0 := fun h => pk_out (by omega)
  have hl := pk_lt s k
  clear H hs
  unfold flg
  generalize pk s k = c at *
  generalize decide (k < s.size) = ok at *
  by_cases h0 : c = 48
  · subst h0
    have hk' : k < s.size := by omega
    have e1 : IntKind.i64.wrap ((k : Int) + 1) = ((k + 1 : Nat) : Int) := by rw [IntWalk.i64_in _ (by omega)]; omega
    go_enter Tryd.func85, Tryd.ntmps85
    go_wp2_with fail
    refine P.out.mono ?_
    rintro e w1 ⟨rfl, b1, R1⟩
    have HR := Lib.hid R1
    have c1 := R1.c1
    have z1 := R1.z1
    have B1 := Lib.hid b1
    clear R1 b1 P
    go_wp2_with fail
    go_ret2
    exact ⟨rfl, (Turned.of_below B1.out).set 1 _, HR.out.set⟩
  · rw [if_neg h0]
    by_cases h1 : c = 49
    · subst h1
      have hk' : k < s.size := by omega
      have e1 : IntKind.i64.wrap ((k : Int) + 1) = ((k + 1 : Nat) : Int) := by rw [IntWalk.i64_in _ (by omega)]; omega
      go_enter Tryd.func85, Tryd.ntmps85
      go_wp2_with fail
      refine P.out.mono ?_
      rintro e w1 ⟨rfl, b1, R1⟩
      have HR := Lib.hid R1
      have c1 := R1.c1
      have z1 := R1.z1
      have B1 := Lib.hid b1
      clear R1 b1 P
      go_wp2_with fail
      go_ret2
      exact ⟨rfl, (Turned.of_below B1.out).set 1 _, HR.out.set⟩
    · rw [if_neg h1]
      have e1 : ((c : Int) == 48) = false := by rw [beq_eq_false_iff_ne]; omega
      have e2 : ((c : Int) == 49) = false := by rw [beq_eq_false_iff_ne]; omega
      have e3 : ((c : Int) != 48) = true := by rw [bne, e1]; rfl
      have e4 : ((c : Int) != 49) = true := by rw [bne, e2]; rfl
      go_enter Tryd.func85, Tryd.ntmps85
      go_wp2_with fail
      refine P.out.mono ?_
      rintro e w1 ⟨rfl, b1, R1⟩
      have HR := Lib.hid R1
      have B1 := Lib.hid b1
      clear R1 b1 P
      go_wp2_with fail
      go_ret2
      exact ⟨rfl, Turned.of_below B1.out, HR.out⟩
end Go.Proofs.YtgiibcnakiggaaaDoor
namespace Go.Proofs.YtgiibcnakiggaaaDoor
open Go.RowKit Go.Shelf

theorem gN_blank : 1 < gN := of_decide_eq_true (by kernel_rfl)
theorem Blks.below {w w' : World} {B : Nat} (h : Blks w) (t : Below B w w') (hB : gN ≤ B) : Blks w' := fun i hi => by
  rw [t.cell (p := ⟨1, i, none⟩) (Nat.lt_of_lt_of_le gN_blank hB)]; exact h i hi
theorem Blks.turned {w w' : World} {b : Nat} (h : Blks w) (t : Turned b w w') (hb : gN ≤ b) (hw : gN ≤ w.heap.size) : Blks w' := h.below (t.below hb hw) (Nat.le_refl _)
/-- The place of a reader, off memory. -/
def plc (b : Nat) (w : World) : Nat := match w.cell? ⟨b, 1, none⟩ with
  | some (.int _ n) => n.toNat
  | _ => 0
theorem Rdr.plc {b : Nat} {s : ByteArray} {k : Nat} {w : World} (H : Rdr b s k w) : plc b w = k := by
  unfold Go.Proofs.YtgiibcnakiggaaaDoor.plc; rw [H.c1]; simp
theorem headBl (s : ByteArray) (k : Nat) : headIs isBl (s.data.toList.drop k) = (decide (k < s.size) && isBlN (pk s k)) := by
  by_cases h : k < s.size
  · rw [drop_cons s k h, pk_in h, decide_eq_true h]; rfl
  · rw [List.drop_of_length_le (by simp; exact Nat.le_of_not_lt h), decide_eq_false h]; rfl
theorem headCm (s : ByteArray) (k : Nat) : headIs isCm (s.data.toList.drop k) = (decide (k < s.size) && pk s k == 44) := by
  by_cases h : k < s.size
  · rw [drop_cons s k h, pk_in h, decide_eq_true h]; rfl
  · rw [List.drop_of_length_le (by simp; exact Nat.le_of_not_lt h), decide_eq_false h]; rfl

def BlInv (b : Nat) (s : ByteArray) (a : Nat) (w : World) (s4 s5 : Value) (wr : World) : Prop :=
  ∃ k : Nat, a ≤ k ∧ k ≤ s.size ∧ s4 = .int .u8 (pk s k : Int) ∧ s5 = .bool (decide (k < s.size)) ∧ Rdr b s k wr ∧ Turned b w wr ∧ Hid (a + blk (s.data.toList.drop a) = k + blk (s.data.toList.drop k))
theorem Blanks_any (b : Nat) (s : ByteArray) (a : Nat) (w : World) (H : Rdr b s a w) (hs : s.size ≤ maxLen) (ha : a ≤ s.size) (T : Blks w) (hb : gN ≤ b) :
    Calls Tryd.prog 40 #[.pointer (some ⟨b, 0, none⟩)] w fun e w' => e = .returned (.int .i64 (blk (s.data.toList.drop a) : Int)) ∧ Turned b w w' ∧ Rdr b s (a + blk (s.data.toList.drop a)) w' := by
  have P := Lib.hid (fun k w H hk => Peek_any b s k w H hs hk)
  unfold PeekPost at P
  have BL := Lib.hid (fun k w (T : Blks w) => blank_any (pk s k) w (pk_lt s k) T)
  have hs' : s.size ≤ 9223372036854775807 := hs
  have HT := Lib.hid T
  have HR := Lib.hid H
  have c1 := H.c1
  have hw : gN ≤ w.heap.size := by have := H.lt; omega
  clear T H hs
  go_enter Tryd.func40, Tryd.ntmps40
  go_wp2_with fail
  refine (P.out a _ HR.out ha).mono ?_
  rintro e w1 ⟨rfl, b1, R1⟩
  have HR1 := Lib.hid R1
  have B1 := Lib.hid (Turned.of_below (b := b) b1)
  clear R1 b1 c1 HR
  go_wp2_with fail
  go_loopw [4, 5] (fun s4 s5 wr => BlInv b s a w s4 s5 wr) (fun _ _ wr => s.size - plc b wr)
  case atStart => exact ⟨a, Nat.le_refl _, ha, rfl, rfl, HR1.out, B1.out, Lib.hid rfl⟩
  case round =>
    clear HR1 B1
    obtain ⟨k, hak, hk, rfl, rfl, R, B, hr⟩ := hrel
    have HR := Lib.hid R
    have HB := Lib.hid B
    have hd := headBl s k
    have c1 := R.c1
    have z1 := R.z1
    have HM := Lib.hid R.plc
    have T1 := Lib.hid (HT.out.turned B hb hw)
    clear R B
    by_cases hlt : k < s.size
    · have BK := Lib.hid (BL.out k)
      rw [decide_eq_true hlt] at hd ⊢
      rw [Bool.true_and] at hd
      have e1 : IntKind.i64.wrap ((k : Int) + 1) = ((k + 1 : Nat) : Int) := by rw [IntWalk.i64_in _ (by omega)]; omega
      by_cases hbl : isBlN (pk s k) = true
      · rw [hbl] at hd BK
        have HD := Lib.hid (blk_pos _ hd)
        rw [List.drop_drop] at HD
        clear hd hbl
        go_wp2_with fail
        refine (BK.out _ T1.out).mono ?_
        rintro e w2 ⟨rfl, rfl⟩
        go_wp2_with fail
        have R2 := Lib.hid (HR.out.set (j := k + 1))
        have B2 := Lib.hid (HB.out.set 1 (.int .i64 ((k + 1 : Nat) : Int)))
        refine (P.out (k + 1) _ R2.out (by omega)).mono ?_
        rintro e w3 ⟨rfl, b3, R3⟩
        have HR3 := Lib.hid R3
        have B3 := Lib.hid (B2.out.trans (Turned.of_below b3))
        clear R3 b3
        go_wp2_with fail
        go_roundw
        case rel => exact ⟨k + 1, by omega, by omega, rfl, rfl, HR3.out, B3.out, Lib.hid (by rw [hr.out, HD.out]; omega)⟩
        case measure => rw [HR3.out.plc, HM.out]; omega
      · rw [Bool.not_eq_true] at hbl
        rw [hbl] at hd BK
        have HD := Lib.hid (blk_zero _ hd)
        have e2 : IntKind.i64.wrap ((k : Int) - (a : Int)) = ((k - a : Nat) : Int) := by rw [IntWalk.i64_in _ (by omega)]; omega
        clear hd hbl
        go_wp2_with fail
        refine (BK.out _ T1.out).mono ?_
        rintro e w2 ⟨rfl, rfl⟩
        go_wp2_with fail
        go_ret
        have hr' := hr.out
        rw [HD.out] at hr'
        have e3 : blk (s.data.toList.drop a) = k - a := by omega
        rw [e3, show a + (k - a) = k from by omega]
        exact ⟨rfl, HB.out, HR.out⟩
    · rw [decide_eq_false hlt] at hd ⊢
      rw [Bool.false_and] at hd
      have HD := Lib.hid (blk_zero _ hd)
      have e2 : IntKind.i64.wrap ((k : Int) - (a : Int)) = ((k - a : Nat) : Int) := by rw [IntWalk.i64_in _ (by omega)]; omega
      clear hd
      go_wp2_with fail
      go_ret
      have hr' := hr.out
      rw [HD.out] at hr'
      have e3 : blk (s.data.toList.drop a) = k - a := by omega
      rw [e3, show a + (k - a) = k from by omega]
      exact ⟨rfl, HB.out, HR.out⟩

/-- The deferred function: it sets the reader to the saved place. -/
theorem gapBack (b p q : Nat) (s : ByteArray) (k j : Nat) (u : FrameMode) (w : World) (hp : w.cell? ⟨p, 0, none⟩ = some (.int .i64 (j : Int))) (hq : w.cell? ⟨q, 0, none⟩ = some (.pointer (some ⟨b, 0, none⟩))) (H : Rdr b s k w) :
    CallsD Tryd.prog 83 #[.pointer (some ⟨p, 0, none⟩), .pointer (some ⟨q, 0, none⟩)] u w fun e u' w' => u' = u ∧ (e = .returned (.tuple #[]) ∧ w' = w.setCell ⟨b, 1, none⟩ (.int .i64 (j : Int))) := by
  have z1 := H.z1
  have c1 := H.c1
  clear H
  go_enter_d Tryd.func83, Tryd.ntmps83
  go_wp2
  go_end0
  exact ⟨rfl, rfl⟩

/-- The two boxes: the pointer to the reader, the saved place. -/
structure Boxes (b p : Nat) (j : Nat) (w : World) : Prop where
  ptr : w.heap[p]? = some (.cells #[.pointer (some ⟨b, 0, none⟩)] 79)
  sav : w.heap[p + 1]? = some (.cells #[.int .i64 (j : Int)] 3)
theorem Boxes.c0 {b p j : Nat} {w : World} (H : Boxes b p j w) : w.cell? ⟨p, 0, none⟩ = some (.pointer (some ⟨b, 0, none⟩)) := by
  have := H.ptr; simp [World.cell?, this]
theorem Boxes.c1 {b p j : Nat} {w : World} (H : Boxes b p j w) : w.cell? ⟨p + 1, 0, none⟩ = some (.int .i64 (j : Int)) := by
  have := H.sav; simp [World.cell?, this]
theorem Boxes.z1 {b p j : Nat} {w : World} (H : Boxes b p j w) : w.frozen? ⟨p + 1, 0, none⟩ = false := by
  have := H.sav; simp [World.frozen?, this]
theorem Boxes.lt {b p j : Nat} {w : World} (H : Boxes b p j w) : p + 1 < w.heap.size := (Array.getElem?_eq_some_iff.1 H.sav).1
theorem Boxes.turned {b p j : Nat} {w w' : World} (H : Boxes b p j w) (t : Turned b w w') (hp : b < p) : Boxes b p j w' := by
  have := H.lt
  exact ⟨by rw [t.block p (by omega) (by omega)]; exact H.ptr, by rw [t.block (p + 1) (by omega) (by omega)]; exact H.sav⟩
theorem Boxes.save {b p j i : Nat} {w : World} (H : Boxes b p j w) : Boxes b p i (w.setCell ⟨p + 1, 0, none⟩ (.int .i64 (i : Int))) := by
  refine ⟨?_, ?_⟩
  · rw [Below.heap_setCell _ _ _ _ (by show p ≠ p + 1; omega)]; exact H.ptr
  · simp only [World.setCell, Array.getElem?_modify, H.sav]
    simp
theorem Boxes.new (b a : Nat) (w : World) : Boxes b w.heap.size a ((w.alloc (.cells #[.pointer (some ⟨b, 0, none⟩)] 79)).alloc (.cells #[.int .i64 (a : Int)] 3)) := by
  refine ⟨?_, ?_⟩
  · rw [Below.heap_alloc _ _ _ (by simp)]
    show (w.heap.push _)[w.heap.size]? = _
    rw [Array.getElem?_push, if_pos rfl]
  · show ((w.heap.push _).push _)[w.heap.size + 1]? = _
    rw [Array.getElem?_push, if_pos (by simp)]
theorem Rdr.other {b q o : Nat} {s : ByteArray} {k : Nat} {w : World} {v : Value} (H : Rdr b s k w) (hn : b ≠ q) : Rdr b s k (w.setCell ⟨q, o, none⟩ v) := by
  unfold Rdr at *
  rw [Below.heap_setCell _ _ _ _ (by exact hn)]; exact H
/-- The saved place, off memory. -/
def savd (p : Nat) (w : World) : Nat := match w.cell? ⟨p + 1, 0, none⟩ with
  | some (.int _ n) => n.toNat
  | _ => 0
theorem Boxes.savd {b p j : Nat} {w : World} (H : Boxes b p j w) : savd p w = j := by
  unfold Go.Proofs.YtgiibcnakiggaaaDoor.savd; rw [H.c1]; simp
/-- Behind the loop: the saved place, and whether it lies behind. -/
theorem gap_fin {a j g : Nat} (h : a + g = j) : decide (a < j) = decide (0 < g) := by
  by_cases hg : 0 < g
  · rw [decide_eq_true hg, decide_eq_true (by omega)]
  · rw [decide_eq_false hg, decide_eq_false (by omega)]
def GapInv (b : Nat) (s : ByteArray) (a : Nat) (w : World) (s5 s6 s7 : Value) (wr : World) : Prop :=
  ∃ j c : Nat, a ≤ j ∧ j ≤ s.size ∧ c ≤ 1 ∧ s5 = .int .i64 (c : Int) ∧ s6 = .int .u8 (pk s j : Int) ∧ s7 = .bool (decide (j < s.size)) ∧ Rdr b s (stp s j) wr ∧ Boxes b w.heap.size j wr ∧ Turned b w wr ∧ Hid (a + gap 0 (s.data.toList.drop a) = j + gap c (s.data.toList.drop j))

theorem Gap_any (b : Nat) (s : ByteArray) (a : Nat) (w : World) (H : Rdr b s a w) (hs : s.size ≤ maxLen) (ha : a ≤ s.size) (T : Blks w) (hb : gN ≤ b) :
    Calls Tryd.prog 66 #[.pointer (some ⟨b, 0, none⟩)] w fun e w' => e = .returned (.bool (decide (0 < gap 0 (s.data.toList.drop a)))) ∧ Turned b w w' ∧ Rdr b s (a + gap 0 (s.data.toList.drop a)) w' := by
  have P := Lib.hid (fun k w H hk => rtake_any b s k w H hs hk)
  unfold RTakePost at P
  have BL := Lib.hid (fun k w (T : Blks w) => blank_any (pk s k) w (pk_lt s k) T)
  have hs' : s.size ≤ 9223372036854775807 := hs
  have HT := Lib.hid T
  have HR := Lib.hid H
  have c1 := H.c1
  have hlt := H.lt
  have hw : gN ≤ w.heap.size := by have := H.lt; omega
  have hmf : ∀ (fn : Fn) (first cap : Array Value) (w : World), (Instr.makeFunc fn first cap).run Tryd.prog w = .ok (.func fn first cap) w := fun _ _ _ _ => rfl
  clear T H hs
  have BX := Lib.hid (Boxes.new b a w)
  have W0 := Lib.hid (((Below.refl w.heap.size w).alloc (Nat.le_refl _) (.cells #[.pointer (some ⟨b, 0, none⟩)] 79)).alloc (by simp) (.cells #[.int .i64 (a : Int)] 3))
  go_enter_defers Tryd.func66, Tryd.ntmps66
  go_wp2_with fail
  have R0 := Lib.hid (HR.out.next W0.out)
  generalize ((w.alloc (.cells #[.pointer (some ⟨b, 0, none⟩)] 79)).alloc (.cells #[.int .i64 (a : Int)] 3)) = w0 at *
  refine (P.out a _ R0.out ha).mono ?_
  rintro e w1 ⟨rfl, b1, R1⟩
  have HR1 := Lib.hid R1
  have BX1 := Lib.hid (BX.out.turned b1 hlt)
  have B1 := Lib.hid ((Turned.of_below (b := b) W0.out).trans b1)
  clear R1 b1 c1 HR BX W0 R0
  go_wp2_with fail
  go_loopw [5, 6, 7] (fun s5 s6 s7 wr => GapInv b s a w s5 s6 s7 wr) (fun _ _ _ wr => s.size - savd w.heap.size wr)
  case atStart => exact ⟨a, 0, Nat.le_refl _, ha, by omega, rfl, rfl, rfl, HR1.out, BX1.out, B1.out, Lib.hid rfl⟩
  case round =>
    clear HR1 BX1 B1
    obtain ⟨j, c, haj, hj, hc, rfl, rfl, rfl, R, BX, B, hr⟩ := hrel
    have HR := Lib.hid R
    have HB := Lib.hid B
    have HX := Lib.hid BX
    have x0 := BX.c0
    have x1 := BX.c1
    have z1 := BX.z1
    have c1 := R.c1
    have HM := Lib.hid BX.savd
    have T1 := Lib.hid (HT.out.turned B hb hw)
    have hcm := headCm s j
    have hbl := headBl s j
    clear R B BX
    by_cases hlt' : j < s.size
    · rw [decide_eq_true hlt'] at hcm hbl ⊢
      rw [Bool.true_and] at hcm hbl
      rw [stp_in hlt'] at HR c1
      by_cases h44 : pk s j = 44
      · have hb' : isBlN (pk s j) = false := by rw [h44]; rfl
        rw [h44]
        rw [hb'] at hbl
        rw [h44] at hcm
        have hcm' : headIs isCm (s.data.toList.drop j) = true := hcm
        by_cases h0 : c = 0
        · subst h0
          have HG := Lib.hid (gap_comma _ hcm')
          rw [List.drop_drop] at HG
          have R2 := Lib.hid (HR.out.other (q := w.heap.size + 1) (o := 0) (v := .int .i64 ((j + 1 : Nat) : Int)) (by omega))
          have B2 := Lib.hid (HB.out.setNew (q := w.heap.size + 1) (by omega) 0 (.int .i64 ((j + 1 : Nat) : Int)))
          have X2 := Lib.hid (HX.out.save (i := j + 1))
          clear hcm hbl hcm' hb'
          go_wp2_with fail
          refine (P.out (j + 1) _ R2.out (by omega)).mono ?_
          rintro e w3 ⟨rfl, b3, R3⟩
          have HR3 := Lib.hid R3
          have X3 := Lib.hid (X2.out.turned b3 hlt)
          have B3 := Lib.hid (B2.out.trans b3)
          clear R3 b3
          go_wp2_with fail
          go_roundw
          case rel => exact ⟨j + 1, 1, by omega, by omega, by omega, rfl, rfl, rfl, HR3.out, X3.out, B3.out, Lib.hid (by rw [hr.out, HG.out]; omega)⟩
          case measure => rw [X3.out.savd, HM.out]; omega
        · obtain rfl : c = 1 := by omega
          have E := Lib.hid (show a + gap 0 (s.data.toList.drop a) = j by have := hr.out; rw [gap_comma2 _ _ hcm' (by decide)] at this; exact this)
          have R2 := Lib.hid (HR.out.set (j := j))
          have B2 := Lib.hid (HB.out.set 1 (.int .i64 (j : Int)))
          have BK := Lib.hid (fun u => gapBack b (w.heap.size + 1) w.heap.size s _ j u wr x1 x0 HR.out)
          clear hcm hbl hcm' hb'
          go_wp2_with fail
          refine leaves_cons (f := 83) (args := #[.pointer (some ⟨w.heap.size + 1, 0, none⟩), .pointer (some ⟨w.heap.size, 0, none⟩)]) (by simp) (by simp [go_sem]) ?_
          refine (BK.out _).mono ?_
          rintro e u' w2 ⟨rfl, rfl, rfl⟩
          refine ⟨_, results_tmp rfl _ _ _, ?_, B2.out, ?_⟩
          · show Ending.returned (.bool (decide (a < j))) = _
            rw [gap_fin E.out]
          · rw [E.out]; exact R2.out
      · have n44 : ((pk s j : Int) == 44) = false := by rw [beq_eq_false_iff_ne]; omega
        have hcm' : headIs isCm (s.data.toList.drop j) = false := by rw [hcm, beq_eq_false_iff_ne]; exact h44
        have m44 : ((pk s j : Int) != 44) = true := by rw [bne, n44]; rfl
        have hc1 : ¬ (1 : Int) < (c : Int) := by omega
        have BLj := Lib.hid (BL.out j)
        by_cases hb' : isBlN (pk s j) = true
        · rw [hb'] at hbl BLj
          have HG := Lib.hid (gap_pos_of c _ hbl)
          rw [List.drop_drop] at HG
          have R2 := Lib.hid (HR.out.other (q := w.heap.size + 1) (o := 0) (v := .int .i64 ((j + 1 : Nat) : Int)) (by omega))
          have B2 := Lib.hid (HB.out.setNew (q := w.heap.size + 1) (by omega) 0 (.int .i64 ((j + 1 : Nat) : Int)))
          have X2 := Lib.hid (HX.out.save (i := j + 1))
          clear hcm hbl hcm' hb'
          go_wp2_with fail
          refine (BLj.out _ T1.out).mono ?_
          rintro e w2 ⟨rfl, rfl⟩
          go_wp2_with fail
          refine (P.out (j + 1) _ R2.out (by omega)).mono ?_
          rintro e w3 ⟨rfl, b3, R3⟩
          have HR3 := Lib.hid R3
          have X3 := Lib.hid (X2.out.turned b3 hlt)
          have B3 := Lib.hid (B2.out.trans b3)
          clear R3 b3
          go_wp2_with fail
          go_roundw
          case rel => exact ⟨j + 1, c, by omega, by omega, hc, rfl, rfl, rfl, HR3.out, X3.out, B3.out, Lib.hid (by rw [hr.out, HG.out]; omega)⟩
          case measure => rw [X3.out.savd, HM.out]; omega
        · rw [Bool.not_eq_true] at hb'
          rw [hb'] at hbl BLj
          have E := Lib.hid (show a + gap 0 (s.data.toList.drop a) = j by have := hr.out; rw [gap_none _ _ hbl hcm'] at this; exact this)
          have R2 := Lib.hid (HR.out.set (j := j))
          have B2 := Lib.hid (HB.out.set 1 (.int .i64 (j : Int)))
          have BK := Lib.hid (fun u => gapBack b (w.heap.size + 1) w.heap.size s _ j u wr x1 x0 HR.out)
          clear hcm hbl hcm' hb'
          go_wp2_with fail
          refine (BLj.out _ T1.out).mono ?_
          rintro e w2 ⟨rfl, rfl⟩
          go_wp2_with fail
          refine leaves_cons (f := 83) (args := #[.pointer (some ⟨w.heap.size + 1, 0, none⟩), .pointer (some ⟨w.heap.size, 0, none⟩)]) (by simp) (by simp [go_sem]) ?_
          refine (BK.out _).mono ?_
          rintro e u' w2 ⟨rfl, rfl, rfl⟩
          refine ⟨_, results_tmp rfl _ _ _, ?_, B2.out, ?_⟩
          · show Ending.returned (.bool (decide (a < j))) = _
            rw [gap_fin E.out]
          · rw [E.out]; exact R2.out
    · rw [decide_eq_false hlt'] at hcm hbl ⊢
      rw [Bool.false_and] at hcm hbl
      have E := Lib.hid (show a + gap 0 (s.data.toList.drop a) = j by have := hr.out; rw [gap_none _ _ hbl hcm] at this; exact this)
      have R2 := Lib.hid (HR.out.set (j := j))
      have B2 := Lib.hid (HB.out.set 1 (.int .i64 (j : Int)))
      have BK := Lib.hid (fun u => gapBack b (w.heap.size + 1) w.heap.size s _ j u wr x1 x0 HR.out)
      clear hcm hbl
      go_wp2_with fail
      refine leaves_cons (f := 83) (args := #[.pointer (some ⟨w.heap.size + 1, 0, none⟩), .pointer (some ⟨w.heap.size, 0, none⟩)]) (by simp) (by simp [go_sem]) ?_
      refine (BK.out _).mono ?_
      rintro e u' w2 ⟨rfl, rfl, rfl⟩
      refine ⟨_, results_tmp rfl _ _ _, ?_, B2.out, ?_⟩
      · show Ending.returned (.bool (decide (a < j))) = _
        rw [gap_fin E.out]
      · rw [E.out]; exact R2.out
end Go.Proofs.YtgiibcnakiggaaaDoor
namespace Go.Proofs.YtgiibcnakiggaaaDoor
open Go.RowKit Go.Shelf

/-- What the laws ask of memory: the table of states, the table of blanks. -/
structure STabs (w : World) : Prop where
  tabs : Tabs w
  blks : Blks w
theorem STabs.next {w w' : World} (h : STabs w) (t : Below w.heap.size w w') : STabs w' := ⟨h.tabs.next t, h.blks.below t h.tabs.size⟩
theorem STabs.turned {w w' : World} {b : Nat} (h : STabs w) (t : Turned b w w') (hb : gN ≤ b) : STabs w' :=
  ⟨h.tabs.below (t.below hb h.tabs.size) (Nat.le_refl _) t.size, h.blks.turned t hb h.tabs.size⟩

/-- The number's end, and whether one ends there. -/
def nmE (s : ByteArray) (k : Nat) (signed : Bool) : Nat := k + (wk (s.data.toList.drop k) (if signed then 1 else 2)).1
def nmW (s : ByteArray) (k : Nat) (signed : Bool) : Bool := (wk (s.data.toList.drop k) (if signed then 1 else 2)).2
theorem nmE_le (s : ByteArray) (k : Nat) (signed : Bool) (h : k ≤ s.size) : k ≤ nmE s k signed ∧ nmE s k signed ≤ s.size := by
  have := walk_fst_le (s.data.toList.drop k) (if signed then 1 else 2)
  rw [List.length_drop, Array.length_toList] at this
  have e : s.data.size = s.size := rfl
  unfold nmE wk
  omega
/-- Number, where none ends. -/
theorem Number_bad (b : Nat) (s : ByteArray) (k : Nat) (signed : Bool) (w : World) (H : Rdr b s k w) (hs : s.size ≤ maxLen) (hk : k ≤ s.size) (T : STabs w) (h : nmW s k signed = false) :
    Calls Tryd.prog 86 #[.pointer (some ⟨b, 0, none⟩), .bool signed] w fun e w' => e = .returned (.tuple #[.int .i64 0, .int .i64 3]) ∧ Turned b w w' ∧ Rdr b s (nmE s k signed) w' := by
  have A := Lib.hid (fun w (hF : Follows w) => Scan_any s k signed w hs hk hF)
  have hs' : s.size ≤ 9223372036854775807 := hs
  have e1 : (wholeS (walkL (s.data.toList.drop k) (if signed then 1 else 2)).2) = nmW s k signed := rfl
  have e2 : (k + (walkL (s.data.toList.drop k) (if signed then 1 else 2)).1) = nmE s k signed := rfl
  rw [e1, e2, h] at A
  have c0 := H.c0
  have c1 := H.c1
  have z1 := H.z1
  have HR := Lib.hid H
  have HT := Lib.hid T
  have hE := (nmE_le s k signed hk)
  clear e1 e2 hs T H h
  generalize nmE s k signed = n at *
  go_enter Tryd.func86, Tryd.ntmps86
  go_wp2_with fail
  go_region_held3 (fun w' => w'.cell? ⟨b, 0, none⟩ = some (.string s) ∧ w'.cell? ⟨b, 1, none⟩ = some (.int .i64 (k : Int))) (simp [go_sem, *])
    (first | (go_at_call 94; refine (A.out _ (by exact HT.out.tabs.follows)).mono ?_; rintro e wA ⟨rfl, rfl⟩))
  go_wp2_with fail
  go_ret2
  exact ⟨rfl, ((Turned.refl b w).set 1 _).drew, HR.out.set⟩
/-- Number, where one ends: what Parse tells of its text. -/
theorem Number_ok (b : Nat) (s : ByteArray) (k : Nat) (signed : Bool) (an : Int × Int) (w : World) (H : Rdr b s k w) (hs : s.size ≤ maxLen) (hk : k ≤ s.size) (T : STabs w) (h : nmW s k signed = true)
    (hP : ∀ w, Tabs w → Calls Tryd.prog 95 #[.string (s.extract k (nmE s k signed))] w (Tells an w)) :
    Calls Tryd.prog 86 #[.pointer (some ⟨b, 0, none⟩), .bool signed] w fun e w' => e = .returned (.tuple #[.int .i64 an.1, .int .i64 an.2]) ∧ Turned b w w' ∧ Rdr b s (if an.2 = 0 then nmE s k signed else k) w' := by
  have A := Lib.hid (fun w (hF : Follows w) => Scan_any s k signed w hs hk hF)
  have hs' : s.size ≤ 9223372036854775807 := hs
  have e1 : (wholeS (walkL (s.data.toList.drop k) (if signed then 1 else 2)).2) = nmW s k signed := rfl
  have e2 : (k + (walkL (s.data.toList.drop k) (if signed then 1 else 2)).1) = nmE s k signed := rfl
  rw [e1, e2, h] at A
  have P := Lib.hid hP
  unfold Tells at P
  have c0 := H.c0
  have c1 := H.c1
  have HR := Lib.hid H
  have HT := Lib.hid T
  have hE := (nmE_le s k signed hk)
  clear e1 e2 hs T H h hP
  generalize nmE s k signed = n at *
  have lt := HR.out.lt
  go_enter Tryd.func86, Tryd.ntmps86
  go_wp2_with fail
  go_region_held3 (fun w' => w'.cell? ⟨b, 0, none⟩ = some (.string s) ∧ w'.cell? ⟨b, 1, none⟩ = some (.int .i64 (k : Int))) (simp [go_sem, *])
    (first | (go_at_call 94; refine (A.out _ (by exact HT.out.tabs.follows)).mono ?_; rintro e wA ⟨rfl, rfl⟩))
  go_wp2_with fail
  have D1 := Lib.hid ((Below.refl w.heap.size w).drew)
  have R1 := Lib.hid (HR.out.next D1.out)
  have T1 := Lib.hid ((HT.out.next D1.out).next ((Below.refl w.drew.heap.size w.drew).drew))
  have k0 := R1.out.c0
  have k1 := R1.out.c1
  have lt1 := R1.out.lt
  generalize w.drew = w1 at *
  clear c0 c1 HT HR
  go_region_held3 (fun w' => w'.cell? ⟨b, 0, none⟩ = some (.string s) ∧ w'.cell? ⟨b, 1, none⟩ = some (.int .i64 (k : Int))) (simp [go_sem, *])
    (first | (go_at_call 95; (with_reducible refine (P.out _ T1.out.tabs).mono ?_); rintro e wB ⟨rfl, hbB⟩; have q0 := (hbB.cell (p := ⟨b, 0, none⟩) (by exact lt1)).trans (by exact k0); have q1 := (hbB.cell (p := ⟨b, 1, none⟩) (by exact lt1)).trans (by exact k1)))
  replace hbB : Below w1.heap.size w1 wB := Below.trans (b := w1.drew) ((Below.refl w1.heap.size w1).drew) hbB
  have R2 := Lib.hid (R1.out.next hbB)
  have B2 := Lib.hid (Turned.of_below (b := b) (D1.out.trans (hbB.mono D1.out.size)))
  have z2 := R2.out.z1
  clear hbB k0 k1 D1 T1 R1 lt1
  obtain ⟨v, er⟩ := an
  by_cases h0 : er = 0
  · subst h0
    go_wp2_with fail
    go_ret2
    exact ⟨rfl, B2.out.set 1 _, R2.out.set⟩
  · have e0 : (er == 0) = false := by rw [beq_eq_false_iff_ne]; exact h0
    go_wp2_with fail
    go_ret2
    exact ⟨rfl, B2.out, R2.out⟩

/-- What Number answers, and where the reader is then, by what Parse tells. -/
def numX (s : ByteArray) (k : Nat) (signed : Bool) (an : Int × Int) : Int × Int × Nat :=
  if nmW s k signed = true then (an.1, an.2, if an.2 = 0 then nmE s k signed else k) else (0, 3, nmE s k signed)
def NumPost (b : Nat) (s : ByteArray) (x : Int × Int × Nat) (w : World) (e : Ending) (w' : World) : Prop := e = .returned (.tuple #[.int .i64 x.1, .int .i64 x.2.1]) ∧ Turned b w w' ∧ Rdr b s x.2.2 w'
theorem number_x (b : Nat) (s : ByteArray) (k : Nat) (signed : Bool) (an : Int × Int) (w : World) (H : Rdr b s k w) (hs : s.size ≤ maxLen) (hk : k ≤ s.size) (T : STabs w)
    (hP : ∀ w, Tabs w → Calls Tryd.prog 95 #[.string (s.extract k (nmE s k signed))] w (Tells an w)) :
    Calls Tryd.prog 86 #[.pointer (some ⟨b, 0, none⟩), .bool signed] w (NumPost b s (numX s k signed an) w) := by
  unfold numX NumPost
  by_cases hW : nmW s k signed = true
  · rw [if_pos hW]
    exact Number_ok b s k signed an w H hs hk T hW hP
  · rw [if_neg hW]
    exact Number_bad b s k signed w H hs hk T (by simpa using hW)
/-- Of a number the reader goes on, of one that is too great it stays. -/
structure NumOk (s : ByteArray) (k : Nat) (x : Int × Int × Nat) : Prop where
  lo : k ≤ x.2.2
  hi : x.2.2 ≤ s.size
  er : x.2.1 = 0 ∨ x.2.1 = 2 ∨ x.2.1 = 3
  ok : x.2.1 = 0 → k < x.2.2
  great : x.2.1 = 2 → x.2.2 = k
theorem walk_none (l : List UInt8) (st : Nat) (h : (walkL l st).1 = 0) : (walkL l st).2 = st := by
  cases l with
  | nil => rfl
  | cons b t =>
    unfold walkL at h ⊢
    split
    · rfl
    · rename_i hn
      rw [if_neg hn] at h
      simp at h
theorem nmW_lt (s : ByteArray) (k : Nat) (signed : Bool) (h : nmW s k signed = true) : k < nmE s k signed := by
  refine Nat.lt_of_not_le fun hn => ?_
  unfold nmE wk at hn
  have h0 : (walkL (s.data.toList.drop k) (if signed then 1 else 2)).1 = 0 := by
    generalize (walkL (s.data.toList.drop k) (if signed then 1 else 2)).1 = q at *
    omega
  have := walk_none _ _ h0
  unfold nmW wk at h
  rw [this] at h
  cases signed <;> cases h
theorem numX_ok (s : ByteArray) (k : Nat) (signed : Bool) (an : Int × Int) (hk : k ≤ s.size) (h : an.2 = 0 ∨ (an.1 = 0 ∧ (an.2 = 2 ∨ an.2 = 3))) : NumOk s k (numX s k signed an) := by
  have hE := nmE_le s k signed hk
  unfold numX
  by_cases hW : nmW s k signed = true
  · rw [if_pos hW]
    have hl := nmW_lt s k signed hW
    by_cases h0 : an.2 = 0
    · simp only [h0, if_true]
      exact ⟨hE.1, hE.2, Or.inl rfl, fun _ => hl, fun h => by cases h⟩
    · simp only [h0, if_false]
      refine ⟨Nat.le_refl _, hk, ?_, fun h => absurd h h0, fun _ => rfl⟩
      rcases h with h | h
      · exact absurd h h0
      · exact Or.inr h.2
  · rw [if_neg hW]
    exact ⟨hE.1, hE.2, Or.inr (Or.inr rfl), (fun h => by cases h), (fun h => by cases h)⟩
theorem ansF_ok (s a b : List UInt8) (x : Expo) : (ansF s a b x).2 = 0 ∨ ((ansF s a b x).1 = 0 ∧ ((ansF s a b x).2 = 2 ∨ (ansF s a b x).2 = 3)) := by
  unfold ansF ansV
  split
  · exact Or.inl rfl
  · exact Or.inr ⟨rfl, Or.inl rfl⟩
/-- Number, of whatever text. -/
theorem number_any (s : ByteArray) (k : Nat) (signed : Bool) (hs : s.size ≤ 100000) (hk : k ≤ s.size) : ∃ x : Int × Int × Nat, NumOk s k x ∧
    (∀ b w, Rdr b s k w → STabs w → Calls Tryd.prog 86 #[.pointer (some ⟨b, 0, none⟩), .bool signed] w (NumPost b s x w)) := by
  have hE := nmE_le s k signed hk
  have hz : (s.extract k (nmE s k signed)).size ≤ 100000 := by simp; omega
  have hm : s.size ≤ maxLen := by unfold maxLen; omega
  obtain ⟨an, h1, h2⟩ : ∃ an : Int × Int, (an.2 = 0 ∨ (an.1 = 0 ∧ (an.2 = 2 ∨ an.2 = 3))) ∧ (∀ w, Tabs w → Calls Tryd.prog 95 #[.string (s.extract k (nmE s k signed))] w (Tells an w)) := by
    generalize s.extract k (nmE s k signed) = u at *
    by_cases h : Acc u.data.toList 1
    · obtain ⟨sg', a, pt, b, x, hn⟩ := acc1 _ h
      exact ⟨ansF sg' a b x, ansF_ok _ _ _ _, fun w T => Parse_num u sg' a pt b x w hz T hn⟩
    · exact ⟨(0, 3), Or.inr ⟨rfl, Or.inr rfl⟩, fun w T => Parse_bad u w hz T h⟩
  exact ⟨numX s k signed an, numX_ok s k signed an hk h1, fun b w H T => number_x b s k signed an w H hm hk T h2⟩
end Go.Proofs.YtgiibcnakiggaaaDoor
