/-
  The contracts of package scan's small calls: New, At, Left, Peek, take, Skip, blank.
-/
import Derived.Test.YtchngbdkgfjpcaaDoorDecScan
import Derived.Test.YtchngbdkgfjpcaaDoorJMath
namespace Go.Proofs.YtchngbdkgfjpcaaDoor
open Go.RowKit Go.Shelf

/-- Of the world nothing that was there has turned, but for block b. -/
structure Turned (b : Nat) (w w' : World) : Prop where
  os : w'.os = w.os
  tape : w'.tape = w.tape
  output : w'.output = w.output
  size : w.heap.size ≤ w'.heap.size
  block : ∀ k, k < w.heap.size → k ≠ b → w'.heap[k]? = w.heap[k]?
theorem Turned.refl (b : Nat) (w : World) : Turned b w w := ⟨rfl, rfl, rfl, Nat.le_refl _, fun _ _ _ => rfl⟩
theorem Turned.trans {b : Nat} {u v w : World} (h : Turned b u v) (k : Turned b v w) : Turned b u w :=
  ⟨k.os.trans h.os, k.tape.trans h.tape, k.output.trans h.output, Nat.le_trans h.size k.size, fun i hi hn => (k.block i (Nat.lt_of_lt_of_le hi h.size) hn).trans (h.block i hi hn)⟩
theorem Turned.drew {b : Nat} {u w : World} (h : Turned b u w) : Turned b u w.drew := ⟨h.os, h.tape, h.output, h.size, h.block⟩
theorem Turned.set {b : Nat} {u w : World} (h : Turned b u w) (o : Nat) (v : Value) : Turned b u (w.setCell ⟨b, o, none⟩ v) :=
  h.trans ⟨rfl, rfl, rfl, by simp [World.setCell], fun k _ hn => Below.heap_setCell _ _ _ _ hn⟩
theorem Turned.alloc {b : Nat} {u w : World} (h : Turned b u w) (o : Obj) : Turned b u (w.alloc o) :=
  h.trans ⟨rfl, rfl, rfl, by simp, fun k hk _ => Below.heap_alloc _ _ _ hk⟩
theorem Turned.setNew {b q : Nat} {u w : World} (h : Turned b u w) (hq : u.heap.size ≤ q) (o : Nat) (v : Value) : Turned b u (w.setCell ⟨q, o, none⟩ v) :=
  ⟨h.os, h.tape, h.output, by have := h.size; simpa [World.setCell] using this, fun k hk hn => (Below.heap_setCell _ _ _ _ (by show k ≠ q; omega)).trans (h.block k hk hn)⟩
theorem Turned.of_below {b : Nat} {w w' : World} (h : Below w.heap.size w w') : Turned b w w' := ⟨h.os, h.tape, h.output, h.size, fun k hk _ => h.block k hk⟩
theorem Turned.below {b B : Nat} {w w' : World} (t : Turned b w w') (h : B ≤ b) (hB : B ≤ w.heap.size) : Below B w w' :=
  ⟨t.os, t.tape, t.output, t.size, fun k hk => t.block k (by omega) (by omega)⟩

theorem drewq (w : World) (n : Nat) : Below w.heap.size w (w.drewN n) :=
  have h := Below.refl w.heap.size w
  ⟨h.os, h.tape, h.output, h.size, h.block⟩

/-- Block b is a reader of the text s at the place k. -/
def Rdr (b : Nat) (s : ByteArray) (k : Nat) (w : World) : Prop := w.heap[b]? = some (.cells #[.string s, .int .i64 (k : Int)] 83)
theorem Rdr.lt {b : Nat} {s : ByteArray} {k : Nat} {w : World} (H : Rdr b s k w) : b < w.heap.size := by
  unfold Rdr at H; exact (Array.getElem?_eq_some_iff.1 H).1
theorem Rdr.c0 {b : Nat} {s : ByteArray} {k : Nat} {w : World} (H : Rdr b s k w) : w.cell? ⟨b, 0, none⟩ = some (.string s) := by
  unfold Rdr at H; simp [World.cell?, H]
theorem Rdr.c1 {b : Nat} {s : ByteArray} {k : Nat} {w : World} (H : Rdr b s k w) : w.cell? ⟨b, 1, none⟩ = some (.int .i64 (k : Int)) := by
  unfold Rdr at H; simp [World.cell?, H]
theorem Rdr.z1 {b : Nat} {s : ByteArray} {k : Nat} {w : World} (H : Rdr b s k w) : w.frozen? ⟨b, 1, none⟩ = false := by
  unfold Rdr at H; simp [World.frozen?, H]
theorem Rdr.set {b : Nat} {s : ByteArray} {k j : Nat} {w : World} (H : Rdr b s k w) : Rdr b s j (w.setCell ⟨b, 1, none⟩ (.int .i64 (j : Int))) := by
  unfold Rdr at *
  simp only [World.setCell, Array.getElem?_modify, H]
  simp
theorem Rdr.drew {b : Nat} {s : ByteArray} {k : Nat} {w : World} (H : Rdr b s k w) : Rdr b s k w.drew := H
theorem Rdr.below {b B : Nat} {s : ByteArray} {k : Nat} {w w' : World} (H : Rdr b s k w) (t : Below B w w') (hn : b < B) : Rdr b s k w' := by
  unfold Rdr at *
  rw [t.block b hn]; exact H
theorem Rdr.next {b : Nat} {s : ByteArray} {k : Nat} {w w' : World} (H : Rdr b s k w) (t : Below w.heap.size w w') : Rdr b s k w' := H.below t H.lt
theorem Rdr.new (w : World) (s : ByteArray) : Rdr w.heap.size s 0 (w.alloc (.cells #[.string s, .int .i64 0] 83)) := by
  show (w.heap.push _)[w.heap.size]? = _
  rw [Array.getElem?_push, if_pos rfl]; rfl

theorem New_any (s : ByteArray) (w : World) : Calls Tryd.prog 36 #[.string s] w fun e w' => e = .returned (.pointer (some ⟨w.heap.size, 0, none⟩)) ∧ Rdr w.heap.size s 0 w' ∧ Below w.heap.size w w' := by
  have R := Lib.hid (Rdr.new w s)
  have B := Lib.hid ((Below.refl w.heap.size w).alloc (Nat.le_refl _) (.cells #[.string s, .int .i64 0] 83))
  go_enter Tryd.func36, Tryd.ntmps36
  go_wp2_with fail
  go_ret
  exact ⟨rfl, R.out, B.out⟩
theorem At_any (b : Nat) (s : ByteArray) (k : Nat) (w : World) (H : Rdr b s k w) : Calls Tryd.prog 43 #[.pointer (some ⟨b, 0, none⟩)] w fun e w' => e = .returned (.int .i64 (k : Int)) ∧ w = w' := by
  have c1 := H.c1
  clear H
  go_enter Tryd.func43, Tryd.ntmps43
  go_wp2_with fail
  go_ret
  exact ⟨rfl, rfl⟩
theorem Left_any (b : Nat) (s : ByteArray) (k : Nat) (w : World) (H : Rdr b s k w) (hs : s.size ≤ maxLen) (hk : k ≤ s.size) : Calls Tryd.prog 38 #[.pointer (some ⟨b, 0, none⟩)] w fun e w' => e = .returned (.int .i64 ((s.size - k : Nat) : Int)) ∧ Below w.heap.size w w' ∧ Rdr b s k w' := by
  have c0 := H.c0
  have c1 := H.c1
  have HR := Lib.hid H
  have hs' : s.size ≤ 9223372036854775807 := hs
  have e : IntKind.i64.wrap ((s.size : Int) - (k : Int)) = ((s.size - k : Nat) : Int) := by rw [IntWalk.i64_in _ (by omega)]; omega
  clear H hs hs'
  go_enter Tryd.func38, Tryd.ntmps38
  go_wp2_with fail
  go_quiet (fail)
  go_wp2_with fail
  go_ret
  have d := drewq w nq
  exact ⟨rfl, d, HR.out.next d⟩

/-- The byte at a place, 0 at the end. -/
def pk (s : ByteArray) (k : Nat) : Nat := if h : k < s.size then s[k].toNat else 0
theorem pk_in {s : ByteArray} {k : Nat} (h : k < s.size) : pk s k = s[k].toNat := dif_pos h
theorem pk_out {s : ByteArray} {k : Nat} (h : ¬ k < s.size) : pk s k = 0 := dif_neg h
theorem pk_lt (s : ByteArray) (k : Nat) : pk s k < 256 := by
  unfold pk; split
  · exact UInt8.toNat_lt _
  · decide
def PeekPost (b : Nat) (s : ByteArray) (k : Nat) (w : World) (e : Ending) (w' : World) : Prop := e = .returned (.tuple #[.int .u8 (pk s k : Int), .bool (decide (k < s.size))]) ∧ Below w.heap.size w w' ∧ Rdr b s k w'
theorem Peek_any (b : Nat) (s : ByteArray) (k : Nat) (w : World) (H : Rdr b s k w) (hs : s.size ≤ maxLen) (hk : k ≤ s.size) : Calls Tryd.prog 52 #[.pointer (some ⟨b, 0, none⟩)] w (PeekPost b s k w) := by
  have c0 := H.c0
  have c1 := H.c1
  have HR := Lib.hid H
  have hs' : s.size ≤ 9223372036854775807 := hs
  clear H hs
  by_cases h : k < s.size
  · have hp := Lib.hid (pk_in h)
    have hq := Lib.hid (decide_eq_true h)
    have hne : ((k : Int) == (s.size : Int)) = false := by rw [beq_eq_false_iff_ne]; omega
    go_enter Tryd.func52, Tryd.ntmps52
    go_wp2_with fail
    go_quiet (fail)
    have d := Lib.hid (drewq w nq)
    have c0' := (d.out.cell (p := ⟨b, 0, none⟩) (by exact HR.out.lt)).trans c0
    have c1' := (d.out.cell (p := ⟨b, 1, none⟩) (by exact HR.out.lt)).trans c1
    have R' := Lib.hid (HR.out.next d.out)
    generalize w.drewN nq = w1 at *
    go_wp2_with fail
    go_quiet (fail)
    have d2 := Lib.hid (drewq w1 nq)
    have R2 := Lib.hid (R'.out.next d2.out)
    generalize w1.drewN nq = w2 at *
    go_wp2_with fail
    go_ret2
    exact ⟨by rw [hp.out, hq.out]; rfl, d.out.trans (d2.out.mono d.out.size), R2.out⟩
  · have hp := Lib.hid (pk_out h)
    have hq := Lib.hid (decide_eq_false h)
    have hne : ((k : Int) == (s.size : Int)) = true := by rw [beq_iff_eq]; omega
    go_enter Tryd.func52, Tryd.ntmps52
    go_wp2_with fail
    go_quiet (fail)
    have d := Lib.hid (drewq w nq)
    have R' := Lib.hid (HR.out.next d.out)
    generalize w.drewN nq = w1 at *
    go_wp2_with fail
    go_ret2
    exact ⟨by rw [hp.out, hq.out]; rfl, d.out, R'.out⟩

/-- One byte further, but not beyond the end. -/
def stp (s : ByteArray) (k : Nat) : Nat := if k < s.size then k + 1 else k
theorem stp_in {s : ByteArray} {k : Nat} (h : k < s.size) : stp s k = k + 1 := if_pos h
theorem stp_out {s : ByteArray} {k : Nat} (h : ¬ k < s.size) : stp s k = k := if_neg h
theorem stp_le {s : ByteArray} {k : Nat} (h : k ≤ s.size) : stp s k ≤ s.size ∧ k ≤ stp s k := by unfold stp; split <;> omega
def RTakePost (b : Nat) (s : ByteArray) (k : Nat) (w : World) (e : Ending) (w' : World) : Prop := e = .returned (.tuple #[.int .u8 (pk s k : Int), .bool (decide (k < s.size))]) ∧ Turned b w w' ∧ Rdr b s (stp s k) w'
theorem rtake_any (b : Nat) (s : ByteArray) (k : Nat) (w : World) (H : Rdr b s k w) (hs : s.size ≤ maxLen) (hk : k ≤ s.size) : Calls Tryd.prog 62 #[.pointer (some ⟨b, 0, none⟩)] w (RTakePost b s k w) := by
  have P := Lib.hid (Peek_any b s k w H hs hk)
  unfold PeekPost at P
  have hs' : s.size ≤ 9223372036854775807 := hs
  clear H hs
  by_cases h : k < s.size
  · have hq := Lib.hid (stp_in h)
    unfold RTakePost
    rw [hq.out]
    rw [decide_eq_true h] at P ⊢
    have e1 : IntKind.i64.wrap ((k : Int) + 1) = ((k + 1 : Nat) : Int) := by rw [IntWalk.i64_in _ (by omega)]; omega
    generalize pk s k = c at *
    go_enter Tryd.func62, Tryd.ntmps62
    go_wp2_with fail
    refine P.out.mono ?_
    rintro e w1 ⟨rfl, b1, R1⟩
    have HR := Lib.hid R1
    have c1 := R1.c1
    have z1 := R1.z1
    have B1 := Lib.hid b1
    clear R1 b1 P
    go_wp2_with fail
    go_ret2
    exact ⟨rfl, (Turned.of_below B1.out).set 1 _, HR.out.set⟩
  · have hq := Lib.hid (stp_out h)
    unfold RTakePost
    rw [hq.out]
    rw [decide_eq_false h] at P ⊢
    generalize pk s k = c at *
    go_enter Tryd.func62, Tryd.ntmps62
    go_wp2_with fail
    refine P.out.mono ?_
    rintro e w1 ⟨rfl, b1, R1⟩
    have HR := Lib.hid R1
    have B1 := Lib.hid b1
    clear R1 b1 P
    go_wp2_with fail
    go_ret2
    exact ⟨rfl, Turned.of_below B1.out, HR.out⟩
theorem Skip_any (b : Nat) (s : ByteArray) (k : Nat) (w : World) (H : Rdr b s k w) (hs : s.size ≤ maxLen) (hk : k ≤ s.size) : Calls Tryd.prog 54 #[.pointer (some ⟨b, 0, none⟩)] w fun e w' => e = .returned (.bool (decide (k < s.size))) ∧ Turned b w w' ∧ Rdr b s (stp s k) w' := by
  have P := Lib.hid (rtake_any b s k w H hs hk)
  unfold RTakePost at P
  clear H hs
  generalize pk s k = c at *
  generalize decide (k < s.size) = ok at *
  generalize stp s k = k' at *
  go_enter Tryd.func54, Tryd.ntmps54
  go_wp2_with fail
  refine P.out.mono ?_
  rintro e w1 ⟨rfl, b1, R1⟩
  have HR := Lib.hid R1
  have B1 := Lib.hid b1
  clear R1 b1 P
  go_wp2_with fail
  go_ret
  exact ⟨rfl, B1.out, HR.out⟩

/-- The table of blanks lies in memory as its text says. -/
def Blks (w : World) : Prop := ∀ i : Nat, i ≤ 32 → w.cell? ⟨1, i, none⟩ = some (.bool (isBlN i))
theorem blank_any (c : Nat) (w : World) (hc : c < 256) (T : Blks w) : Calls Tryd.prog 53 #[.int .u8 (c : Int)] w fun e w' => e = .returned (.bool (isBlN c)) ∧ w = w' := by
  have m1 : IntKind.i64.wrap (c : Int) = (c : Int) := IntWalk.i64_in _ (by omega)
  by_cases h : c ≤ 32
  · have hT := T c h
    clear T
    have h1 : (c : Int) < 33 := by omega
    generalize isBlN c = z at *
    go_enter Tryd.func53, Tryd.ntmps53
    go_wp2_with fail
    go_ret
    exact ⟨rfl, rfl⟩
  · have h1 : ¬ (c : Int) < 33 := by omega
    have h2 : isBlN c = false := by unfold isBlN; simp; omega
    rw [h2]
    clear T
    go_enter Tryd.func53, Tryd.ntmps53
    go_wp2_with fail
    go_ret
    exact ⟨rfl, rfl⟩

/-- Of the byte 0 or 1: its value, and one byte further. -/
def flg (s : ByteArray) (k : Nat) : Int × Int × Nat := if pk s k = 48 then (0, 0, k + 1) else if pk s k = 49 then (1, 0, k + 1) else (0, 3, k)
theorem Flag_any (b : Nat) (s : ByteArray) (k : Nat) (w : World) (H : Rdr b s k w) (hs : s.size ≤ maxLen) (hk : k ≤ s.size) : Calls Tryd.prog 64 #[.pointer (some ⟨b, 0, none⟩)] w fun e w' => e = .returned (.tuple #[.int .i64 (flg s k).1, .int .i64 (flg s k).2.1]) ∧ Turned b w w' ∧ Rdr b s (flg s k).2.2 w' := by
  have P := Lib.hid (Peek_any b s k w H hs hk)
  unfold PeekPost at P
  have hs' : s.size ≤ 9223372036854775807 := hs
  have hlt : k = s.size → pk s k = 0 := fun h => pk_out (by omega)
  have hl := pk_lt s k
  clear H hs
  unfold flg
  generalize pk s k = c at *
  generalize decide (k < s.size) = ok at *
  by_cases h0 : c = 48
  · subst h0
    have hk' : k < s.size := by omega
    have e1 : IntKind.i64.wrap ((k : Int) + 1) = ((k + 1 : Nat) : Int) := by rw [IntWalk.i64_in _ (by omega)]; omega
    go_enter Tryd.func64, Tryd.ntmps64
    go_wp2_with fail
    refine P.out.mono ?_
    rintro e w1 ⟨rfl, b1, R1⟩
    have HR := Lib.hid R1
    have c1 := R1.c1
    have z1 := R1.z1
    have B1 := Lib.hid b1
    clear R1 b1 P
    go_wp2_with fail
    go_ret2
    exact ⟨rfl, (Turned.of_below B1.out).set 1 _, HR.out.set⟩
  · rw [if_neg h0]
    by_cases h1 : c = 49
    · subst h1
      have hk' : k < s.size := by omega
      have e1 : IntKind.i64.wrap ((k : Int) + 1) = ((k + 1 : Nat) : Int) := by rw [IntWalk.i64_in _ (by omega)]; omega
      go_enter Tryd.func64, Tryd.ntmps64
      go_wp2_with fail
      refine P.out.mono ?_
      rintro e w1 ⟨rfl, b1, R1⟩
      have HR := Lib.hid R1
      have c1 := R1.c1
      have z1 := R1.z1
      have B1 := Lib.hid b1
      clear R1 b1 P
      go_wp2_with fail
      go_ret2
      exact ⟨rfl, (Turned.of_below B1.out).set 1 _, HR.out.set⟩
    · rw [if_neg h1]
      have e1 : ((c : Int) == 48) = false := by rw [beq_eq_false_iff_ne]; omega
      have e2 : ((c : Int) == 49) = false := by rw [beq_eq_false_iff_ne]; omega
      have e3 : ((c : Int) != 48) = true := by rw [bne, e1]; rfl
      have e4 : ((c : Int) != 49) = true := by rw [bne, e2]; rfl
      go_enter Tryd.func64, Tryd.ntmps64
      go_wp2_with fail
      refine P.out.mono ?_
      rintro e w1 ⟨rfl, b1, R1⟩
      have HR := Lib.hid R1
      have B1 := Lib.hid b1
      clear R1 b1 P
      go_wp2_with fail
      go_ret2
      exact ⟨rfl, Turned.of_below B1.out, HR.out⟩
end Go.Proofs.YtchngbdkgfjpcaaDoor
