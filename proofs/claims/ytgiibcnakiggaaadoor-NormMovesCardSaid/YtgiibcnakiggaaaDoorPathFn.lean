/-
  The contracts of package path's small calls: lookUp, opens, behind, isFlag, fits, Count.
-/
import Derived.Test.YtgiibcnakiggaaaDoorJScan
import Derived.Test.YtgiibcnakiggaaaDoorJMath
import Derived.Lib.Bytealg
namespace Go.Proofs.YtgiibcnakiggaaaDoor
open Go.RowKit Go.Shelf

set_option maxRecDepth 100000 in
/-- IndexByte, of any text. -/
theorem indexByte_any (s : ByteArray) (c : Int) (w : World) :
    Calls Tryd.prog 76 #[.string s, .int .u8 c] w fun e w' => e = .returned (.int .i64 (Lib.indexByte s.data.toList c.toNat.toUInt8)) ∧ w = w' := by
  have H : ∀ w, Calls Tryd.prog 93 #[.string s, .int .u8 c] w fun e w' => e = .returned (.int .i64 (Lib.indexByte s.data.toList c.toNat.toUInt8)) ∧ w = w' := by
    intro w
    go_enter Tryd.func93, Tryd.ntmps93
    go_wp2
    rw [run_callFunc_extern Tryd.func99 (by kernel_rfl) (by kernel_rfl) (by kernel_rfl) (e := Extern.BytealgIndexByte.indexByte) (by kernel_rfl), Lib.run_indexByteString, Result.andThen, Oper.upon_value]
    go_wp2
    go_ret
    exact ⟨rfl, rfl⟩
  go_enter Tryd.func76, Tryd.ntmps76
  go_wp2_with fail
  refine (H _).mono ?_
  rintro e w1 ⟨rfl, rfl⟩
  go_wp2_with fail
  go_ret
  exact ⟨rfl, rfl⟩

/-- The table's letters and kinds. -/
def letR : Nat → ByteArray
  | 0 => ⟨#[77, 109, 76, 108, 84, 116]⟩
  | 1 => ⟨#[72, 104, 86, 118]⟩
  | 2 => ⟨#[67, 99]⟩
  | 3 => ⟨#[83, 115, 81, 113]⟩
  | 4 => ⟨#[65, 97]⟩
  | 5 => ⟨#[90, 122]⟩
  | _ => ⟨#[]⟩
def kinR : Nat → ByteArray
  | 0 => ⟨#[110, 110]⟩
  | 1 => ⟨#[110]⟩
  | 2 => ⟨#[110, 110, 110, 110, 110, 110]⟩
  | 3 => ⟨#[110, 110, 110, 110]⟩
  | 4 => ⟨#[114, 114, 110, 70, 102, 110, 110]⟩
  | _ => ⟨#[]⟩
def hitR (i c : Nat) : Bool := decide (0 ≤ Lib.indexByte (letR i).data.toList c.toUInt8)
/-- The row of a letter; 6: none. -/
def rowR (c : Nat) : Nat := if hitR 0 c then 0 else if hitR 1 c then 1 else if hitR 2 c then 2 else if hitR 3 c then 3 else if hitR 4 c then 4 else if hitR 5 c then 5 else 6
/-- The kinds of a letter's arguments. -/
def kinL (c : Nat) : ByteArray := kinR (rowR c)
def knownL (c : Nat) : Bool := decide (cntL c ≠ 99)
theorem row_table : ∀ c : Fin 256, (decide (rowR c < 6) = knownL c) ∧ (cntL c ≠ 99 → (kinL c).size = cntL c) ∧ (decide (rowR c = 4) = isArc c) ∧ (cntL c = 99 → kinL c = ⟨#[]⟩) ∧ (rowR c ≠ 4 → ∀ k : Fin 10, (hk : k.1 < (kinL c).size) → (kinL c)[k.1] = 110) := by decide +kernel
theorem row_known {c : Nat} (hc : c < 256) : decide (rowR c < 6) = knownL c := (row_table ⟨c, hc⟩).1
theorem kin_size {c : Nat} (hc : c < 256) (h : cntL c ≠ 99) : (kinL c).size = cntL c := (row_table ⟨c, hc⟩).2.1 h
theorem kin_none {c : Nat} (hc : c < 256) (h : cntL c = 99) : kinL c = ⟨#[]⟩ := (row_table ⟨c, hc⟩).2.2.2.1 h
theorem kin_arc {c : Nat} (hc : c < 256) (h : isArc c = true) : kinL c = ⟨#[114, 114, 110, 70, 102, 110, 110]⟩ := by
  have := (row_table ⟨c, hc⟩).2.2.1
  rw [show isArc ((⟨c, hc⟩ : Fin 256) : Nat) = true from h] at this
  unfold kinL
  rw [show rowR c = 4 from by simpa using this]
  rfl
theorem cnt_le (c : Nat) : cntL c ≤ 7 ∨ cntL c = 99 := by
  unfold cntL
  split
  · left; omega
  split
  · left; omega
  split
  · left; omega
  split
  · left; omega
  split
  · left; omega
  split
  · left; omega
  right; rfl
theorem kin_plain {c : Nat} (hc : c < 256) (h : isArc c = false) {k : Nat} (hk : k < (kinL c).size) : (kinL c)[k] = 110 := by
  have A := (row_table ⟨c, hc⟩).2.2.1
  have hr : rowR c ≠ 4 := by
    intro e
    rw [show isArc ((⟨c, hc⟩ : Fin 256) : Nat) = false from h] at A
    simp [e] at A
  have hs : (kinL c).size ≤ 7 := by
    by_cases h9 : cntL c = 99
    · rw [kin_none hc h9]; decide
    · rw [kin_size hc h9]; have := cnt_le c; omega
  exact (row_table ⟨c, hc⟩).2.2.2.2 hr ⟨k, by omega⟩ hk

/-- The table lies in memory as its text says. -/
def Rws (w : World) : Prop := ∀ i : Nat, i < 6 → w.cell? ⟨0, 2 * i, none⟩ = some (.string (letR i)) ∧ w.cell? ⟨0, 2 * i + 1, none⟩ = some (.string (kinR i))

set_option maxRecDepth 100000 in
set_option maxHeartbeats 1000000 in
theorem lookUp_any (c : Nat) (hc : c < 256) (w : World) (T : Rws w) :
    Calls Tryd.prog 49 #[.int .u8 (c : Int)] w fun e w' => e = .returned (.tuple #[.string (kinL c), .bool (knownL c)]) ∧ Below w.heap.size w w' := by
  have I := Lib.hid (fun s w => indexByte_any s (c : Int) w)
  have HK := Lib.hid (row_known hc)
  obtain ⟨a0, b0⟩ := T 0 (by decide)
  obtain ⟨a1, b1⟩ := T 1 (by decide)
  obtain ⟨a2, b2⟩ := T 2 (by decide)
  obtain ⟨a3, b3⟩ := T 3 (by decide)
  obtain ⟨a4, b4⟩ := T 4 (by decide)
  obtain ⟨a5, b5⟩ := T 5 (by decide)
  simp only [Nat.reduceMul, Nat.reduceAdd] at a0 a1 a2 a3 a4 a5 b0 b1 b2 b3 b4 b5
  clear T
  have x0 : ∀ W, Sem.run Tryd.prog (Instr.index 115 (Value.agg #[.string (letR 0), .string (kinR 0), .string (letR 1), .string (kinR 1), .string (letR 2), .string (kinR 2), .string (letR 3), .string (kinR 3), .string (letR 4), .string (kinR 4), .string (letR 5), .string (kinR 5)]) (.int .i64 0)) W = .ok (.agg #[.string (letR 0), .string (kinR 0)]) W := fun _ => by kernel_rfl
  have x1 : ∀ W, Sem.run Tryd.prog (Instr.index 115 (Value.agg #[.string (letR 0), .string (kinR 0), .string (letR 1), .string (kinR 1), .string (letR 2), .string (kinR 2), .string (letR 3), .string (kinR 3), .string (letR 4), .string (kinR 4), .string (letR 5), .string (kinR 5)]) (.int .i64 1)) W = .ok (.agg #[.string (letR 1), .string (kinR 1)]) W := fun _ => by kernel_rfl
  have x2 : ∀ W, Sem.run Tryd.prog (Instr.index 115 (Value.agg #[.string (letR 0), .string (kinR 0), .string (letR 1), .string (kinR 1), .string (letR 2), .string (kinR 2), .string (letR 3), .string (kinR 3), .string (letR 4), .string (kinR 4), .string (letR 5), .string (kinR 5)]) (.int .i64 2)) W = .ok (.agg #[.string (letR 2), .string (kinR 2)]) W := fun _ => by kernel_rfl
  have x3 : ∀ W, Sem.run Tryd.prog (Instr.index 115 (Value.agg #[.string (letR 0), .string (kinR 0), .string (letR 1), .string (kinR 1), .string (letR 2), .string (kinR 2), .string (letR 3), .string (kinR 3), .string (letR 4), .string (kinR 4), .string (letR 5), .string (kinR 5)]) (.int .i64 3)) W = .ok (.agg #[.string (letR 3), .string (kinR 3)]) W := fun _ => by kernel_rfl
  have x4 : ∀ W, Sem.run Tryd.prog (Instr.index 115 (Value.agg #[.string (letR 0), .string (kinR 0), .string (letR 1), .string (kinR 1), .string (letR 2), .string (kinR 2), .string (letR 3), .string (kinR 3), .string (letR 4), .string (kinR 4), .string (letR 5), .string (kinR 5)]) (.int .i64 4)) W = .ok (.agg #[.string (letR 4), .string (kinR 4)]) W := fun _ => by kernel_rfl
  have x5 : ∀ W, Sem.run Tryd.prog (Instr.index 115 (Value.agg #[.string (letR 0), .string (kinR 0), .string (letR 1), .string (kinR 1), .string (letR 2), .string (kinR 2), .string (letR 3), .string (kinR 3), .string (letR 4), .string (kinR 4), .string (letR 5), .string (kinR 5)]) (.int .i64 5)) W = .ok (.agg #[.string (letR 5), .string (kinR 5)]) W := fun _ => by kernel_rfl
  go_enter Tryd.func49, Tryd.ntmps49
  go_wp2_with fail
  go_loopw [7] (fun v wr => ∃ i : Nat, v = .int .i64 (i : Int) ∧ i ≤ 6 ∧ (∀ j, j < i → hitR j c = false) ∧ Below w.heap.size w wr) (fun v _ => 6 - (intOf v).toNat)
  case atStart => exact ⟨0, rfl, by decide, fun j hj => absurd hj (by omega), Below.refl _ _⟩
  case round =>
    obtain ⟨i, rfl, hi, hm, hb⟩ := hrel
    by_cases h6 : i = 6
    · subst h6
      have e : kinL c = ⟨#[]⟩ ∧ knownL c = false := by
        unfold kinL
        rw [← HK.out]
        have : rowR c = 6 := by unfold rowR; rw [hm 0 (by decide), hm 1 (by decide), hm 2 (by decide), hm 3 (by decide), hm 4 (by decide), hm 5 (by decide)]; rfl
        rw [this]; exact ⟨rfl, by decide⟩
      have E := Lib.hid e
      clear hm HK e
      go_wp2_with fail
      go_ret2
      exact ⟨by rw [E.out.1, E.out.2]; rfl, hb⟩
    · have hi' : i = 0 ∨ i = 1 ∨ i = 2 ∨ i = 3 ∨ i = 4 ∨ i = 5 := by omega
      by_cases hh : hitR i c = true
      · have e : rowR c = i := by
          unfold rowR
          rcases hi' with rfl | rfl | rfl | rfl | rfl | rfl <;> simp [hm, hh]
        have e2 : kinL c = kinR i ∧ knownL c = true := by
          unfold kinL
          rw [← HK.out, e]; exact ⟨rfl, by simp; omega⟩
        have E := Lib.hid e2
        have hp : 0 ≤ Lib.indexByte (letR i).data.toList (UInt8.ofNat c) := by simpa [hitR] using hh
        clear hm HK e e2 hh
        rcases hi' with rfl | rfl | rfl | rfl | rfl | rfl
        all_goals
          go_wp2_with fail
          refine (I.out _ _).mono ?_
          rintro e w1 ⟨rfl, rfl⟩
          go_wp2_with fail
          go_ret2
          exact ⟨by rw [E.out.1, E.out.2]; rfl, hb.alloc hb.size _⟩
      · have hp : ¬ 0 ≤ Lib.indexByte (letR i).data.toList (UInt8.ofNat c) := by simpa [hitR] using hh
        have hm2 : ∀ j, j < i + 1 → hitR j c = false := fun j hj => by
          rcases Nat.lt_succ_iff_lt_or_eq.1 hj with h | rfl
          · exact hm j h
          · simpa using hh
        have HM := Lib.hid hm2
        clear hm HK hh hm2
        rcases hi' with rfl | rfl | rfl | rfl | rfl | rfl
        all_goals
          go_wp2_with fail
          refine (I.out _ _).mono ?_
          rintro e w1 ⟨rfl, rfl⟩
          go_wp2_with fail
          go_roundw
          case rel => exact ⟨_, rfl, by decide, HM.out, hb.alloc hb.size _⟩
          case measure => decide

def opensL (c : Nat) : Bool := c == 77 || c == 109
theorem opens_any (c : Nat) (w : World) : Calls Tryd.prog 64 #[.int .u8 (c : Int)] w fun e w' => e = .returned (.bool (opensL c)) ∧ w = w' := by
  unfold opensL
  by_cases h1 : c = 77
  · subst h1
    go_enter Tryd.func64, Tryd.ntmps64
    go_wp2_with fail
    go_ret
    exact ⟨rfl, rfl⟩
  · have e1 : ((c : Int) == 77) = false := by rw [beq_eq_false_iff_ne]; omega
    have f1 : (c == 77) = false := by rw [beq_eq_false_iff_ne]; exact h1
    by_cases h2 : c = 109
    · subst h2
      go_enter Tryd.func64, Tryd.ntmps64
      go_wp2_with fail
      go_ret
      exact ⟨rfl, rfl⟩
    · have e2 : ((c : Int) == 109) = false := by rw [beq_eq_false_iff_ne]; omega
      have f2 : (c == 109) = false := by rw [beq_eq_false_iff_ne]; exact h2
      go_enter Tryd.func64, Tryd.ntmps64
      go_wp2_with fail
      go_ret
      exact ⟨by rw [f1, f2]; rfl, rfl⟩
theorem behind_any (c : Nat) (w : World) : Calls Tryd.prog 45 #[.int .u8 (c : Int)] w fun e w' => e = .returned (.int .u8 (nextL c : Int)) ∧ w = w' := by
  have O := Lib.hid (fun w => opens_any c w)
  unfold opensL at O
  unfold nextL
  by_cases h1 : c = 77
  · subst h1
    go_enter Tryd.func45, Tryd.ntmps45
    go_wp2_with fail
    refine (O.out _).mono ?_
    rintro e w1 ⟨rfl, rfl⟩
    go_wp2_with fail
    go_ret
    exact ⟨rfl, rfl⟩
  · by_cases h2 : c = 109
    · subst h2
      go_enter Tryd.func45, Tryd.ntmps45
      go_wp2_with fail
      refine (O.out _).mono ?_
      rintro e w1 ⟨rfl, rfl⟩
      go_wp2_with fail
      go_ret
      exact ⟨rfl, rfl⟩
    · rw [show (c == 77 || c == 109) = false from by simp [h1, h2]] at O
      rw [if_neg h1, if_neg h2]
      clear h1 h2
      go_enter Tryd.func45, Tryd.ntmps45
      go_wp2_with fail
      refine (O.out _).mono ?_
      rintro e w1 ⟨rfl, rfl⟩
      go_wp2_with fail
      go_ret
      exact ⟨rfl, rfl⟩
def flagK (k : Nat) : Bool := k == 102 || k == 70
theorem isFlag_any (k : Nat) (w : World) : Calls Tryd.prog 84 #[.int .u8 (k : Int)] w fun e w' => e = .returned (.bool (flagK k)) ∧ w = w' := by
  unfold flagK
  by_cases h1 : k = 102
  · subst h1
    go_enter Tryd.func84, Tryd.ntmps84
    go_wp2_with fail
    go_ret
    exact ⟨rfl, rfl⟩
  · have e1 : ((k : Int) == 102) = false := by rw [beq_eq_false_iff_ne]; omega
    have f1 : (k == 102) = false := by rw [beq_eq_false_iff_ne]; exact h1
    by_cases h2 : k = 70
    · subst h2
      go_enter Tryd.func84, Tryd.ntmps84
      go_wp2_with fail
      go_ret
      exact ⟨rfl, rfl⟩
    · have e2 : ((k : Int) == 70) = false := by rw [beq_eq_false_iff_ne]; omega
      have f2 : (k == 70) = false := by rw [beq_eq_false_iff_ne]; exact h2
      go_enter Tryd.func84, Tryd.ntmps84
      go_wp2_with fail
      go_ret
      exact ⟨by rw [f1, f2]; rfl, rfl⟩
theorem Count_any (c : Nat) (hc : c < 256) (w : World) (T : Rws w) :
    Calls Tryd.prog 67 #[.int .u8 (c : Int)] w fun e w' => e = .returned (.int .i64 (if cntL c = 99 then -1 else (cntL c : Int))) ∧ Below w.heap.size w w' := by
  have L := Lib.hid (lookUp_any c hc w T)
  by_cases h : cntL c = 99
  · rw [if_pos h]
    rw [show knownL c = false from by unfold knownL; simp [h]] at L
    clear T h
    generalize kinL c = ks at *
    go_enter Tryd.func67, Tryd.ntmps67
    go_wp2_with fail
    refine L.out.mono ?_
    rintro e w1 ⟨rfl, b1⟩
    have B1 := Lib.hid b1
    clear b1
    go_wp2_with fail
    go_ret
    exact ⟨rfl, B1.out⟩
  · rw [if_neg h]
    rw [show knownL c = true from by unfold knownL; simp [h]] at L
    have hk := Lib.hid (kin_size hc h)
    clear T h
    generalize kinL c = ks at *
    go_enter Tryd.func67, Tryd.ntmps67
    go_wp2_with fail
    refine L.out.mono ?_
    rintro e w1 ⟨rfl, b1⟩
    have B1 := Lib.hid b1
    clear b1
    go_wp2_with fail
    go_ret
    exact ⟨by rw [hk.out]; rfl, B1.out⟩
end Go.Proofs.YtgiibcnakiggaaaDoor
