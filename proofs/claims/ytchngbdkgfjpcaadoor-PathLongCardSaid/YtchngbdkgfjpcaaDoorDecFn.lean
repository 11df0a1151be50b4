/-
  The contracts of package dec's small functions: tenTo, rounded, isNegative, unsigned, powerOf, take.
-/
import Derived.Test.YtchngbdkgfjpcaaDoorShelf
import Derived.Test.YtchngbdkgfjpcaaDoorDecScan
import Derived.Test.YtchngbdkgfjpcaaDoorJMath
namespace Go.Proofs.YtchngbdkgfjpcaaDoor
open Go.RowKit Go.Shelf

def p10 (p : Nat) : Nat := 10 ^ p
theorem ret_int {k : IntKind} {a b : Int} (h : a = b) : Ending.returned (.int k a) = .returned (.int k b) := by rw [h]
theorem tenTo_any (p : Nat) (w : World) (h : p ≤ 18) : Calls Tryd.prog 107 #[.int .i64 (p : Int)] w fun e w' => e = .returned (.int .i64 (p10 p : Int)) ∧ w = w' := by
  go_enter Tryd.func107, Tryd.ntmps107
  go_wp2_with fail
  go_loop [3, 5] (fun n i => ∃ (k : Nat) (x : Int), k ≤ p ∧ i = .int .i64 (k : Int) ∧ n = .int .i64 x ∧ 0 ≤ x ∧ x ≤ 1000000000000000000 ∧ Hid (x = (p10 k : Int))) (fun _ i => p - (intOf i).toNat)
  case atStart => exact ⟨0, 1, by omega, rfl, rfl, by omega, by omega, rfl⟩
  case round =>
    obtain ⟨k, x, hk, rfl, rfl, h0, h1, hx⟩ := hrel
    by_cases hlt : k < p
    · have hb : x ≤ 100000000000000000 := by
        rw [hx.out]
        unfold p10
        have : (10 : Nat) ^ k ≤ 10 ^ 17 := Nat.pow_le_pow_right (by decide) (by omega)
        omega
      go_wp2_with fail
      go_round
      case rel => exact ⟨k + 1, x * 10, by omega, by go_num, rfl, by omega, by omega, by unfold Hid; rw [hx.out]; unfold p10; rw [Nat.pow_succ]; omega⟩
      case measure => simp [intOf]; omega
    · obtain rfl : k = p := by omega
      go_wp2_with fail
      go_ret
      exact ⟨ret_int hx.out, rfl⟩

theorem isNegative_any (s : ByteArray) (w : World) : Calls Tryd.prog 100 #[.string s] w fun e w' => e = .returned (.bool (Lib.hasPrefix s.data.toList [45])) ∧ w = w' := by
  have C := Any.strings_HasPrefix Tryd.lays99 s ⟨#[45]⟩ w
  change Calls Tryd.prog 108 _ _ (fun e w' => e = .returned (.bool (Lib.hasPrefix s.data.toList [45])) ∧ w' = w) at C
  have C' := Lib.hid C
  clear C
  generalize Lib.hasPrefix s.data.toList [45] = b at *
  go_enter Tryd.func100, Tryd.ntmps100
  go_wp2_with fail
  refine C'.out.mono ?_
  rintro e w1 ⟨rfl, rfl⟩
  go_wp2_with fail
  go_ret
  exact ⟨rfl, rfl⟩

theorem unsigned_any (s : ByteArray) (w : World) : Calls Tryd.prog 105 #[.string s] w fun e w' => e = .returned (.string ⟨(Lib.trimLeftS s.data.toList [43, 45]).toArray⟩) ∧ Below w.heap.size w w' := by
  have C := Any.strings_TrimLeft_laid Tryd.lays161 (by kernel_rfl) s ⟨#[43, 45]⟩ w (by decide) (ascii_of_all (by decide))
  change Calls Tryd.prog 113 _ _ (fun e w' => e = .returned (.string ⟨(Lib.trimLeftS s.data.toList [43, 45]).toArray⟩) ∧ Below w.heap.size w w') at C
  have C' := Lib.hid C
  clear C
  generalize (⟨(Lib.trimLeftS s.data.toList [43, 45]).toArray⟩ : ByteArray) = r at *
  go_enter Tryd.func105, Tryd.ntmps105
  go_wp2_with fail
  refine C'.out.mono ?_
  rintro e w1 ⟨rfl, b1⟩
  go_wp2_with fail
  go_ret
  exact ⟨rfl, b1⟩

/-- A power's digits, as far as they tell anything. -/
def powF : List UInt8 → Nat → Nat
  | [], n => n
  | b :: t, n => if n < 1125899906842624 then powF t (10 * n + dv b) else n
theorem powF_cons (b : UInt8) (t : List UInt8) (n : Nat) : powF (b :: t) n = if n < 1125899906842624 then powF t (10 * n + dv b) else n := rfl
theorem powF_stop (l : List UInt8) (n : Nat) (h : ¬ n < 1125899906842624) : powF l n = n := by
  cases l with
  | nil => rfl
  | cons b t => unfold powF; rw [if_neg h]

theorem dig_get {s : ByteArray} {k : Nat} (h : k < s.size) (hd : AllDig s.data.toList) : isDig s[k] = true := hd _ (by
  have : s[k] = s.data.toList[k]'(by simpa using h) := rfl
  rw [this]; exact List.getElem_mem _)
theorem dig_bd {b : UInt8} (h : isDig b = true) : 48 ≤ b.toNat ∧ b.toNat ≤ 57 := by
  unfold isDig at h; simpa using h

set_option maxHeartbeats 1000000 in
theorem powerOf_any (s ds : ByteArray) (w : World) (e : (⟨(Lib.trimLeftS s.data.toList [43, 45]).toArray⟩ : ByteArray) = ds) (hds : ds.size ≤ 100000) (hd : AllDig ds.data.toList) :
    Calls Tryd.prog 104 #[.string s] w fun e w' => e = .returned (.int .i64 (sg (Lib.hasPrefix s.data.toList [45]) (powF ds.data.toList 0))) ∧ Below w.heap.size w w' := by
  have A := Lib.hid (unsigned_any s w)
  rw [e] at A
  clear e
  have B := Lib.hid (fun w => isNegative_any s w)
  generalize Lib.hasPrefix s.data.toList [45] = neg at *
  have HD := Lib.hid hd
  clear hd
  go_enter Tryd.func104, Tryd.ntmps104
  go_wp2_with fail
  refine A.out.mono ?_
  rintro e w1 ⟨rfl, b1⟩
  have B1 := Lib.hid b1
  clear b1
  go_wp2_with fail
  go_loop [3, 5] (fun n i => ∃ (k : Nat) (x : Int) (N : Nat), k ≤ ds.size ∧ i = .int .i64 (k : Int) ∧ n = .int .i64 x ∧ 0 ≤ x ∧ x ≤ 11258999068426249 ∧ Hid (x = (N : Int) ∧ powF (ds.data.toList.drop k) N = powF ds.data.toList 0)) (fun _ i => ds.size - (intOf i).toNat)
  case atStart => exact ⟨0, 0, 0, by omega, rfl, rfl, by omega, by omega, ⟨rfl, rfl⟩⟩
  case round =>
    obtain ⟨k, x, N, hk, rfl, rfl, h0, h1, hx⟩ := hrel
    by_cases hlt : k < ds.size
    · have g := dig_bd (dig_get hlt HD.out)
      have g1 : (48 : Int) ≤ (ds[k].toNat : Int) := by omega
      have g2 : (ds[k].toNat : Int) ≤ 57 := by omega
      have HG := Lib.hid (show dv ds[k] = ds[k].toNat - 48 from rfl)
      have HC := Lib.hid (drop_cons ds k hlt)
      clear g
      by_cases hb : x < 1125899906842624
      · go_wp2_with fail
        go_round
        case rel => exact ⟨k + 1, 10 * x + ((ds[k].toNat : Int) - 48), 10 * N + dv ds[k], by omega, by go_num, rfl, by omega, by omega, ⟨by have := hx.out.1; have := HG.out; omega, by
          have e := hx.out.2
          rw [HC.out, powF_cons, if_pos (by have := hx.out.1; omega)] at e
          exact e⟩⟩
        case measure => simp [intOf]; omega
      · have HR := Lib.hid (show powF ds.data.toList 0 = N by rw [← hx.out.2]; exact powF_stop _ _ (by have := hx.out.1; omega))
        cases neg
        all_goals
          go_wp2_with fail
          refine (B.out _).mono ?_
          rintro e w2 ⟨rfl, rfl⟩
          go_wp2_with fail
          go_ret
          exact ⟨ret_int (by rw [HR.out, hx.out.1]; rfl), B1.out⟩
    · have HR := Lib.hid (show powF ds.data.toList 0 = N by rw [← hx.out.2, List.drop_of_length_le (by simp; omega)]; rfl)
      cases neg
      all_goals
        go_wp2_with fail
        refine (B.out _).mono ?_
        rintro e w2 ⟨rfl, rfl⟩
        go_wp2_with fail
        go_ret
        exact ⟨ret_int (by rw [HR.out, hx.out.1]; rfl), B1.out⟩

theorem round_pos (wh kp : Nat) (more : Bool) : ((wh : Int) * 2 * 65536 + (kp : Int) / 762939453125 + 1) / 2 = roundV false wh kp more := by
  unfold roundV halvesN
  have e : ((kp / 762939453125 : Nat) : Int) = (kp : Int) / 762939453125 := Int.natCast_ediv _ _
  rw [← e]
  generalize kp / 762939453125 = q at *
  simp; omega
theorem round_neg (wh kp : Nat) (more : Bool) (h : restB kp more = false) : -(((wh : Int) * 2 * 65536 + (kp : Int) / 762939453125) / 2) = roundV true wh kp more := by
  unfold roundV halvesN
  have e : ((kp / 762939453125 : Nat) : Int) = (kp : Int) / 762939453125 := Int.natCast_ediv _ _
  rw [← e, h]
  generalize kp / 762939453125 = q at *
  simp; omega
theorem round_up (wh kp : Nat) (more : Bool) (h : restB kp more = true) : -(((wh : Int) * 2 * 65536 + (kp : Int) / 762939453125 + 1) / 2) = roundV true wh kp more := by
  unfold roundV halvesN
  have e : ((kp / 762939453125 : Nat) : Int) = (kp : Int) / 762939453125 := Int.natCast_ediv _ _
  rw [← e, h]
  generalize kp / 762939453125 = q at *
  simp; omega

/-- rounded: what is made of the digits that are kept. -/
theorem rounded_any (wh kp : Nat) (more great neg : Bool) (w : World) (h1 : wh < 100000) (h2 : kp < 100000000000000000) :
    Calls Tryd.prog 99 #[.agg #[.int .i64 (wh : Int), .int .i64 (kp : Int), .bool more, .bool great], .bool neg] w fun e w' => e = .returned (.int .i64 (roundV neg wh kp more)) ∧ Below w.heap.size w w' := by
  have b0 : (0 : Int) ≤ (wh : Int) := by omega
  have b1 : (wh : Int) < 100000 := by omega
  have b2 : (0 : Int) ≤ (kp : Int) := by omega
  have b3 : (kp : Int) < 100000000000000000 := by omega
  have e0 : ((kp % 762939453125 : Nat) : Int) = (kp : Int) % 762939453125 := Int.natCast_emod _ _
  by_cases hz : (kp : Int) % 762939453125 = 0
  · have e1 : ((kp : Int) % 762939453125 != 0) = false := by simp [hz]
    have HR := Lib.hid (show restB kp more = more by unfold restB; rw [decide_eq_false (show ¬ kp % 762939453125 ≠ 0 from fun h => h (Int.natCast_inj.1 (by rw [e0, hz]; rfl)))]; simp)
    clear hz h1 h2 e0
    cases more <;> cases neg
    all_goals
      go_enter Tryd.func99, Tryd.ntmps99
      go_wp2_with fail
      go_ret
      exact ⟨ret_int (by first | (with_reducible exact round_pos _ _ _) | (with_reducible exact round_neg _ _ _ HR.out) | (with_reducible exact round_up _ _ _ HR.out)), (Below.refl _ _).alloc (Nat.le_refl _) _⟩
  · have e1 : ((kp : Int) % 762939453125 != 0) = true := bne_iff_ne.2 hz
    have HR := Lib.hid (show restB kp more = true by unfold restB; rw [decide_eq_true (show kp % 762939453125 ≠ 0 from fun h => hz (by rw [← e0, h]; rfl))]; simp)
    clear hz h1 h2 e0
    cases more <;> cases neg
    all_goals
      go_enter Tryd.func99, Tryd.ntmps99
      go_wp2_with fail
      go_ret
      exact ⟨ret_int (by first | (with_reducible exact round_pos _ _ _) | (with_reducible exact round_up _ _ _ HR.out)), (Below.refl _ _).alloc (Nat.le_refl _) _⟩
end Go.Proofs.YtchngbdkgfjpcaaDoor
