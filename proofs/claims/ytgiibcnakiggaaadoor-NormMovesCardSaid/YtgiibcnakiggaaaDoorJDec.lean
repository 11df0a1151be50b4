/-
  Joined texts: DecScan, DecFn, DecTake, DecParse, DecNearest, DecFar, DigL, DecNums, DecPrintM.
-/
import Derived.Test.YtgiibcnakiggaaaDoorBase
import Derived.Test.YtgiibcnakiggaaaDoorJMath
import Derived.Deep.QuietTactic
import Derived.Test.YtgiibcnakiggaaaDoorShelf
import Derived.Lib.ItoaNum
namespace Go.Proofs.YtgiibcnakiggaaaDoor
open Go.RowKit Go.Shelf

/-- The table of states lies in memory as its text says. -/
def Follows (w : World) : Prop := ∀ st k : Nat, st ≤ 8 → k ≤ 3 → w.cell? ⟨3, st * 4 + k, none⟩ = some (.int .i64 (follow st k : Int))
theorem follow_le (st k : Nat) : follow st k ≤ 8 := by
  unfold follow; split <;> omega
theorem follow_4 (st : Nat) : follow st 4 = 0 := by unfold follow; split <;> simp_all

theorem byte_cases (c : Nat) : (c = 48 ∨ c = 49 ∨ c = 50 ∨ c = 51 ∨ c = 52 ∨ c = 53 ∨ c = 54 ∨ c = 55 ∨ c = 56 ∨ c = 57) ∨ (c = 43 ∨ c = 45) ∨ c = 46 ∨ (c = 101 ∨ c = 69) ∨
    (c ≠ 48 ∧ c ≠ 49 ∧ c ≠ 50 ∧ c ≠ 51 ∧ c ≠ 52 ∧ c ≠ 53 ∧ c ≠ 54 ∧ c ≠ 55 ∧ c ≠ 56 ∧ c ≠ 57 ∧ c ≠ 43 ∧ c ≠ 45 ∧ c ≠ 46 ∧ c ≠ 101 ∧ c ≠ 69) := by omega

theorem drop_cons (s : ByteArray) (k : Nat) (h : k < s.size) : s.data.toList.drop k = s[k] :: s.data.toList.drop (k + 1) := by
  rw [List.drop_eq_getElem_cons (by simpa using h)]; rfl

theorem walk_cons (s : ByteArray) (k q : Nat) (h : k < s.size) : walkL (s.data.toList.drop k) q = if follow q (kindB s[k]) = 0 then (0, q) else ((walkL (s.data.toList.drop (k + 1)) (follow q (kindB s[k]))).1 + 1, (walkL (s.data.toList.drop (k + 1)) (follow q (kindB s[k]))).2) := by
  rw [drop_cons s k h]; rfl

theorem kind_none (b : UInt8) (h : b.toNat ≠ 48 ∧ b.toNat ≠ 49 ∧ b.toNat ≠ 50 ∧ b.toNat ≠ 51 ∧ b.toNat ≠ 52 ∧ b.toNat ≠ 53 ∧ b.toNat ≠ 54 ∧ b.toNat ≠ 55 ∧ b.toNat ≠ 56 ∧ b.toNat ≠ 57 ∧ b.toNat ≠ 43 ∧ b.toNat ≠ 45 ∧ b.toNat ≠ 46 ∧ b.toNat ≠ 101 ∧ b.toNat ≠ 69) : kindB b = 4 := by
  have a1 : isDig b = false := by unfold isDig; simp; omega
  have a2 : isSgn b = false := by unfold isSgn; simp; omega
  have a3 : isPt b = false := by unfold isPt; simp; omega
  have a4 : isLet b = false := by unfold isLet; simp; omega
  simp [kindB, a1, a2, a3, a4]
theorem walk_fin {l : List UInt8} {a st k q : Nat} (h : a + (walkL (l.drop a) st).1 = k + (walkL (l.drop k) q).1 ∧ (walkL (l.drop a) st).2 = (walkL (l.drop k) q).2) (E : walkL (l.drop k) q = (0, q)) :
    Ending.returned (.tuple #[.int .i64 (k : Int), .int .i64 (q : Int)]) = Ending.returned (.tuple #[.int .i64 ((a + (walkL (l.drop a) st).1 : Nat) : Int), .int .i64 ((walkL (l.drop a) st).2 : Int)]) := by
  rw [h.1, h.2, E]; rfl

set_option maxHeartbeats 4000000 in
theorem walk_any (s : ByteArray) (a st : Nat) (w : World) (hs : s.size ≤ maxLen) (ha : a ≤ s.size) (h0 : st ≤ 8) (hF : Follows w) :
    Calls Tryd.prog 100 #[.string s, .int .i64 (a : Int), .int .i64 (st : Int)] w fun e w' => e = .returned (.tuple #[.int .i64 ((a + (walkL (s.data.toList.drop a) st).1 : Nat) : Int), .int .i64 ((walkL (s.data.toList.drop a) st).2 : Int)]) ∧ w = w' := by
  have hs' : s.size ≤ 9223372036854775807 := hs
  clear hs
  have HF := Lib.hid hF
  clear hF
  go_enter Tryd.func100, Tryd.ntmps100
  go_wp2_with fail
  go_step3
  go_wp2_with fail
  go_step3
  go_wp2_with fail
  go_loop [1, 2, 8, 9] (fun i m _ _ => ∃ k q : Nat, k ≤ s.size ∧ q ≤ 8 ∧ i = .int .i64 (k : Int) ∧ m = .int .i64 (q : Int) ∧ Hid (a + (walkL (s.data.toList.drop a) st).1 = k + (walkL (s.data.toList.drop k) q).1 ∧ (walkL (s.data.toList.drop a) st).2 = (walkL (s.data.toList.drop k) q).2)) (fun i _ _ _ => s.size - (intOf i).toNat)
  case atStart => exact ⟨a, st, ha, h0, rfl, rfl, ⟨rfl, rfl⟩⟩
  case round =>
    obtain ⟨k, q, hk, hq, rfl, rfl, hw⟩ := hrel
    by_cases hlt : k < s.size
    · have HST := Lib.hid (walk_cons s k q hlt)
      rcases byte_cases s[k].toNat with h | h | h | h | h
      · have HC := Lib.hid (HF.out q 0 hq (by omega))
        rw [kind_dig (by unfold isDig; rcases h with h | h | h | h | h | h | h | h | h | h <;> simp [h])] at HST
        have hl := follow_le q 0
        generalize follow q 0 = nx at *
        by_cases hz : nx = 0
        · have E := Lib.hid (show walkL (s.data.toList.drop k) q = (0, q) by rw [HST.out, if_pos hz])
          subst hz
          rcases h with h | h | h | h | h | h | h | h | h | h
          all_goals
            have hc := HC.out
            simp only [Nat.add_zero] at hc
            go_wp2_with fail
            go_ret2
            exact ⟨walk_fin hw.out E.out, rfl⟩
        · have hn : ((nx : Int) == 0) = false := by rw [beq_eq_false_iff_ne]; omega
          rcases h with h | h | h | h | h | h | h | h | h | h
          all_goals
            have hc := HC.out
            simp only [Nat.add_zero] at hc
            go_wp2_with fail
            go_round
            case rel => exact ⟨k + 1, nx, by omega, hl, by go_num, rfl, ⟨by have := hw.out; rw [HST.out, if_neg hz] at this; simp at this; omega, by have := hw.out; rw [HST.out, if_neg hz] at this; simpa using this.2⟩⟩
            case measure => simp [intOf]; omega
      · have HC := Lib.hid (HF.out q 1 hq (by omega))
        rw [show kindB s[k] = 1 from by unfold kindB isDig isSgn; rcases h with h | h <;> simp [h]] at HST
        have hl := follow_le q 1
        generalize follow q 1 = nx at *
        by_cases hz : nx = 0
        · have E := Lib.hid (show walkL (s.data.toList.drop k) q = (0, q) by rw [HST.out, if_pos hz])
          subst hz
          rcases h with h | h
          all_goals
            have hc := HC.out
            skip
            go_wp2_with fail
            go_ret2
            exact ⟨walk_fin hw.out E.out, rfl⟩
        · have hn : ((nx : Int) == 0) = false := by rw [beq_eq_false_iff_ne]; omega
          rcases h with h | h
          all_goals
            have hc := HC.out
            skip
            go_wp2_with fail
            go_round
            case rel => exact ⟨k + 1, nx, by omega, hl, by go_num, rfl, ⟨by have := hw.out; rw [HST.out, if_neg hz] at this; simp at this; omega, by have := hw.out; rw [HST.out, if_neg hz] at this; simpa using this.2⟩⟩
            case measure => simp [intOf]; omega
      · have HC := Lib.hid (HF.out q 2 hq (by omega))
        rw [show kindB s[k] = 2 from by unfold kindB isDig isSgn isPt; simp [h]] at HST
        have hl := follow_le q 2
        generalize follow q 2 = nx at *
        by_cases hz : nx = 0
        · have E := Lib.hid (show walkL (s.data.toList.drop k) q = (0, q) by rw [HST.out, if_pos hz])
          subst hz
          · have hc := HC.out
            skip
            go_wp2_with fail
            go_ret2
            exact ⟨walk_fin hw.out E.out, rfl⟩
        · have hn : ((nx : Int) == 0) = false := by rw [beq_eq_false_iff_ne]; omega
          · have hc := HC.out
            skip
            go_wp2_with fail
            go_round
            case rel => exact ⟨k + 1, nx, by omega, hl, by go_num, rfl, ⟨by have := hw.out; rw [HST.out, if_neg hz] at this; simp at this; omega, by have := hw.out; rw [HST.out, if_neg hz] at this; simpa using this.2⟩⟩
            case measure => simp [intOf]; omega
      · have HC := Lib.hid (HF.out q 3 hq (by omega))
        rw [show kindB s[k] = 3 from by unfold kindB isDig isSgn isPt isLet; rcases h with h | h <;> simp [h]] at HST
        have hl := follow_le q 3
        generalize follow q 3 = nx at *
        by_cases hz : nx = 0
        · have E := Lib.hid (show walkL (s.data.toList.drop k) q = (0, q) by rw [HST.out, if_pos hz])
          subst hz
          rcases h with h | h
          all_goals
            have hc := HC.out
            skip
            go_wp2_with fail
            go_ret2
            exact ⟨walk_fin hw.out E.out, rfl⟩
        · have hn : ((nx : Int) == 0) = false := by rw [beq_eq_false_iff_ne]; omega
          rcases h with h | h
          all_goals
            have hc := HC.out
            skip
            go_wp2_with fail
            go_round
            case rel => exact ⟨k + 1, nx, by omega, hl, by go_num, rfl, ⟨by have := hw.out; rw [HST.out, if_neg hz] at this; simp at this; omega, by have := hw.out; rw [HST.out, if_neg hz] at this; simpa using this.2⟩⟩
            case measure => simp [intOf]; omega
      · have E := Lib.hid (show walkL (s.data.toList.drop k) q = (0, q) by rw [HST.out, kind_none _ h, follow_4, if_pos rfl])
        obtain ⟨h1, h2, h3, h4, h5, h6, h7, h8, h9, h10, h11, h12, h13, h14, h15⟩ := h
        have e1 : ((s[k].toNat : Int) == 48) = false := by rw [beq_eq_false_iff_ne]; omega
        have e2 : ((s[k].toNat : Int) == 49) = false := by rw [beq_eq_false_iff_ne]; omega
        have e3 : ((s[k].toNat : Int) == 50) = false := by rw [beq_eq_false_iff_ne]; omega
        have e4 : ((s[k].toNat : Int) == 51) = false := by rw [beq_eq_false_iff_ne]; omega
        have e5 : ((s[k].toNat : Int) == 52) = false := by rw [beq_eq_false_iff_ne]; omega
        have e6 : ((s[k].toNat : Int) == 53) = false := by rw [beq_eq_false_iff_ne]; omega
        have e7 : ((s[k].toNat : Int) == 54) = false := by rw [beq_eq_false_iff_ne]; omega
        have e8 : ((s[k].toNat : Int) == 55) = false := by rw [beq_eq_false_iff_ne]; omega
        have e9 : ((s[k].toNat : Int) == 56) = false := by rw [beq_eq_false_iff_ne]; omega
        have e10 : ((s[k].toNat : Int) == 57) = false := by rw [beq_eq_false_iff_ne]; omega
        have e11 : ((s[k].toNat : Int) == 43) = false := by rw [beq_eq_false_iff_ne]; omega
        have e12 : ((s[k].toNat : Int) == 45) = false := by rw [beq_eq_false_iff_ne]; omega
        have e13 : ((s[k].toNat : Int) == 46) = false := by rw [beq_eq_false_iff_ne]; omega
        have e14 : ((s[k].toNat : Int) == 101) = false := by rw [beq_eq_false_iff_ne]; omega
        have e15 : ((s[k].toNat : Int) == 69) = false := by rw [beq_eq_false_iff_ne]; omega
        clear h1 h2 h3 h4 h5 h6 h7 h8 h9 h10 h11 h12 h13 h14 h15
        go_wp2_with fail
        go_ret2
        exact ⟨walk_fin hw.out E.out, rfl⟩
    · have e : walkL (s.data.toList.drop k) q = (0, q) := by rw [List.drop_of_length_le (by simp; omega)]; rfl
      have E := Lib.hid e
      clear e
      go_wp2_with fail
      go_ret2
      exact ⟨walk_fin hw.out E.out, rfl⟩

/-- Whether a number's text may end there. -/
theorem whole_any (st : Nat) (w : World) (h : st ≤ 8) : Calls Tryd.prog 101 #[.int .i64 (st : Int)] w fun e w' => e = .returned (.bool (wholeS st)) ∧ w = w' := by
  have hh : st = 0 ∨ st = 1 ∨ st = 2 ∨ st = 3 ∨ st = 4 ∨ st = 5 ∨ st = 6 ∨ st = 7 ∨ st = 8 := by omega
  rcases hh with rfl | rfl | rfl | rfl | rfl | rfl | rfl | rfl | rfl
  all_goals
    go_enter Tryd.func101, Tryd.ntmps101
    go_wp2_with fail
    go_ret
    exact ⟨rfl, rfl⟩
theorem walk_snd_le (l : List UInt8) : ∀ st, st ≤ 8 → (walkL l st).2 ≤ 8 := by
  induction l with
  | nil => intro st h; exact h
  | cons b t ih =>
    intro st h
    unfold walkL
    split
    · exact h
    · exact ih _ (follow_le _ _)

/-- Scan: from any place within the text. -/
theorem Scan_any (s : ByteArray) (a : Nat) (signed : Bool) (w : World) (hs : s.size ≤ maxLen) (ha : a ≤ s.size) (hF : Follows w) :
    Calls Tryd.prog 94 #[.string s, .int .i64 (a : Int), .bool signed] w fun e w' => e = .returned (.tuple #[.int .i64 ((a + (walkL (s.data.toList.drop a) (if signed then 1 else 2)).1 : Nat) : Int), .bool (wholeS (walkL (s.data.toList.drop a) (if signed then 1 else 2)).2)]) ∧ w = w' := by
  have hs' : s.size ≤ 9223372036854775807 := hs
  have A := Lib.hid (fun w (hF : Follows w) => walk_any s a (if signed then 1 else 2) w hs ha (by cases signed <;> decide) hF)
  have B := Lib.hid (fun w => whole_any (walkL (s.data.toList.drop a) (if signed then 1 else 2)).2 w (walk_snd_le _ _ (by cases signed <;> decide)))
  have HF := Lib.hid hF
  clear hs hF
  cases signed
  all_goals
    simp only [Bool.false_eq_true, if_true, if_false] at A B ⊢
    generalize (a + (walkL (s.data.toList.drop a) _).1) = x at *
    generalize (walkL (s.data.toList.drop a) _).2 = y at *
    generalize wholeS y = z at *
    go_enter Tryd.func94, Tryd.ntmps94
    go_wp2_with fail
    refine (A.out _ HF.out).mono ?_
    rintro e w1 ⟨rfl, rfl⟩
    go_wp2_with fail
    refine (B.out _).mono ?_
    rintro e w2 ⟨rfl, rfl⟩
    go_wp2_with fail
    go_ret2
    exact ⟨rfl, rfl⟩
end Go.Proofs.YtgiibcnakiggaaaDoor
namespace Go.Proofs.YtgiibcnakiggaaaDoor
open Go.RowKit Go.Shelf

def p10 (p : Nat) : Nat := 10 ^ p
theorem ret_int {k : IntKind} {a b : Int} (h : a = b) : Ending.returned (.int k a) = .returned (.int k b) := by rw [h]
theorem tenTo_any (p : Nat) (w : World) (h : p ≤ 18) : Calls Tryd.prog 112 #[.int .i64 (p : Int)] w fun e w' => e = .returned (.int .i64 (p10 p : Int)) ∧ w = w' := by
  go_enter Tryd.func112, Tryd.ntmps112
  go_wp2_with fail
  go_loop [3, 5] (fun n i => ∃ (k : Nat) (x : Int), k ≤ p ∧ i = .int .i64 (k : Int) ∧ n = .int .i64 x ∧ 0 ≤ x ∧ x ≤ 1000000000000000000 ∧ Hid (x = (p10 k : Int))) (fun _ i => p - (intOf i).toNat)
  case atStart => exact ⟨0, 1, by omega, rfl, rfl, by omega, by omega, rfl⟩
  case round =>
    obtain ⟨k, x, hk, rfl, rfl, h0, h1, hx⟩ := hrel
    by_cases hlt : k < p
    · have hb : x ≤ 100000000000000000 := by
        rw [hx.out]
        unfold p10
        have : (10 : Nat) ^ k ≤ 10 ^ 17 := Nat.pow_le_pow_right (by decide) (by omega)
        omega
      go_wp2_with fail
      go_round
      case rel => exact ⟨k + 1, x * 10, by omega, by go_num, rfl, by omega, by omega, by unfold Hid; rw [hx.out]; unfold p10; rw [Nat.pow_succ]; omega⟩
      case measure => simp [intOf]; omega
    · obtain rfl : k = p := by omega
      go_wp2_with fail
      go_ret
      exact ⟨ret_int hx.out, rfl⟩

theorem isNegative_any (s : ByteArray) (w : World) : Calls Tryd.prog 107 #[.string s] w fun e w' => e = .returned (.bool (Lib.hasPrefix s.data.toList [45])) ∧ w = w' := by
  have C := Any.strings_HasPrefix Tryd.lays99 s ⟨#[45]⟩ w
  change Calls Tryd.prog 113 _ _ (fun e w' => e = .returned (.bool (Lib.hasPrefix s.data.toList [45])) ∧ w' = w) at C
  have C' := Lib.hid C
  clear C
  generalize Lib.hasPrefix s.data.toList [45] = b at *
  go_enter Tryd.func107, Tryd.ntmps107
  go_wp2_with fail
  refine C'.out.mono ?_
  rintro e w1 ⟨rfl, rfl⟩
  go_wp2_with fail
  go_ret
  exact ⟨rfl, rfl⟩

theorem unsigned_any (s : ByteArray) (w : World) : Calls Tryd.prog 110 #[.string s] w fun e w' => e = .returned (.string ⟨(Lib.trimLeftS s.data.toList [43, 45]).toArray⟩) ∧ Below w.heap.size w w' := by
  have C := Any.strings_TrimLeft_laid Tryd.lays161 (by kernel_rfl) s ⟨#[43, 45]⟩ w (by decide) (ascii_of_all (by decide))
  change Calls Tryd.prog 118 _ _ (fun e w' => e = .returned (.string ⟨(Lib.trimLeftS s.data.toList [43, 45]).toArray⟩) ∧ Below w.heap.size w w') at C
  have C' := Lib.hid C
  clear C
  generalize (⟨(Lib.trimLeftS s.data.toList [43, 45]).toArray⟩ : ByteArray) = r at *
  go_enter Tryd.func110, Tryd.ntmps110
  go_wp2_with fail
  refine C'.out.mono ?_
  rintro e w1 ⟨rfl, b1⟩
  go_wp2_with fail
  go_ret
  exact ⟨rfl, b1⟩

/-- A power's digits, as far as they tell anything. -/
def powF : List UInt8 → Nat → Nat
  | [], n => n
  | b :: t, n => if n < 1125899906842624 then powF t (10 * n + dv b) else n
theorem powF_cons (b : UInt8) (t : List UInt8) (n : Nat) : powF (b :: t) n = if n < 1125899906842624 then powF t (10 * n + dv b) else n := rfl
theorem powF_stop (l : List UInt8) (n : Nat) (h : ¬ n < 1125899906842624) : powF l n = n := by
  cases l with
  | nil => rfl
  | cons b t => unfold powF; rw [if_neg h]

theorem dig_get {s : ByteArray} {k : Nat} (h : k < s.size) (hd : AllDig s.data.toList) : isDig s[k] = true := hd _ (by
  have : s[k] = s.data.toList[k]'(by simpa using h) := rfl
  rw [this]; exact List.getElem_mem _)
theorem dig_bd {b : UInt8} (h : isDig b = true) : 48 ≤ b.toNat ∧ b.toNat ≤ 57 := by
  unfold isDig at h; simpa using h

set_option maxHeartbeats 1000000 in
theorem powerOf_any (s ds : ByteArray) (w : World) (e : (⟨(Lib.trimLeftS s.data.toList [43, 45]).toArray⟩ : ByteArray) = ds) (hds : ds.size ≤ 100000) (hd : AllDig ds.data.toList) :
    Calls Tryd.prog 109 #[.string s] w fun e w' => e = .returned (.int .i64 (sg (Lib.hasPrefix s.data.toList [45]) (powF ds.data.toList 0))) ∧ Below w.heap.size w w' := by
  have A := Lib.hid (unsigned_any s w)
  rw [e] at A
  clear e
  have B := Lib.hid (fun w => isNegative_any s w)
  generalize Lib.hasPrefix s.data.toList [45] = neg at *
  have HD := Lib.hid hd
  clear hd
  go_enter Tryd.func109, Tryd.ntmps109
  go_wp2_with fail
  refine A.out.mono ?_
  rintro e w1 ⟨rfl, b1⟩
  have B1 := Lib.hid b1
  clear b1
  go_wp2_with fail
  go_loop [3, 5] (fun n i => ∃ (k : Nat) (x : Int) (N : Nat), k ≤ ds.size ∧ i = .int .i64 (k : Int) ∧ n = .int .i64 x ∧ 0 ≤ x ∧ x ≤ 11258999068426249 ∧ Hid (x = (N : Int) ∧ powF (ds.data.toList.drop k) N = powF ds.data.toList 0)) (fun _ i => ds.size - (intOf i).toNat)
  case atStart => exact ⟨0, 0, 0, by omega, rfl, rfl, by omega, by omega, ⟨rfl, rfl⟩⟩
  case round =>
    obtain ⟨k, x, N, hk, rfl, rfl, h0, h1, hx⟩ := hrel
    by_cases hlt : k < ds.size
    · have g := dig_bd (dig_get hlt HD.out)
      have g1 : (48 : Int) ≤ (ds[k].toNat : Int) := by omega
      have g2 : (ds[k].toNat : Int) ≤ 57 := by omega
      have HG := Lib.hid (show dv ds[k] = ds[k].toNat - 48 from rfl)
      have HC := Lib.hid (drop_cons ds k hlt)
      clear g
      by_cases hb : x < 1125899906842624
      · go_wp2_with fail
        go_round
        case rel => exact ⟨k + 1, 10 * x + ((ds[k].toNat : Int) - 48), 10 * N + dv ds[k], by omega, by go_num, rfl, by omega, by omega, ⟨by have := hx.out.1; have := HG.out; omega, by
          have e := hx.out.2
          rw [HC.out, powF_cons, if_pos (by have := hx.out.1; omega)] at e
          exact e⟩⟩
        case measure => simp [intOf]; omega
      · have HR := Lib.hid (show powF ds.data.toList 0 = N by rw [← hx.out.2]; exact powF_stop _ _ (by have := hx.out.1; omega))
        cases neg
        all_goals
          go_wp2_with fail
          refine (B.out _).mono ?_
          rintro e w2 ⟨rfl, rfl⟩
          go_wp2_with fail
          go_ret
          exact ⟨ret_int (by rw [HR.out, hx.out.1]; rfl), B1.out⟩
    · have HR := Lib.hid (show powF ds.data.toList 0 = N by rw [← hx.out.2, List.drop_of_length_le (by simp; omega)]; rfl)
      cases neg
      all_goals
        go_wp2_with fail
        refine (B.out _).mono ?_
        rintro e w2 ⟨rfl, rfl⟩
        go_wp2_with fail
        go_ret
        exact ⟨ret_int (by rw [HR.out, hx.out.1]; rfl), B1.out⟩

theorem round_pos (wh kp : Nat) (more : Bool) : ((wh : Int) * 2 * 65536 + (kp : Int) / 762939453125 + 1) / 2 = roundV false wh kp more := by
  unfold roundV halvesN
  have e : ((kp / 762939453125 : Nat) : Int) = (kp : Int) / 762939453125 := Int.natCast_ediv _ _
  rw [← e]
  generalize kp / 762939453125 = q at *
  simp; omega
theorem round_neg (wh kp : Nat) (more : Bool) (h : restB kp more = false) : -(((wh : Int) * 2 * 65536 + (kp : Int) / 762939453125) / 2) = roundV true wh kp more := by
  unfold roundV halvesN
  have e : ((kp / 762939453125 : Nat) : Int) = (kp : Int) / 762939453125 := Int.natCast_ediv _ _
  rw [← e, h]
  generalize kp / 762939453125 = q at *
  simp; omega
theorem round_up (wh kp : Nat) (more : Bool) (h : restB kp more = true) : -(((wh : Int) * 2 * 65536 + (kp : Int) / 762939453125 + 1) / 2) = roundV true wh kp more := by
  unfold roundV halvesN
  have e : ((kp / 762939453125 : Nat) : Int) = (kp : Int) / 762939453125 := Int.natCast_ediv _ _
  rw [← e, h]
  generalize kp / 762939453125 = q at *
  simp; omega

/-- rounded: what is made of the digits that are kept. -/
theorem rounded_any (wh kp : Nat) (more great neg : Bool) (w : World) (h1 : wh < 100000) (h2 : kp < 100000000000000000) :
    Calls Tryd.prog 106 #[.agg #[.int .i64 (wh : Int), .int .i64 (kp : Int), .bool more, .bool great], .bool neg] w fun e w' => e = .returned (.int .i64 (roundV neg wh kp more)) ∧ Below w.heap.size w w' := by
  have b0 : (0 : Int) ≤ (wh : Int) := by omega
  have b1 : (wh : Int) < 100000 := by omega
  have b2 : (0 : Int) ≤ (kp : Int) := by omega
  have b3 : (kp : Int) < 100000000000000000 := by omega
  have e0 : ((kp % 762939453125 : Nat) : Int) = (kp : Int) % 762939453125 := Int.natCast_emod _ _
  by_cases hz : (kp : Int) % 762939453125 = 0
  · have e1 : ((kp : Int) % 762939453125 != 0) = false := by simp [hz]
    have HR := Lib.hid (show restB kp more = more by unfold restB; rw [decide_eq_false (show ¬ kp % 762939453125 ≠ 0 from fun h => h (Int.natCast_inj.1 (by rw [e0, hz]; rfl)))]; simp)
    clear hz h1 h2 e0
    cases more <;> cases neg
    all_goals
      go_enter Tryd.func106, Tryd.ntmps106
      go_wp2_with fail
      go_ret
      exact ⟨ret_int (by first | (with_reducible exact round_pos _ _ _) | (with_reducible exact round_neg _ _ _ HR.out) | (with_reducible exact round_up _ _ _ HR.out)), (Below.refl _ _).alloc (Nat.le_refl _) _⟩
  · have e1 : ((kp : Int) % 762939453125 != 0) = true := bne_iff_ne.2 hz
    have HR := Lib.hid (show restB kp more = true by unfold restB; rw [decide_eq_true (show kp % 762939453125 ≠ 0 from fun h => hz (by rw [← e0, h]; rfl))]; simp)
    clear hz h1 h2 e0
    cases more <;> cases neg
    all_goals
      go_enter Tryd.func106, Tryd.ntmps106
      go_wp2_with fail
      go_ret
      exact ⟨ret_int (by first | (with_reducible exact round_pos _ _ _) | (with_reducible exact round_up _ _ _ HR.out)), (Below.refl _ _).alloc (Nat.le_refl _) _⟩
end Go.Proofs.YtgiibcnakiggaaaDoor
namespace Go.Proofs.YtgiibcnakiggaaaDoor
open Go.RowKit Go.Shelf

/-- Block b holds what is kept. -/
def ValAt (b : Nat) (wh kp : Nat) (more great : Bool) (w : World) : Prop := w.heap[b]? = some (.cells #[.int .i64 (wh : Int), .int .i64 (kp : Int), .bool more, .bool great] 144)
theorem ValAt.lt {b wh kp : Nat} {more great : Bool} {w : World} (h : ValAt b wh kp more great w) : b < w.heap.size := (Array.getElem?_eq_some_iff.1 h).1
theorem ValAt.c0 {b wh kp : Nat} {more great : Bool} {w : World} (h : ValAt b wh kp more great w) : w.cell? ⟨b, 0, none⟩ = some (.int .i64 (wh : Int)) := by unfold ValAt at h; simp [World.cell?, h]
theorem ValAt.c1 {b wh kp : Nat} {more great : Bool} {w : World} (h : ValAt b wh kp more great w) : w.cell? ⟨b, 1, none⟩ = some (.int .i64 (kp : Int)) := by unfold ValAt at h; simp [World.cell?, h]
theorem ValAt.c2 {b wh kp : Nat} {more great : Bool} {w : World} (h : ValAt b wh kp more great w) : w.cell? ⟨b, 2, none⟩ = some (.bool more) := by unfold ValAt at h; simp [World.cell?, h]
theorem ValAt.c3 {b wh kp : Nat} {more great : Bool} {w : World} (h : ValAt b wh kp more great w) : w.cell? ⟨b, 3, none⟩ = some (.bool great) := by unfold ValAt at h; simp [World.cell?, h]
theorem ValAt.z {b wh kp : Nat} {more great : Bool} {w : World} (h : ValAt b wh kp more great w) (o : Nat) : w.frozen? ⟨b, o, none⟩ = false := by unfold ValAt at h; simp [World.frozen?, h]
theorem val_put {b : Nat} {c : Array Value} {t : TypeId} {w : World} (o : Nat) (v : Value) (H : w.heap[b]? = some (.cells c t)) : (w.setCell ⟨b, o, none⟩ v).heap[b]? = some (.cells (c.setIfInBounds o v) t) := by
  simp only [World.setCell, Array.getElem?_modify, H]
  simp
theorem ValAt.drew {b wh kp : Nat} {more great : Bool} {w : World} (h : ValAt b wh kp more great w) (n : Nat) : ValAt b wh kp more great (w.drewN n) := h
theorem ValAt.s0 {b wh kp : Nat} {more great : Bool} {w : World} (h : ValAt b wh kp more great w) (x : Nat) : ValAt b x kp more great (w.setCell ⟨b, 0, none⟩ (.int .i64 (x : Int))) := val_put 0 _ h
theorem ValAt.s1 {b wh kp : Nat} {more great : Bool} {w : World} (h : ValAt b wh kp more great w) (x : Nat) : ValAt b wh x more great (w.setCell ⟨b, 1, none⟩ (.int .i64 (x : Int))) := val_put 1 _ h
theorem ValAt.s2 {b wh kp : Nat} {more great : Bool} {w : World} (h : ValAt b wh kp more great w) (x : Bool) : ValAt b wh kp x great (w.setCell ⟨b, 2, none⟩ (.bool x)) := val_put 2 _ h
theorem ValAt.s3 {b wh kp : Nat} {more great : Bool} {w : World} (h : ValAt b wh kp more great w) (x : Bool) : ValAt b wh kp more x (w.setCell ⟨b, 3, none⟩ (.bool x)) := val_put 3 _ h

/-- What take's loop keeps. -/
def TakeInv (ds : ByteArray) (N : Nat) (above : Int) (b : Nat) (w : World) (i : Value) (wr : World) : Prop :=
  ∃ (k wh kp : Nat) (more great : Bool), k ≤ ds.size ∧ i = .int .i64 (k : Int) ∧ ValAt b wh kp more great wr ∧ Below b w wr ∧ Kept (N * 10 ^ k + nat10 (ds.data.toList.take k)) (above - k + 17) wh kp more great
def TakePost (ds : ByteArray) (N : Nat) (above : Int) (b : Nat) (w : World) (e : Ending) (w' : World) : Prop :=
  e = .returned (.tuple #[]) ∧ ∃ (wh kp : Nat) (more great : Bool), ValAt b wh kp more great w' ∧ Below b w w' ∧ Kept (N * 10 ^ ds.size + nat10 ds.data.toList) (above - ds.size + 17) wh kp more great

theorem take_snocB (s : ByteArray) (k : Nat) (h : k < s.size) : s.data.toList.take (k + 1) = s.data.toList.take k ++ [s[k]] := by
  rw [List.take_succ_eq_append_getElem (by simpa using h)]; rfl
theorem take_num (ds : ByteArray) (N k : Nat) (h : k < ds.size) : N * 10 ^ (k + 1) + nat10 (ds.data.toList.take (k + 1)) = 10 * (N * 10 ^ k + nat10 (ds.data.toList.take k)) + dv ds[k] := by
  rw [take_snocB ds k h, nat10_snoc, Nat.pow_succ]; grind

theorem below_set (b o : Nat) (v : Value) (w : World) : Below b w (w.setCell ⟨b, o, none⟩ v) := by
  refine Below.setCell (Below.refl b w) ?_ _
  exact Nat.le_refl _
theorem below_drew {b : Nat} {w w' : World} (h : Below b w w') : Below b w w'.drew := ⟨h.os, h.tape, h.output, h.size, h.block⟩
theorem ValAt.drew1 {b wh kp : Nat} {more great : Bool} {w : World} (h : ValAt b wh kp more great w) : ValAt b wh kp more great w.drew := h
theorem ValAt.t0 {b wh kp : Nat} {more great : Bool} {w : World} (h : ValAt b wh kp more great w) (x : Nat) (v : Int) (hv : v = (x : Int)) : ValAt b x kp more great (w.setCell ⟨b, 0, none⟩ (.int .i64 v)).drew := by subst hv; exact h.s0 x
theorem ValAt.t1 {b wh kp : Nat} {more great : Bool} {w : World} (h : ValAt b wh kp more great w) (x : Nat) (v : Int) (hv : v = (x : Int)) : ValAt b wh x more great (w.setCell ⟨b, 1, none⟩ (.int .i64 v)).drew := by subst hv; exact h.s1 x
theorem Kept.nought {N : Nat} {e : Int} {wh kp : Nat} {more great : Bool} (h : Kept N e wh kp more great) : Kept (10 * N + 0) (e - 1) wh kp more great := by
  by_cases a : e ≤ 0
  · simpa using h.low 0 (by decide) a
  · by_cases b : 23 ≤ e
    · simpa using h.high 0 b
    · by_cases c : 18 ≤ e
      · simpa using h.whole 0 (by decide) (e - 18).toNat (by omega) (by omega)
      · simpa using h.frac 0 (by decide) (e - 1).toNat (by omega) (by omega)
theorem take_next {ds : ByteArray} {N : Nat} {above : Int} {b k wh kp : Nat} {more great : Bool} {w wr w1 : World} (hlt : k < ds.size) (hb : Below b w wr) (hb' : Below b wr w1) (hv : ValAt b wh kp more great w1)
    (hK : Kept (10 * (N * 10 ^ k + nat10 (ds.data.toList.take k)) + dv ds[k]) (above - k + 17 - 1) wh kp more great) : TakeInv ds N above b w (.int .i64 ((k : Int) + 1)) w1 :=
  ⟨k + 1, wh, kp, more, great, hlt, by go_num, hv, hb.trans hb', by rw [take_num ds N k hlt, show above - ((k + 1 : Nat) : Int) + 17 = above - k + 17 - 1 from by omega]; exact hK⟩

set_option maxHeartbeats 4000000 in
theorem take_any (ds : ByteArray) (N : Nat) (above : Int) (b wh kp : Nat) (more great : Bool) (w : World) (hs : ds.size ≤ 100000) (hd : AllDig ds.data.toList) (a0 : -100000000000000000 ≤ above) (a1 : above ≤ 100000000000000000)
    (hv : ValAt b wh kp more great w) (hk : Kept N (above + 17) wh kp more great) :
    Calls Tryd.prog 105 #[.pointer (some ⟨b, 0, none⟩), .string ds, .int .i64 above] w (TakePost ds N above b w) := by
  have HD := Lib.hid hd
  have HV := Lib.hid hv
  have HK := Lib.hid hk
  clear hd hv hk
  go_enter Tryd.func105, Tryd.ntmps105
  go_wp2_with fail
  go_loopw [11] (fun i wr => TakeInv ds N above b w i wr) (fun i _ => ds.size - (intOf i).toNat)
  case atStart => exact ⟨0, wh, kp, more, great, by omega, rfl, HV.out, Below.refl _ _, by have := HK.out; simpa [nat10] using this⟩
  case round =>
    clear HV HK
    obtain ⟨k, wh, kp, more, great, hk, rfl, hv, hb, hK⟩ := hrel
    have HV := Lib.hid hv
    have HB := Lib.hid hb
    have HK := Lib.hid hK
    clear hb hK
    by_cases hlt : k < ds.size
    · have g := dig_bd (dig_get hlt HD.out)
      have g1 : (48 : Int) ≤ (ds[k].toNat : Int) := by omega
      have g2 : (ds[k].toNat : Int) ≤ 57 := by omega
      have HG := Lib.hid (show (dv ds[k] : Int) = (ds[k].toNat : Int) - 48 by unfold dv; omega)
      have z := hv.z
      have c0 := hv.c0; have c1 := hv.c1; have c2 := hv.c2; have c3 := hv.c3
      clear g hv
      by_cases d0 : (ds[k].toNat : Int) = 48
      · go_wp2_with fail
        go_roundw
        case rel => exact take_next hlt HB.out (Below.refl _ _) HV.out (by rw [show dv ds[k] = 0 from by have := HG.out; omega]; exact HK.out.nought)
        case measure => simp [intOf]; omega
      · have t0 : ((ds[k].toNat : Int) - 48 == 0) = false := by rw [beq_eq_false_iff_ne]; omega
        have DN := Lib.hid (show dv ds[k] ≠ 0 ∧ dv ds[k] < 10 by have := HG.out; omega)
        by_cases p5 : 5 ≤ above - 1 - (k : Int)
        · go_wp2_with fail
          go_roundw
          case rel => exact take_next hlt HB.out (below_set _ _ _ _) (HV.out.s3 true) (by have := HK.out.high (dv ds[k]) (by omega); rwa [decide_eq_true DN.out.1, Bool.or_true] at this)
          case measure => simp [intOf]; omega
        · by_cases p0 : 0 ≤ above - 1 - (k : Int)
          · obtain ⟨E, hE⟩ : ∃ E : Nat, above - 1 - (k : Int) = (E : Int) := ⟨(above - 1 - (k : Int)).toNat, by omega⟩
            have hE5 : E < 5 := by omega
            have HK2 := Lib.hid (HK.out.whole (dv ds[k]) DN.out.2 E (by omega) hE5)
            have T := Lib.hid (fun w => tenTo_any E w (by omega))
            have hw := HK2.out.hw
            have eD : ((ds[k].toNat : Int) - 48) * (p10 E : Int) = ((dv ds[k] * 10 ^ E : Nat) : Int) := by rw [← HG.out, Int.natCast_mul]; rfl
            generalize dv ds[k] * 10 ^ E = D at *
            have m1 : IntKind.i64.wrap (((ds[k].toNat : Int) - 48) * (p10 E : Int)) = (D : Int) := by rw [eD]; exact IntWalk.i64_in _ (by omega)
            have m2 : IntKind.i64.wrap ((wh : Int) + (D : Int)) = ((wh + D : Nat) : Int) := by rw [IntWalk.i64_in _ (by omega)]; omega
            have z0 := z 0
            clear p0 p5 eD hw z
            go_wp2_with fail
            go_region_with (first | (go_at_call 112; refine (T.out _).mono ?_; rintro e w' ⟨rfl, rfl⟩))
            all_goals
              go_wp2_with fail
              go_roundw
              case rel => exact take_next hlt HB.out (below_drew (below_set _ _ _ _)) (HV.out.t0 (wh + D) _ (by omega)) HK2.out
              case measure => simp [intOf]; omega
          · by_cases p17 : -17 ≤ above - 1 - (k : Int)
            · obtain ⟨E, hE⟩ : ∃ E : Nat, above - 1 - (k : Int) = (E : Int) - 17 := ⟨(above - 1 - (k : Int) + 17).toNat, by omega⟩
              have hE5 : E < 17 := by omega
              have HK2 := Lib.hid (HK.out.frac (dv ds[k]) DN.out.2 E (by omega) hE5)
              have T := Lib.hid (fun w => tenTo_any E w (by omega))
              have hw := HK2.out.hk
              have eD : ((ds[k].toNat : Int) - 48) * (p10 E : Int) = ((dv ds[k] * 10 ^ E : Nat) : Int) := by rw [← HG.out, Int.natCast_mul]; rfl
              generalize dv ds[k] * 10 ^ E = D at *
              have m1 : IntKind.i64.wrap (((ds[k].toNat : Int) - 48) * (p10 E : Int)) = (D : Int) := by rw [eD]; exact IntWalk.i64_in _ (by omega)
              have m2 : IntKind.i64.wrap ((kp : Int) + (D : Int)) = ((kp + D : Nat) : Int) := by rw [IntWalk.i64_in _ (by omega)]; omega
              have m3 : IntKind.i64.wrap (E : Int) = (E : Int) := by rw [IntWalk.i64_in _ (by omega)]
              have z1 := z 1
              clear p0 p5 p17 eD hw z
              go_wp2_with fail
              go_region_with (first | (go_at_call 112; refine (T.out _).mono ?_; rintro e w' ⟨rfl, rfl⟩))
              all_goals
                go_wp2_with fail
                go_roundw
                case rel => exact take_next hlt HB.out (below_drew (below_set _ _ _ _)) (HV.out.t1 (kp + D) _ (by omega)) HK2.out
                case measure => simp [intOf]; omega
            · go_wp2_with fail
              go_roundw
              case rel => exact take_next hlt HB.out (below_set _ _ _ _) (HV.out.s2 true) (by have := HK.out.low (dv ds[k]) DN.out.2 (by omega); rwa [decide_eq_true DN.out.1, Bool.or_true] at this)
              case measure => simp [intOf]; omega
    · have HF := Lib.hid (show TakePost ds N above b w (.returned (.tuple #[])) wr from ⟨rfl, wh, kp, more, great, hv, HB.out, by have := HK.out; rw [show k = ds.size from by omega, List.take_of_length_le (by simp)] at this; exact this⟩)
      go_wp2_with fail
      go_end0
      exact HF.out
end Go.Proofs.YtgiibcnakiggaaaDoor
namespace Go.Proofs.YtgiibcnakiggaaaDoor
open Go.RowKit Go.Shelf

def exP : Expo → Int
  | none => 0
  | some (_, s, d) => sg (decide (s = [45])) (powF d 0)

theorem size_list (s : ByteArray) : s.size = s.data.toList.length := by rw [Array.length_toList]; rfl
theorem ba_list (l : List UInt8) : (⟨l.toArray⟩ : ByteArray).data.toList = l := by simp
theorem ba_size (l : List UInt8) : (⟨l.toArray⟩ : ByteArray).size = l.length := by simp [ByteArray.size]
theorem ba_of (s : ByteArray) : s = ⟨s.data.toList.toArray⟩ := by simp

theorem indexAny_any (s : ByteArray) (w : World) (hs : s.size ≤ 100000) (ha : ∀ c ∈ s.data.toList, c.toNat < 128) :
    Calls Tryd.prog 108 #[.string s, .string ⟨#[101, 69]⟩] w fun e w' => e = .returned (.int .i64 (Lib.indexAny s.data.toList [101, 69])) ∧ Below w.heap.size w w' :=
  Any.strings_IndexAny_laid Tryd.lays153 (by kernel_rfl) s ⟨#[101, 69]⟩ w (by omega) (by decide) (fun j b hb => ha b (List.mem_of_getElem? hb)) (ascii_of_all (by decide))

theorem parted_none (s : ByteArray) (sg' a : List UInt8) (pt : Bool) (b : List UInt8) (w : World) (hs : s.size ≤ 100000) (h : IsNum s.data.toList sg' a pt b none) :
    Calls Tryd.prog 103 #[.string s] w fun e w' => e = .returned (.tuple #[.string ⟨(a ++ ptL pt b).toArray⟩, .int .i64 0]) ∧ Below w.heap.size w w' := by
  have A := Lib.hid (indexAny_any s w hs (num_ascii h))
  have et : s.data.toList = sg' ++ (a ++ ptL pt b) := by have := h.text; simpa [expo] using this
  have B := Lib.hid (fun w => unsigned_any s w)
  rw [indexAny_none _ (by rw [et]; exact no_let h)] at A
  rw [et, trim_sgn sg' _ h.hsg (head_body h)] at B
  generalize (⟨(a ++ ptL pt b).toArray⟩ : ByteArray) = m at *
  clear h et
  go_enter Tryd.func103, Tryd.ntmps103
  go_wp2_with fail
  refine A.out.mono ?_
  rintro e w1 ⟨rfl, b1⟩
  have B1 := Lib.hid b1
  clear b1
  go_wp2_with fail
  refine (B.out _).mono ?_
  rintro e w2 ⟨rfl, b2⟩
  go_wp2_with fail
  go_ret2
  exact ⟨rfl, B1.out.trans (b2.mono B1.out.size)⟩

theorem parted_some (s : ByteArray) (sg' a : List UInt8) (pt : Bool) (b : List UInt8) (c : UInt8) (s2 d : List UInt8) (w : World) (hs : s.size ≤ 100000) (h : IsNum s.data.toList sg' a pt b (some (c, s2, d))) :
    Calls Tryd.prog 103 #[.string s] w fun e w' => e = .returned (.tuple #[.string ⟨(a ++ ptL pt b).toArray⟩, .int .i64 (sg (decide (s2 = [45])) (powF d 0))]) ∧ Below w.heap.size w w' := by
  have A := Lib.hid (indexAny_any s w hs (num_ascii h))
  have et : s.data.toList = (sg' ++ (a ++ ptL pt b)) ++ c :: (s2 ++ d) := by have := h.text; simpa [expo] using this
  have hl : (sg' ++ (a ++ ptL pt b)).length < s.size := by
    have e2 := congrArg List.length et
    rw [List.length_append, List.length_cons] at e2
    rw [size_list]; omega
  rw [et, indexAny_at _ _ _ (no_let h) h.hx.1] at A
  have X1 : (s.extract ((sg' ++ (a ++ ptL pt b)).length + 1) s.size).data.toList = s2 ++ d := by
    rw [Lib.extract_data, size_list, et, List.drop_append, List.drop_of_length_le (by omega), List.nil_append, show (sg' ++ (a ++ ptL pt b)).length + 1 - (sg' ++ (a ++ ptL pt b)).length = 1 from by omega]
    refine List.take_of_length_le ?_
    have e2 := congrArg List.length et
    rw [List.length_append, List.length_cons] at e2
    rw [← et, e2]
    simp; omega
  have X2 : (s.extract 0 (sg' ++ (a ++ ptL pt b)).length).data.toList = sg' ++ (a ++ ptL pt b) := by
    rw [Lib.extract_data, et, List.drop_zero, Nat.sub_zero, List.take_left]
  generalize (sg' ++ (a ++ ptL pt b)).length = n at *
  have hd := h.hx.2.2.1
  have P := Lib.hid (fun w => powerOf_any (s.extract (n + 1) s.size) ⟨d.toArray⟩ w (by rw [X1, trim_sgn s2 d h.hx.2.1 (head_digs hd)]) (by
    have e2 := congrArg List.length et
    simp only [List.length_append, List.length_cons] at e2
    rw [ba_size]
    rw [size_list] at hs
    omega) (by rw [ba_list]; exact hd))
  rw [X1, pre_neg s2 d h.hx.2.1 (head_digs hd), ba_list] at P
  have B := Lib.hid (fun w => unsigned_any (s.extract 0 n) w)
  rw [X2, trim_sgn sg' _ h.hsg (head_body h)] at B
  generalize (⟨(a ++ ptL pt b).toArray⟩ : ByteArray) = m at *
  generalize sg (decide (s2 = [45])) (powF d 0) = x at *
  have i0 : (0 : Int) ≤ (n : Int) := by omega
  clear h et X1 X2 hd
  go_enter Tryd.func103, Tryd.ntmps103
  go_wp2_with fail
  refine A.out.mono ?_
  rintro e w1 ⟨rfl, b1⟩
  have B1 := Lib.hid b1
  clear b1
  go_wp2_with fail
  refine (P.out _).mono ?_
  rintro e w2 ⟨rfl, b2⟩
  have B2 := Lib.hid b2
  clear b2
  go_wp2_with fail
  refine (B.out _).mono ?_
  rintro e w3 ⟨rfl, b3⟩
  go_wp2_with fail
  go_ret2
  have s1 := B1.out.size
  have s2 := B2.out.size
  exact ⟨rfl, (B1.out.trans (B2.out.mono s1)).trans (b3.mono (by omega))⟩

theorem parted_any (s : ByteArray) (sg' a : List UInt8) (pt : Bool) (b : List UInt8) (x : Expo) (w : World) (hs : s.size ≤ 100000) (h : IsNum s.data.toList sg' a pt b x) :
    Calls Tryd.prog 103 #[.string s] w fun e w' => e = .returned (.tuple #[.string ⟨(a ++ ptL pt b).toArray⟩, .int .i64 (exP x)]) ∧ Below w.heap.size w w' := by
  cases x with
  | none => exact parted_none s sg' a pt b w hs h
  | some y => obtain ⟨c, s2, d⟩ := y; exact parted_some s sg' a pt b c s2 d w hs h

/-- What is read of other packages' variables: the length at which a search changes its way is some number. -/
def SomeMax (w : World) : Prop := ∃ m : Int, w.cell? ⟨2, 0, none⟩ = some (.int .i64 m)
theorem cut_any (a b : List UInt8) (pt : Bool) (w : World) (ha : AllDig a) (hpt : pt = false → b = []) (hl : (a ++ ptL pt b).length ≤ 100000) (hm : SomeMax w) :
    Calls Tryd.prog 104 #[.string ⟨(a ++ ptL pt b).toArray⟩, .string ⟨#[46]⟩] w fun e w' => e = .returned (.tuple #[.string ⟨a.toArray⟩, .string ⟨b.toArray⟩, .bool pt]) ∧ ∃ n, w' = w.drewN n := by
  obtain ⟨m, hm⟩ := hm
  have C := Any.strings_Cut Tryd.lays145 ⟨(a ++ ptL pt b).toArray⟩ ⟨#[46]⟩ m w (by rw [ba_size]; omega) hm
  rw [ba_list] at C
  rw [cut_pt a b pt ha hpt] at C
  exact C
theorem below_drewq {b : Nat} {w w' : World} (h : Below b w w') (n : Nat) : Below b w (w'.drewN n) := ⟨h.os, h.tape, h.output, h.size, h.block⟩
theorem SomeMax.below {w w' : World} {B : Nat} (h : SomeMax w) (t : Below B w w') (hB : 2 < B) : SomeMax w' := by
  obtain ⟨m, hm⟩ := h
  exact ⟨m, by rw [t.cell (p := ⟨2, 0, none⟩) hB]; exact hm⟩
theorem powF_le (l : List UInt8) : ∀ n : Nat, AllDig l → n ≤ 11258999068426249 → powF l n ≤ 11258999068426249 := by
  induction l with
  | nil => intro n _ h; exact h
  | cons b t ih =>
    intro n hd h
    have := dv_lt (hd b (by simp))
    unfold powF
    split
    · exact ih _ (fun x hx => hd x (by simp [hx])) (by omega)
    · exact h
theorem exP_bd (x : Expo) (h : XOk x) : -11258999068426249 ≤ exP x ∧ exP x ≤ 11258999068426249 := by
  cases x with
  | none => exact ⟨by decide, by decide⟩
  | some y =>
    obtain ⟨c, s, d⟩ := y
    have := powF_le d 0 h.2.2.1 (by decide)
    show -11258999068426249 ≤ sg (decide (s = [45])) (powF d 0) ∧ sg (decide (s = [45])) (powF d 0) ≤ 11258999068426249
    unfold sg
    split <;> omega

/-- What nearest tells. -/
def nearP (neg : Bool) (D : Nat) (p : Int) (e : Ending) : Prop :=
  ∃ n ok, e = .returned (.tuple #[.int .i64 n, .bool ok]) ∧ (if ok then (n, (0 : Int)) else (0, 2)) = ansV (nearV neg D p)
theorem ans_fits (n : Int) : (if (decide (-4294967296 < n) && decide (n < 4294967296)) = true then (n, (0 : Int)) else (0, 2)) = ansV n := by
  unfold ansV
  simp only [Bool.and_eq_true, decide_eq_true_eq]
theorem roundV_bd (neg : Bool) (wh kp : Nat) (more : Bool) (h1 : wh < 100000) (h2 : kp < 100000000000000000) : -10000000000000 ≤ roundV neg wh kp more ∧ roundV neg wh kp more ≤ 10000000000000 := by
  have q : kp / 762939453125 ≤ 131072 := Nat.div_le_of_le_mul (by omega)
  unfold roundV halvesN
  generalize kp / 762939453125 = x at *
  cases neg <;> cases restB kp more <;> simp <;> omega
end Go.Proofs.YtgiibcnakiggaaaDoor
namespace Go.Proofs.YtgiibcnakiggaaaDoor
open Go.RowKit Go.Shelf

theorem ValAt.new (w : World) : ValAt w.heap.size 0 0 false false (w.alloc (.cells #[.int .i64 0, .int .i64 0, .bool false, .bool false] 144)) := by
  show (w.heap.push _)[w.heap.size]? = _
  rw [Array.getElem?_push, if_pos rfl]
  rfl

theorem bcell' {B : Nat} {W w1 : World} (hb : Below B W w1) : (∀ b o, b < B → w1.cell? ⟨b, o, none⟩ = W.cell? ⟨b, o, none⟩) ∧ (∀ b o, b < B → w1.frozen? ⟨b, o, none⟩ = W.frozen? ⟨b, o, none⟩) :=
  ⟨fun b o h => hb.cell (p := ⟨b, o, none⟩) h, fun b o h => hb.frozen (p := ⟨b, o, none⟩) h⟩
def NearPost (neg : Bool) (D : Nat) (p : Int) (w : World) (e : Ending) (w' : World) : Prop := nearP neg D p e ∧ Below w.heap.size w w'

set_option maxHeartbeats 2000000 in
theorem nearest_any (s : ByteArray) (sg' a : List UInt8) (pt : Bool) (b : List UInt8) (x : Expo) (w : World) (hs : s.size ≤ 100000) (h : IsNum s.data.toList sg' a pt b x) (hm : SomeMax w) (hG : 2 < w.heap.size) :
    Calls Tryd.prog 102 #[.string s] w (NearPost (decide (sg' = [45])) (nat10 (a ++ b)) (exP x - b.length) w) := by
  have len : a.length + b.length ≤ s.size ∧ (a ++ ptL pt b).length ≤ s.size := by
    have e := congrArg List.length h.text
    rw [← size_list] at e
    simp only [List.length_append] at e
    have : b.length ≤ (ptL pt b).length := by
      cases pt with
      | false => rw [h.hpt rfl]; simp
      | true => simp [ptL]
    rw [List.length_append]; omega
  have A := Lib.hid (parted_any s sg' a pt b x w hs h)
  have C := Lib.hid (fun w hm => cut_any a b pt w h.ha h.hpt (by omega) hm)
  have N := Lib.hid (fun w => isNegative_any s w)
  have xb := exP_bd x h.hx
  rw [show Lib.hasPrefix s.data.toList [45] = decide (sg' = [45]) from by
    rw [h.text]
    refine pre_neg _ _ h.hsg ?_
    have := head_body h
    cases e : a ++ ptL pt b with
    | nil => exfalso
             have h0 := h.h0
             have := congrArg List.length e
             simp only [List.length_append, List.length_nil] at this
             cases pt with
             | false => rw [h.hpt rfl] at h0; simp at h0; omega
             | true => simp [ptL] at this
    | cons y t => rw [e] at this; exact this] at N
  have T1 := Lib.hid (fun w bb hv => take_any ⟨a.toArray⟩ 0 (exP x + a.length) bb 0 0 false false w (by rw [ba_size]; omega) (by rw [ba_list]; exact h.ha) (by omega) (by omega) hv (kept_zero _))
  have T2 := Lib.hid (fun w bb wh kp more great hv hk => take_any ⟨b.toArray⟩ (nat10 a) (exP x) bb wh kp more great w (by rw [ba_size]; omega) (by rw [ba_list]; exact h.hb) (by omega) (by omega) hv hk)
  unfold TakePost at T1 T2
  rw [ba_size, ba_list] at T1 T2
  have la := len.1
  have SA := Lib.hid (ba_size a)
  have HM := Lib.hid hm
  generalize decide (sg' = [45]) = neg at *
  generalize (⟨(a ++ ptL pt b).toArray⟩ : ByteArray) = m at *
  have HA := Lib.hid (nat10_append a b)
  generalize exP x = pw at *
  clear h hm len
  go_enter Tryd.func102, Tryd.ntmps102
  go_wp2_with fail
  refine A.out.mono ?_
  rintro e w1 ⟨rfl, b1⟩
  have M1 := Lib.hid (HM.out.below b1 hG)
  have z1 := b1.size
  have B1 := Lib.hid b1
  clear b1
  go_wp2_with fail
  refine (C.out _ M1.out).mono ?_
  rintro e w2 ⟨rfl, q, rfl⟩
  have B2 := Lib.hid (below_drewq B1.out q)
  have z2 : w.heap.size ≤ (w1.drewN q).heap.size := z1
  generalize w1.drewN q = w3 at *
  clear B1 M1 z1
  go_wp2_with fail
  refine (T1.out _ _ (ValAt.new w3)).mono ?_
  rintro e w4 ⟨rfl, wh, kp, more, great, hv, hb4, hk⟩
  rw [Nat.zero_mul, Nat.zero_add, show pw + (a.length : Int) - a.length + 17 = pw + 17 from by omega] at hk
  have B4 := Lib.hid (show Below w.heap.size w w4 from B2.out.trans ((((Below.refl w3.heap.size w3).alloc (Nat.le_refl _) _).trans hb4).mono z2))
  have HV4 := Lib.hid hv
  have HK4 := Lib.hid hk
  clear hv hk hb4 B2
  go_wp2_with fail
  refine (T2.out _ _ _ _ _ _ HV4.out HK4.out).mono ?_
  clear wh kp more great HV4 HK4 T1 T2
  rintro e w5 ⟨rfl, wh, kp, more, great, hv, hb5, hk⟩
  have B5 := Lib.hid (show Below w.heap.size w w5 from B4.out.trans (hb5.mono z2))
  rw [← HA.out, show pw - (b.length : Int) + 17 = (pw - b.length) + 17 from rfl] at hk
  have HV5 := Lib.hid hv
  have HK5 := Lib.hid hk
  have c0 := hv.c0; have c1 := hv.c1; have c2 := hv.c2; have c3 := hv.c3
  clear hv hk hb5 B4
  generalize w3.heap.size = bb at *
  have lb := HV5.out.lt
  cases great
  · have RN := Lib.hid (round_near neg HK5.out)
    have RB := roundV_bd neg wh kp more HK5.out.hw HK5.out.hk
    have R := Lib.hid (fun w => rounded_any wh kp more false neg w HK5.out.hw HK5.out.hk)
    generalize roundV neg wh kp more = n at *
    go_wp2_with fail
    go_region_held3 (fun w' => w'.cell? ⟨bb, 0, none⟩ = some (.int .i64 (wh : Int)) ∧ w'.cell? ⟨bb, 1, none⟩ = some (.int .i64 (kp : Int)) ∧ w'.cell? ⟨bb, 2, none⟩ = some (.bool more) ∧ w'.cell? ⟨bb, 3, none⟩ = some (.bool false)) (simp [go_sem, *])
      (first | (go_at_call 107; refine (N.out _).mono ?_; rintro e w' ⟨rfl, rfl⟩) | (go_at_call 106; refine (R.out _).mono ?_; rintro e w' ⟨rfl, hb6⟩; have e0 := (hb6.cell (p := ⟨bb, 0, none⟩) (by exact lb)).trans (by exact c0); have e1 := (hb6.cell (p := ⟨bb, 1, none⟩) (by exact lb)).trans (by exact c1); have e2 := (hb6.cell (p := ⟨bb, 2, none⟩) (by exact lb)).trans (by exact c2); have e3 := (hb6.cell (p := ⟨bb, 3, none⟩) (by exact lb)).trans (by exact c3)))
    have b5 := B5.out
    have F := Lib.hid (show Below w.heap.size w w' from Below.trans (below_drew b5) (hb6.mono (by exact Nat.le_trans z2 (Nat.le_of_lt lb))))
    clear b5 hb6 e0 e1 e2 e3 c0 c1 c2 c3
    by_cases l1 : -4294967296 < n
    · by_cases l2 : n < 4294967296
      · have AG := Lib.hid (show ansV n = (n, 0) from if_pos ⟨l1, l2⟩)
        rw [RN.out] at AG
        go_wp2_with fail
        go_ret2
        exact ⟨⟨n, true, rfl, by rw [AG.out, RN.out]; rfl⟩, F.out⟩
      · have AG := Lib.hid (show ansV n = (0, 2) from if_neg fun h => l2 h.2)
        rw [RN.out] at AG
        go_wp2_with fail
        go_ret2
        exact ⟨⟨n, false, rfl, by rw [AG.out]; rfl⟩, F.out⟩
    · have AG := Lib.hid (show ansV n = (0, 2) from if_neg fun h => l1 h.1)
      rw [RN.out] at AG
      go_wp2_with fail
      go_ret2
      exact ⟨⟨n, false, rfl, by rw [AG.out]; rfl⟩, F.out⟩
  · have RG := Lib.hid (great_near neg HK5.out)
    go_wp2_with fail
    go_ret2
    exact ⟨⟨0, false, rfl, RG.out.symm⟩, B5.out⟩

/-- Parse's answer, of whatever text. -/
def ParsePost (l : List UInt8) (w : World) (e : Ending) (w' : World) : Prop :=
  (∃ n er : Int, e = .returned (.tuple #[.int .i64 n, .int .i64 er]) ∧ ((¬ Acc l 1 ∧ n = 0 ∧ er = 3) ∨ ∃ s a pt b x, IsNum l s a pt b x ∧ (n, er) = ansV (nearV (decide (s = [45])) (nat10 (a ++ b)) (exP x - b.length)))) ∧ Below w.heap.size w w'

/-- How many package variables there are: they lie ahead of all that calls make. -/
noncomputable def gN : Nat := Tryd.prog.globals.size
theorem gN_max : 2 < gN := of_decide_eq_true (by kernel_rfl)
theorem gN_follows : 3 < gN := of_decide_eq_true (by kernel_rfl)
/-- What Parse asks of memory. -/
structure Tabs (w : World) : Prop where
  follows : Follows w
  max : SomeMax w
  size : gN ≤ w.heap.size

set_option maxHeartbeats 1000000 in
theorem Parse_any (s : ByteArray) (w : World) (hs : s.size ≤ 100000) (T : Tabs w) : Calls Tryd.prog 95 #[.string s] w (ParsePost s.data.toList w) := by
  have A := Lib.hid (Scan_any s 0 true w (by unfold maxLen; omega) (by omega) T.follows)
  simp only [if_true, List.drop_zero, Nat.zero_add] at A
  have le := walk_fst_le s.data.toList 1
  rw [← size_list] at le
  by_cases hA : Acc s.data.toList 1
  · obtain ⟨sg', a, pt, b, x, h⟩ := acc1 _ hA
    have N := Lib.hid (nearest_any s sg' a pt b x w hs h T.max (Nat.lt_of_lt_of_le gN_max T.size))
    unfold NearPost nearP at N
    have HH := Lib.hid h
    rw [show (walkL s.data.toList 1).1 = s.size from by rw [hA.1, size_list], hA.2] at A
    clear hA h le T
    go_enter Tryd.func95, Tryd.ntmps95
    go_wp2_with fail
    refine A.out.mono ?_
    rintro e w1 ⟨rfl, rfl⟩
    go_wp2_with fail
    refine N.out.mono ?_
    rintro e w2 ⟨⟨n, ok, rfl, he⟩, b2⟩
    have HE := Lib.hid he
    clear he
    cases ok
    · go_wp2_with fail
      go_ret2
      exact ⟨⟨0, 2, rfl, Or.inr ⟨sg', a, pt, b, x, HH.out, HE.out⟩⟩, b2⟩
    · go_wp2_with fail
      go_ret2
      exact ⟨⟨n, 0, rfl, Or.inr ⟨sg', a, pt, b, x, HH.out, HE.out⟩⟩, b2⟩
  · have HA := Lib.hid hA
    unfold Acc at hA
    rw [← size_list] at hA
    generalize (walkL s.data.toList 1).1 = k at *
    generalize wholeS (walkL s.data.toList 1).2 = ok at *
    clear T
    cases ok
    · clear hA
      go_enter Tryd.func95, Tryd.ntmps95
      go_wp2_with fail
      refine A.out.mono ?_
      rintro e w1 ⟨rfl, rfl⟩
      go_wp2_with fail
      go_ret2
      exact ⟨⟨0, 3, rfl, Or.inl ⟨HA.out, rfl, rfl⟩⟩, Below.refl _ _⟩
    · have hlt : k < s.size := by
        refine Nat.lt_of_le_of_ne le fun e => hA ⟨e, rfl⟩
      clear hA
      go_enter Tryd.func95, Tryd.ntmps95
      go_wp2_with fail
      refine A.out.mono ?_
      rintro e w1 ⟨rfl, rfl⟩
      go_wp2_with fail
      go_ret2
      exact ⟨⟨0, 3, rfl, Or.inl ⟨HA.out, rfl, rfl⟩⟩, Below.refl _ _⟩
end Go.Proofs.YtgiibcnakiggaaaDoor
namespace Go.Proofs.YtgiibcnakiggaaaDoor
open Go.RowKit Go.Shelf

theorem far_up (neg : Bool) (D : Nat) (p : Int) (hp : 5 ≤ p) : ansV (nearV neg D p) = if D = 0 then (0, 0) else (0, 2) := by
  have e : nearV neg D p = sg neg (D * 65536 * 10 ^ p.toNat) := by
    unfold nearV near
    rw [show (-p).toNat = 0 from by omega, Nat.pow_zero]
    simp
  rw [e]
  by_cases h : D = 0
  · subst h
    simp only [if_true, Nat.zero_mul]
    cases neg <;> rfl
  · rw [if_neg h]
    have h5 : 10 ^ 5 ≤ 10 ^ p.toNat := Nat.pow_le_pow_right (by decide) (by omega)
    have : 65536 * 100000 ≤ D * 65536 * 10 ^ p.toNat := Nat.mul_le_mul (by omega) h5
    generalize D * 65536 * 10 ^ p.toNat = v at *
    unfold ansV
    refine if_neg ?_
    cases neg
    · rw [sg_false]; omega
    · rw [sg_true]; omega
theorem far_down (neg : Bool) (D : Nat) (p : Int) (L : Nat) (hD : D < 10 ^ L) (hp : p ≤ -((L + 6 : Nat) : Int)) : ansV (nearV neg D p) = (0, 0) := by
  have e : nearV neg D p = 0 := by
    unfold nearV near
    rw [show p.toNat = 0 from by omega, Nat.pow_zero, Nat.mul_one]
    have hc : 10 ^ (L + 6) ≤ 10 ^ (-p).toNat := Nat.pow_le_pow_right (by decide) (by omega)
    rw [Nat.pow_add] at hc
    generalize 10 ^ (-p).toNat = c at *
    generalize 10 ^ L = K at *
    have h2 : 2 * (D * 65536) < c := by omega
    clear hc hD
    generalize D * 65536 = x at *
    refine Int.ediv_eq_zero_of_lt ?_ ?_
    · cases neg
      · rw [sg_false]; omega
      · rw [sg_true]; omega
    · cases neg
      · rw [sg_false]; omega
      · rw [sg_true]; omega
  rw [e]; rfl
theorem powF_true (l : List UInt8) : ∀ m : Nat, powF l m = m * 10 ^ l.length + nat10 l ∨ (1125899906842624 ≤ powF l m ∧ 1125899906842624 ≤ m * 10 ^ l.length + nat10 l) := by
  induction l with
  | nil => intro m; left; simp [powF, nat10]
  | cons b t ih =>
    intro m
    rw [powF_cons, nat10_cons, List.length_cons, Nat.pow_succ]
    have e : m * (10 ^ t.length * 10) + (dv b * 10 ^ t.length + nat10 t) = (10 * m + dv b) * 10 ^ t.length + nat10 t := by grind
    rw [e]
    by_cases h : m < 1125899906842624
    · rw [if_pos h]; exact ih _
    · rw [if_neg h]
      right
      refine ⟨by omega, ?_⟩
      have : (10 * m + dv b) * 1 ≤ (10 * m + dv b) * 10 ^ t.length := Nat.mul_le_mul_left _ (Nat.pow_pos (by decide))
      omega
theorem ans_pow (neg : Bool) (D L bl : Nat) (x : Expo) (hD : D < 10 ^ L) (hL : L ≤ 100000) (hb : bl ≤ 100000) : ansV (nearV neg D (exP x - bl)) = ansV (nearV neg D (exV x - bl)) := by
  cases x with
  | none => rfl
  | some y =>
    obtain ⟨c, s, d⟩ := y
    show ansV (nearV neg D (sg (decide (s = [45])) (powF d 0) - bl)) = ansV (nearV neg D (sg (decide (s = [45])) (nat10 d) - bl))
    rcases powF_true d 0 with h | ⟨h1, h2⟩
    · rw [h, Nat.zero_mul, Nat.zero_add]
    · rw [Nat.zero_mul, Nat.zero_add] at h2
      generalize powF d 0 = n at *
      generalize nat10 d = m at *
      cases decide (s = [45])
      · rw [sg_false, sg_false, far_up neg D _ (by omega), far_up neg D _ (by omega)]
      · rw [sg_true, sg_true, far_down neg D _ L hD (by omega), far_down neg D _ L hD (by omega)]

/-- Parse, of a number's text: the answer of its value. -/
theorem parse_num {l s a : List UInt8} {pt : Bool} {b : List UInt8} {x : Expo} (h : IsNum l s a pt b x) (hl : l.length ≤ 100000) :
    ansV (nearV (decide (s = [45])) (nat10 (a ++ b)) (exP x - b.length)) = ansF s a b x := by
  have e := congrArg List.length h.text
  simp only [List.length_append] at e
  have : b.length ≤ (ptL pt b).length := by
    cases pt with
    | false => rw [h.hpt rfl]; simp
    | true => simp [ptL]
  have lt := nat10_lt (a ++ b) (fun c hc => by
    rcases List.mem_append.1 hc with hc | hc
    · exact h.ha c hc
    · exact h.hb c hc)
  exact ans_pow _ _ (a ++ b).length b.length x lt (by simp; omega) (by omega)

def Tells (an : Int × Int) (w : World) (e : Ending) (w' : World) : Prop := e = .returned (.tuple #[.int .i64 an.1, .int .i64 an.2]) ∧ Below w.heap.size w w'
set_option maxHeartbeats 1000000 in
theorem Parse_num (s : ByteArray) (sg' a : List UInt8) (pt : Bool) (b : List UInt8) (x : Expo) (w : World) (hs : s.size ≤ 100000) (T : Tabs w) (h : IsNum s.data.toList sg' a pt b x) :
    Calls Tryd.prog 95 #[.string s] w (Tells (ansF sg' a b x) w) := by
  have A := Lib.hid (Scan_any s 0 true w (by unfold maxLen; omega) (by omega) T.follows)
  simp only [if_true, List.drop_zero, Nat.zero_add] at A
  have hA := h.acc
  have N := Lib.hid (nearest_any s sg' a pt b x w hs h T.max (Nat.lt_of_lt_of_le gN_max T.size))
  unfold NearPost nearP at N
  rw [parse_num h (by rw [← size_list]; omega)] at N
  rw [show (walkL s.data.toList 1).1 = s.size from by rw [hA.1, size_list], hA.2] at A
  generalize ansF sg' a b x = an at *
  clear hA h T
  go_enter Tryd.func95, Tryd.ntmps95
  go_wp2_with fail
  refine A.out.mono ?_
  rintro e w1 ⟨rfl, rfl⟩
  go_wp2_with fail
  refine N.out.mono ?_
  rintro e w2 ⟨⟨n, ok, rfl, he⟩, b2⟩
  cases ok
  · obtain rfl : an = (0, 2) := he.symm
    clear he
    go_wp2_with fail
    go_ret2
    exact ⟨rfl, b2⟩
  · obtain rfl : an = (n, 0) := he.symm
    clear he
    go_wp2_with fail
    go_ret2
    exact ⟨rfl, b2⟩
theorem Parse_bad (s : ByteArray) (w : World) (hs : s.size ≤ 100000) (T : Tabs w) (h : ¬ Acc s.data.toList 1) :
    Calls Tryd.prog 95 #[.string s] w (Tells (0, 3) w) := by
  refine (Parse_any s w hs T).mono ?_
  rintro e w' ⟨⟨n, er, rfl, hh⟩, hb⟩
  rcases hh with ⟨_, rfl, rfl⟩ | ⟨_, _, _, _, _, hn, _⟩
  · exact ⟨rfl, hb⟩
  · exact absurd hn.acc h

theorem Follows.below {w w' : World} {B : Nat} (h : Follows w) (t : Below B w w') (hB : 3 < B) : Follows w' := fun st k h1 h2 => by
  rw [t.cell (p := ⟨3, st * 4 + k, none⟩) hB]; exact h st k h1 h2
theorem Tabs.below {w w' : World} {B : Nat} (h : Tabs w) (t : Below B w w') (hB : gN ≤ B) (hw : w.heap.size ≤ w'.heap.size) : Tabs w' :=
  ⟨h.follows.below t (Nat.lt_of_lt_of_le gN_follows hB), h.max.below t (Nat.lt_of_lt_of_le gN_max hB), by have := h.size; omega⟩
theorem Tabs.next {w w' : World} (h : Tabs w) (t : Below w.heap.size w w') : Tabs w' := h.below t h.size t.size
end Go.Proofs.YtgiibcnakiggaaaDoor
namespace Go.Proofs.YtgiibcnakiggaaaDoor
open Go.RowKit Go.Shelf

def db (n : Nat) : UInt8 := UInt8.ofNat (48 + n % 10)
theorem db_nat (n : Nat) : (db n).toNat = 48 + n % 10 := by
  unfold db; rw [UInt8.toNat_ofNat']; omega
/-- A number's digits. -/
def digL (n : Nat) : List UInt8 := if _h : n < 10 then [db n] else digL (n / 10) ++ [db n]
  termination_by n
  decreasing_by omega

theorem digL_step (m : Nat) (h : m / 10 ≠ 0) : digL m = digL (m / 10) ++ [db m] := by
  rw [digL, dif_neg (by omega)]
theorem digL_last (m : Nat) (h : m / 10 = 0) : digL m = [db m] := by
  rw [digL, dif_pos (by omega)]
end Go.Proofs.YtgiibcnakiggaaaDoor
namespace Go.Proofs.YtgiibcnakiggaaaDoor

theorem db_dig (n : Nat) : isDig (db n) = true := by unfold isDig; rw [db_nat]; simp; omega
theorem db_dv (n : Nat) : dv (db n) = n % 10 := by unfold dv; rw [db_nat]; omega
theorem allDig_append {a b : List UInt8} (h : AllDig a) (k : AllDig b) : AllDig (a ++ b) := fun c hc => by
  rcases List.mem_append.1 hc with hc | hc
  · exact h c hc
  · exact k c hc
theorem allDig_one (n : Nat) : AllDig [db n] := allDig_cons (db_dig n) allDig_nil
theorem digL_all (n : Nat) : AllDig (digL n) := by
  induction n using Nat.strongRecOn with
  | ind n ih =>
    rw [digL]; split
    · exact allDig_one n
    · exact allDig_append (ih _ (by omega)) (allDig_one n)
theorem digL_nat (n : Nat) : nat10 (digL n) = n := by
  induction n using Nat.strongRecOn with
  | ind n ih =>
    rw [digL]; split
    · rw [show [db n] = [] ++ [db n] from rfl, nat10_snoc, db_dv, nat10_nil]; omega
    · rw [nat10_snoc, ih _ (by omega), db_dv]; omega
theorem digL_len (n : Nat) : ∀ k, n < 10 ^ (k + 1) → (digL n).length ≤ k + 1 := by
  induction n using Nat.strongRecOn with
  | ind n ih =>
    intro k hk
    rw [digL]; split
    · simp
    · cases k with
      | zero => simp at hk; omega
      | succ k =>
        have := ih (n / 10) (by omega) k (by rw [Nat.pow_succ] at hk; omega)
        simp; omega
theorem digL_len_ge (n : Nat) : ∀ k, 10 ^ k ≤ n → k + 1 ≤ (digL n).length := by
  induction n using Nat.strongRecOn with
  | ind n ih =>
    intro k hk
    rw [digL]; split
    · cases k with
      | zero => simp
      | succ k => rw [Nat.pow_succ] at hk; have : 0 < 10 ^ k := Nat.pow_pos (by decide); omega
    · cases k with
      | zero => simp
      | succ k =>
        have := ih (n / 10) (by omega) k (by rw [Nat.pow_succ] at hk; omega)
        simp; omega
theorem digL_pos (n : Nat) : 0 < (digL n).length := by rw [digL]; split <;> simp
theorem digL_one (n : Nat) (h : n < 10) : digL n = [db n] := by rw [digL, dif_pos h]
/-- Five digits, with noughts ahead. -/
theorem digL_five (x : Nat) (h : x < 100000) : ∃ c t, digL (x + 100000) = c :: t ∧ AllDig t ∧ t.length = 5 ∧ nat10 t = x := by
  have l1 := digL_len (x + 100000) 5 (by omega)
  have l2 := digL_len_ge (x + 100000) 5 (by omega)
  have ha := digL_all (x + 100000)
  have hn := digL_nat (x + 100000)
  cases e : digL (x + 100000) with
  | nil => rw [e] at l2; simp at l2
  | cons c t =>
    rw [e] at l1 l2 ha hn
    simp at l1 l2
    have ht : AllDig t := fun b hb => ha b (by simp [hb])
    have hl : t.length = 5 := by omega
    refine ⟨c, t, rfl, ht, hl, ?_⟩
    rw [nat10_cons, hl] at hn
    have := nat10_lt t ht
    rw [hl] at this
    have d := dv_lt (ha c (by simp))
    omega

/-- Noughts. -/
def nil0 (k : Nat) : List UInt8 := List.replicate k 48
theorem nil0_all (k : Nat) : AllDig (nil0 k) := fun b hb => by
  obtain rfl := List.eq_of_mem_replicate hb
  decide
theorem nil0_nat (k : Nat) : nat10 (nil0 k) = 0 := by
  induction k with
  | zero => rfl
  | succ k ih => rw [nil0, List.replicate_succ, nat10_cons, ← nil0, ih]; simp [dv]
theorem nil0_len (k : Nat) : (nil0 k).length = k := by simp [nil0]
theorem nil0_succ (k : Nat) : nil0 (k + 1) = nil0 k ++ [48] := by simp [nil0, List.replicate_succ']

theorem near_two (v : Int) (d : Nat) : near v d = (2 * v + d) / (2 * (d : Int)) := by
  unfold near
  rw [← Int.ediv_ediv_of_nonneg (show (0 : Int) ≤ 2 by decide)]
  congr 1
  omega
theorem near_scale (v : Int) (d c : Nat) (hc : 0 < c) : near (v * c) (d * c) = near v d := by
  rw [near_two, near_two]
  have e1 : 2 * (v * (c : Int)) + ((d * c : Nat) : Int) = (2 * v + d) * c := by push_cast; grind
  have e2 : 2 * ((d * c : Nat) : Int) = 2 * (d : Int) * c := by push_cast; grind
  rw [e1, e2]
  exact Int.mul_ediv_mul_of_pos_left _ _ (by omega)
theorem near_mono {v u : Int} (d : Nat) (hd : 0 < d) (h : v ≤ u) : near v d ≤ near u d := by
  rw [near_two, near_two]
  exact Int.ediv_le_ediv (by omega) (by omega)
theorem near_whole (v k : Int) (d : Nat) (hd : 0 < d) : near (v + k * d) d = near v d + k := by
  unfold near
  rw [show v + k * (d : Int) + (d : Int) / 2 = v + (d : Int) / 2 + k * d from by omega, Int.add_mul_ediv_right _ _ (by omega)]

theorem nearV_neg (D m : Nat) : nearV false D (-(m : Int)) = near ((D * 65536 : Nat) : Int) (10 ^ m) := by
  unfold nearV
  rw [sg_false, show (-(m : Int)).toNat = 0 from by omega, Nat.pow_zero, Nat.mul_one, show (-(-(m : Int))).toNat = m from by omega]
/-- Noughts behind make no difference. -/
theorem nearV_noughts (D m k : Nat) : nearV false (D * 10 ^ k) (-((m + k : Nat) : Int)) = nearV false D (-(m : Int)) := by
  rw [nearV_neg, nearV_neg, Nat.pow_add]
  have hk : 0 < 10 ^ k := Nat.pow_pos (by decide)
  generalize 10 ^ k = c at *
  generalize 10 ^ m = d at *
  have e : ((D * c * 65536 : Nat) : Int) = ((D * 65536 : Nat) : Int) * c := by
    rw [← Int.natCast_mul, Nat.mul_right_comm]
  rw [e]
  exact near_scale _ _ _ hk

theorem ansV_ok (n : Int) : ansV n = (n, 0) ∨ ansV n = (0, 2) := by unfold ansV; split <;> simp
/-- One digit more behind. -/
theorem rises_near (N m i k W : Nat) (hi : i ≤ k) (hk : k ≤ 9) (hN : N < (W + 1) * 10 ^ m) :
    nearV false (10 * N + i) (-((m + 1 : Nat) : Int)) ≤ nearV false (10 * N + k) (-((m + 1 : Nat) : Int)) ∧
    nearV false N (-(m : Int)) ≤ nearV false (10 * N + i) (-((m + 1 : Nat) : Int)) ∧
    nearV false (10 * N + k) (-((m + 1 : Nat) : Int)) ≤ nearV false N (-(m : Int)) + 65536 ∧
    0 ≤ nearV false N (-(m : Int)) ∧
    (W ≤ 65534 → nearV false (10 * N + k) (-((m + 1 : Nat) : Int)) ≤ 65535 * 65536) := by
  have e : nearV false N (-(m : Int)) = near ((10 * N * 65536 : Nat) : Int) (10 ^ (m + 1)) := by
    have := nearV_noughts N m 1
    rw [← this, nearV_neg, Nat.pow_one, Nat.mul_comm N 10]
  rw [e, nearV_neg, nearV_neg]
  have hp : 0 < 10 ^ (m + 1) := Nat.pow_pos (by decide)
  have h9 : 10 ≤ 10 ^ (m + 1) := by rw [Nat.pow_succ]; have : 0 < 10 ^ m := Nat.pow_pos (by decide); omega
  refine ⟨near_mono _ hp (by omega), near_mono _ hp (by omega), ?_, ?_, ?_⟩
  · rw [← near_whole _ 65536 _ hp]
    exact near_mono _ hp (by omega)
  · refine Int.le_trans ?_ (near_mono (v := 0) _ hp (by omega))
    unfold near
    exact Int.ediv_nonneg (by omega) (by omega)
  · intro hw
    have h1 : (W + 1) * 10 ^ m ≤ 65535 * 10 ^ m := Nat.mul_le_mul_right _ (by omega)
    have h2 : (10 * N + k) * 65536 ≤ 65535 * 65536 * 10 ^ (m + 1) := by
      rw [Nat.pow_succ]
      generalize 10 ^ m = M at *
      omega
    have h3 := near_mono (v := (((10 * N + k) * 65536 : Nat) : Int)) (u := 0 + 65535 * 65536 * ((10 ^ (m + 1) : Nat) : Int)) (10 ^ (m + 1)) hp (by omega)
    rw [near_whole _ (65535 * 65536) _ hp] at h3
    have h4 : near 0 (10 ^ (m + 1)) = 0 := by
      unfold near
      exact Int.ediv_eq_zero_of_lt (by omega) (by omega)
    omega
end Go.Proofs.YtgiibcnakiggaaaDoor
namespace Go.Proofs.YtgiibcnakiggaaaDoor

theorem digL_dec (u : Nat) : Lib.decDigits u = digL u := by
  induction u using Nat.strongRecOn with
  | ind u ih =>
    rw [Lib.decDigits, digL]
    split
    · rename_i h; unfold db; rw [Nat.mod_eq_of_lt h]
    · rw [ih _ (by omega)]; rfl

/-- The digits behind the point, at most f of them. -/
def frac : Nat → Nat → List UInt8
  | 0, _ => []
  | f + 1, r => if r = 0 then [] else UInt8.ofNat (48 + 10 * r / 65536) :: frac f (10 * r % 65536)
theorem frac_zero (f : Nat) : frac f 0 = [] := by cases f <;> rfl
theorem fb_nat (r : Nat) (h : r < 65536) : (UInt8.ofNat (48 + 10 * r / 65536)).toNat = 48 + 10 * r / 65536 := by
  rw [UInt8.toNat_ofNat']; omega
theorem frac_all (f : Nat) : ∀ r, r < 65536 → AllDig (frac f r) := by
  induction f with
  | zero => intro r _; exact allDig_nil
  | succ f ih =>
    intro r h
    unfold frac
    split
    · exact allDig_nil
    · refine allDig_cons ?_ (ih _ (Nat.mod_lt _ (by decide)))
      unfold isDig; rw [fb_nat r h]; simp; omega
/-- What is left has so many noughts that it ends. -/
def Ends (f r : Nat) : Prop := r < 65536 ∧ r * 10 ^ f % 65536 = 0
theorem Ends.zero {r : Nat} (h : Ends 0 r) : r = 0 := by
  obtain ⟨h1, h2⟩ := h
  rw [Nat.pow_zero, Nat.mul_one] at h2
  omega
theorem Ends.next {f r : Nat} (h : Ends (f + 1) r) : Ends f (10 * r % 65536) := by
  obtain ⟨h1, h2⟩ := h
  refine ⟨Nat.mod_lt _ (by decide), ?_⟩
  rw [Nat.mod_mul_mod]
  rw [Nat.pow_succ] at h2
  rw [show 10 * r * 10 ^ f = r * (10 ^ f * 10) from by grind]
  exact h2
theorem ends_start (r : Nat) (h : r < 65536) : Ends 16 r := by
  refine ⟨h, ?_⟩
  rw [show (10 : Nat) ^ 16 = 65536 * 152587890625 from by decide, show r * (65536 * 152587890625) = 65536 * (r * 152587890625) from by grind]
  exact Nat.mul_mod_right _ _
theorem frac_val (f : Nat) : ∀ r, Ends f r → nat10 (frac f r) * 65536 = r * 10 ^ (frac f r).length := by
  induction f with
  | zero => intro r h; rw [h.zero]; simp [frac, nat10]
  | succ f ih =>
    intro r h
    unfold frac
    split
    · rename_i h0; subst h0; simp [nat10]
    · have e := ih _ h.next
      rw [nat10_cons, List.length_cons, Nat.pow_succ]
      have ed : dv (UInt8.ofNat (48 + 10 * r / 65536)) = 10 * r / 65536 := by unfold dv; rw [fb_nat r h.1]; omega
      rw [ed]
      have hd := Nat.div_add_mod (10 * r) 65536
      generalize 10 * r / 65536 = q at *
      generalize 10 * r % 65536 = m at *
      generalize 10 ^ (frac f m).length = T at *
      generalize nat10 (frac f m) = n at *
      have : r * (T * 10) = (65536 * q + m) * T := by rw [hd]; grind
      rw [this]
      grind
theorem frac_len (f : Nat) : ∀ r, (frac f r).length ≤ f := by
  induction f with
  | zero => intro r; simp [frac]
  | succ f ih => intro r; unfold frac; split; · simp
                 · have := ih (10 * r % 65536); simp; omega
theorem frac_ne (f r : Nat) (h : r ≠ 0) : frac (f + 1) r ≠ [] := by unfold frac; rw [if_neg h]; simp
/-- More room makes no difference. -/
theorem frac_more (f : Nat) : ∀ r, Ends f r → frac (f + 1) r = frac f r := by
  induction f with
  | zero => intro r h; rw [h.zero]; rfl
  | succ f ih =>
    intro r h
    rw [frac]
    conv => rhs; rw [frac]
    split
    · rfl
    · rw [ih _ h.next]

def signL (neg : Bool) : List UInt8 := if neg then [45] else []
/-- The text of the number of size S. -/
def printL (neg : Bool) (S : Nat) : List UInt8 := signL neg ++ (digL (S / 65536) ++ ptL (decide (S % 65536 ≠ 0)) (frac 16 (S % 65536)))
theorem print_num (neg : Bool) (S : Nat) : IsNum (printL neg S) (signL neg) (digL (S / 65536)) (decide (S % 65536 ≠ 0)) (frac 16 (S % 65536)) none := by
  have h := Nat.mod_lt S (show 65536 > 0 by decide)
  refine ⟨?_, digL_all _, frac_all 16 _ h, ?_, ?_, trivial, ?_⟩
  · cases neg
    · exact Or.inl rfl
    · exact Or.inr (Or.inr rfl)
  · intro e
    have : S % 65536 = 0 := by simpa using e
    rw [this]; exact frac_zero 16
  · have := digL_pos (S / 65536); omega
  · unfold printL; simp [expo]
theorem print_sign (neg : Bool) : decide (signL neg = [45]) = neg := by cases neg <;> rfl
theorem near_exact (z : Int) (d : Nat) (hd : 0 < d) : near (z * d) d = z := by
  have := near_whole 0 z d hd
  rw [Int.zero_add] at this
  rw [this]
  unfold near
  rw [Int.zero_add, Int.ediv_eq_zero_of_lt (by omega) (by omega)]
  omega
theorem print_ans (neg : Bool) (S : Nat) : ansF (signL neg) (digL (S / 65536)) (frac 16 (S % 65536)) none = ansV (sg neg S) := by
  unfold ansF
  rw [print_sign]
  congr 1
  show nearV neg _ (0 - _) = _
  have h := Nat.mod_lt S (show 65536 > 0 by decide)
  have e := frac_val 16 _ (ends_start _ h)
  have hv : nat10 (digL (S / 65536) ++ frac 16 (S % 65536)) * 65536 = S * 10 ^ (frac 16 (S % 65536)).length := by
    rw [nat10_append, digL_nat, Nat.add_mul, e]
    have hd := Nat.div_add_mod S 65536
    generalize S / 65536 = q at *
    generalize 10 ^ (frac 16 (S % 65536)).length = T at *
    generalize S % 65536 = m at *
    rw [← hd]
    grind
  unfold nearV
  rw [show ((0 : Int) - ((frac 16 (S % 65536)).length : Int)).toNat = 0 from by omega, show (-((0 : Int) - ((frac 16 (S % 65536)).length : Int))).toNat = (frac 16 (S % 65536)).length from by omega, Nat.pow_zero, Nat.mul_one, hv]
  have hp : 0 < 10 ^ (frac 16 (S % 65536)).length := Nat.pow_pos (by decide)
  generalize 10 ^ (frac 16 (S % 65536)).length = T at *
  have es : sg neg (S * T) = sg neg S * (T : Int) := by
    cases neg
    · rw [sg_false, sg_false]; push_cast; rfl
    · rw [sg_true, sg_true]; push_cast; rw [Int.neg_mul]
  rw [es]
  exact near_exact _ _ hp
end Go.Proofs.YtgiibcnakiggaaaDoor
