/-
  The contracts of package dec's walk and Scan: how far a number's text goes, from any place of any text.
-/
import Derived.Test.YtchngbdkgfjpcaaDoorBase
import Derived.Test.YtchngbdkgfjpcaaDoorJMath
import Derived.Deep.QuietTactic
namespace Go.Proofs.YtchngbdkgfjpcaaDoor
open Go.RowKit Go.Shelf

/-- The table of states lies in memory as its text says. -/
def Follows (w : World) : Prop := ∀ st k : Nat, st ≤ 8 → k ≤ 3 → w.cell? ⟨4, st * 4 + k, none⟩ = some (.int .i64 (follow st k : Int))
theorem follow_le (st k : Nat) : follow st k ≤ 8 := by
  unfold follow; split <;> omega
theorem follow_4 (st : Nat) : follow st 4 = 0 := by unfold follow; split <;> simp_all

theorem byte_cases (c : Nat) : (c = 48 ∨ c = 49 ∨ c = 50 ∨ c = 51 ∨ c = 52 ∨ c = 53 ∨ c = 54 ∨ c = 55 ∨ c = 56 ∨ c = 57) ∨ (c = 43 ∨ c = 45) ∨ c = 46 ∨ (c = 101 ∨ c = 69) ∨
    (c ≠ 48 ∧ c ≠ 49 ∧ c ≠ 50 ∧ c ≠ 51 ∧ c ≠ 52 ∧ c ≠ 53 ∧ c ≠ 54 ∧ c ≠ 55 ∧ c ≠ 56 ∧ c ≠ 57 ∧ c ≠ 43 ∧ c ≠ 45 ∧ c ≠ 46 ∧ c ≠ 101 ∧ c ≠ 69) := by omega

theorem drop_cons (s : ByteArray) (k : Nat) (h : k < s.size) : s.data.toList.drop k = s[k] :: s.data.toList.drop (k + 1) := by
  rw [List.drop_eq_getElem_cons (by simpa using h)]; rfl

theorem walk_cons (s : ByteArray) (k q : Nat) (h : k < s.size) : walkL (s.data.toList.drop k) q = if follow q (kindB s[k]) = 0 then (0, q) else ((walkL (s.data.toList.drop (k + 1)) (follow q (kindB s[k]))).1 + 1, (walkL (s.data.toList.drop (k + 1)) (follow q (kindB s[k]))).2) := by
  rw [drop_cons s k h]; rfl

theorem kind_none (b : UInt8) (h : b.toNat ≠ 48 ∧ b.toNat ≠ 49 ∧ b.toNat ≠ 50 ∧ b.toNat ≠ 51 ∧ b.toNat ≠ 52 ∧ b.toNat ≠ 53 ∧ b.toNat ≠ 54 ∧ b.toNat ≠ 55 ∧ b.toNat ≠ 56 ∧ b.toNat ≠ 57 ∧ b.toNat ≠ 43 ∧ b.toNat ≠ 45 ∧ b.toNat ≠ 46 ∧ b.toNat ≠ 101 ∧ b.toNat ≠ 69) : kindB b = 4 := by
  have a1 : isDig b = false := by unfold isDig; simp; omega
  have a2 : isSgn b = false := by unfold isSgn; simp; omega
  have a3 : isPt b = false := by unfold isPt; simp; omega
  have a4 : isLet b = false := by unfold isLet; simp; omega
  simp [kindB, a1, a2, a3, a4]
theorem walk_fin {l : List UInt8} {a st k q : Nat} (h : a + (walkL (l.drop a) st).1 = k + (walkL (l.drop k) q).1 ∧ (walkL (l.drop a) st).2 = (walkL (l.drop k) q).2) (E : walkL (l.drop k) q = (0, q)) :
    Ending.returned (.tuple #[.int .i64 (k : Int), .int .i64 (q : Int)]) = Ending.returned (.tuple #[.int .i64 ((a + (walkL (l.drop a) st).1 : Nat) : Int), .int .i64 ((walkL (l.drop a) st).2 : Int)]) := by
  rw [h.1, h.2, E]; rfl

set_option maxHeartbeats 4000000 in
theorem walk_any (s : ByteArray) (a st : Nat) (w : World) (hs : s.size ≤ maxLen) (ha : a ≤ s.size) (h0 : st ≤ 8) (hF : Follows w) :
    Calls Tryd.prog 85 #[.string s, .int .i64 (a : Int), .int .i64 (st : Int)] w fun e w' => e = .returned (.tuple #[.int .i64 ((a + (walkL (s.data.toList.drop a) st).1 : Nat) : Int), .int .i64 ((walkL (s.data.toList.drop a) st).2 : Int)]) ∧ w = w' := by
  have hs' : s.size ≤ 9223372036854775807 := hs
  clear hs
  have HF := Lib.hid hF
  clear hF
  go_enter Tryd.func85, Tryd.ntmps85
  go_wp2_with fail
  go_step3
  go_wp2_with fail
  go_step3
  go_wp2_with fail
  go_loop [1, 2, 8, 9] (fun i m _ _ => ∃ k q : Nat, k ≤ s.size ∧ q ≤ 8 ∧ i = .int .i64 (k : Int) ∧ m = .int .i64 (q : Int) ∧ Hid (a + (walkL (s.data.toList.drop a) st).1 = k + (walkL (s.data.toList.drop k) q).1 ∧ (walkL (s.data.toList.drop a) st).2 = (walkL (s.data.toList.drop k) q).2)) (fun i _ _ _ => s.size - (intOf i).toNat)
  case atStart => exact ⟨a, st, ha, h0, rfl, rfl, ⟨rfl, rfl⟩⟩
  case round =>
    obtain ⟨k, q, hk, hq, rfl, rfl, hw⟩ := hrel
    by_cases hlt : k < s.size
    · have HST := Lib.hid (walk_cons s k q hlt)
      rcases byte_cases s[k].toNat with h | h | h | h | h
      · have HC := Lib.hid (HF.out q 0 hq (by omega))
        rw [kind_dig (by unfold isDig; rcases h with h | h | h | h | h | h | h | h | h | h <;> simp [h])] at HST
        have hl := follow_le q 0
        generalize follow q 0 = nx at *
        by_cases hz : nx = 0
        · have E := Lib.hid (show walkL (s.data.toList.drop k) q = (0, q) by rw [HST.out, if_pos hz])
          subst hz
          rcases h with h | h | h | h | h | h | h | h | h | h
          all_goals
            have hc := HC.out
            simp only [Nat.add_zero] at hc
            go_wp2_with fail
            go_ret2
            exact ⟨walk_fin hw.out E.out, rfl⟩
        · have hn : ((nx : Int) == 0) = false := by rw [beq_eq_false_iff_ne]; omega
          rcases h with h | h | h | h | h | h | h | h | h | h
          all_goals
            have hc := HC.out
            simp only [Nat.add_zero] at hc
            go_wp2_with fail
            go_round
            case rel => exact ⟨k + 1, nx, by omega, hl, by go_num, rfl, ⟨by have := hw.out; rw [HST.out, if_neg hz] at this; simp at this; omega, by have := hw.out; rw [HST.out, if_neg hz] at this; simpa using this.2⟩⟩
            case measure => simp [intOf]; omega
      · have HC := Lib.hid (HF.out q 1 hq (by omega))
        rw [show kindB s[k] = 1 from by unfold kindB isDig isSgn; rcases h with h | h <;> simp [h]] at HST
        have hl := follow_le q 1
        generalize follow q 1 = nx at *
        by_cases hz : nx = 0
        · have E := Lib.hid (show walkL (s.data.toList.drop k) q = (0, q) by rw [HST.out, if_pos hz])
          subst hz
          rcases h with h | h
          all_goals
            have hc := HC.out
            skip
            go_wp2_with fail
            go_ret2
            exact ⟨walk_fin hw.out E.out, rfl⟩
        · have hn : ((nx : Int) == 0) = false := by rw [beq_eq_false_iff_ne]; omega
          rcases h with h | h
          all_goals
            have hc := HC.out
            skip
            go_wp2_with fail
            go_round
            case rel => exact ⟨k + 1, nx, by omega, hl, by go_num, rfl, ⟨by have := hw.out; rw [HST.out, if_neg hz] at this; simp at this; omega, by have := hw.out; rw [HST.out, if_neg hz] at this; simpa using this.2⟩⟩
            case measure => simp [intOf]; omega
      · have HC := Lib.hid (HF.out q 2 hq (by omega))
        rw [show kindB s[k] = 2 from by unfold kindB isDig isSgn isPt; simp [h]] at HST
        have hl := follow_le q 2
        generalize follow q 2 = nx at *
        by_cases hz : nx = 0
        · have E := Lib.hid (show walkL (s.data.toList.drop k) q = (0, q) by rw [HST.out, if_pos hz])
          subst hz
          · have hc := HC.out
            skip
            go_wp2_with fail
            go_ret2
            exact ⟨walk_fin hw.out E.out, rfl⟩
        · have hn : ((nx : Int) == 0) = false := by rw [beq_eq_false_iff_ne]; omega
          · have hc := HC.out
            skip
            go_wp2_with fail
            go_round
            case rel => exact ⟨k + 1, nx, by omega, hl, by go_num, rfl, ⟨by have := hw.out; rw [HST.out, if_neg hz] at this; simp at this; omega, by have := hw.out; rw [HST.out, if_neg hz] at this; simpa using this.2⟩⟩
            case measure => simp [intOf]; omega
      · have HC := Lib.hid (HF.out q 3 hq (by omega))
        rw [show kindB s[k] = 3 from by unfold kindB isDig isSgn isPt isLet; rcases h with h | h <;> simp [h]] at HST
        have hl := follow_le q 3
        generalize follow q 3 = nx at *
        by_cases hz : nx = 0
        · have E := Lib.hid (show walkL (s.data.toList.drop k) q = (0, q) by rw [HST.out, if_pos hz])
          subst hz
          rcases h with h | h
          all_goals
            have hc := HC.out
            skip
            go_wp2_with fail
            go_ret2
            exact ⟨walk_fin hw.out E.out, rfl⟩
        · have hn : ((nx : Int) == 0) = false := by rw [beq_eq_false_iff_ne]; omega
          rcases h with h | h
          all_goals
            have hc := HC.out
            skip
            go_wp2_with fail
            go_round
            case rel => exact ⟨k + 1, nx, by omega, hl, by go_num, rfl, ⟨by have := hw.out; rw [HST.out, if_neg hz] at this; simp at this; omega, by have := hw.out; rw [HST.out, if_neg hz] at this; simpa using this.2⟩⟩
            case measure => simp [intOf]; omega
      · have E := Lib.hid (show walkL (s.data.toList.drop k) q = (0, q) by rw [HST.out, kind_none _ h, follow_4, if_pos rfl])
        obtain ⟨h1, h2, h3, h4, h5, h6, h7, h8, h9, h10, h11, h12, h13, h14, h15⟩ := h
        have e1 : ((s[k].toNat : Int) == 48) = false := by rw [beq_eq_false_iff_ne]; omega
        have e2 : ((s[k].toNat : Int) == 49) = false := by rw [beq_eq_false_iff_ne]; omega
        have e3 : ((s[k].toNat : Int) == 50) = false := by rw [beq_eq_false_iff_ne]; omega
        have e4 : ((s[k].toNat : Int) == 51) = false := by rw [beq_eq_false_iff_ne]; omega
        have e5 : ((s[k].toNat : Int) == 52) = false := by rw [beq_eq_false_iff_ne]; omega
        have e6 : ((s[k].toNat : Int) == 53) = false := by rw [beq_eq_false_iff_ne]; omega
        have e7 : ((s[k].toNat : Int) == 54) = false := by rw [beq_eq_false_iff_ne]; omega
        have e8 : ((s[k].toNat : Int) == 55) = false := by rw [beq_eq_false_iff_ne]; omega
        have e9 : ((s[k].toNat : Int) == 56) = false := by rw [beq_eq_false_iff_ne]; omega
        have e10 : ((s[k].toNat : Int) == 57) = false := by rw [beq_eq_false_iff_ne]; omega
        have e11 : ((s[k].toNat : Int) == 43) = false := by rw [beq_eq_false_iff_ne]; omega
        have e12 : ((s[k].toNat : Int) == 45) = false := by rw [beq_eq_false_iff_ne]; omega
        have e13 : ((s[k].toNat : Int) == 46) = false := by rw [beq_eq_false_iff_ne]; omega
        have e14 : ((s[k].toNat : Int) == 101) = false := by rw [beq_eq_false_iff_ne]; omega
        have e15 : ((s[k].toNat : Int) == 69) = false := by rw [beq_eq_false_iff_ne]; omega
        clear h1 h2 h3 h4 h5 h6 h7 h8 h9 h10 h11 h12 h13 h14 h15
        go_wp2_with fail
        go_ret2
        exact ⟨walk_fin hw.out E.out, rfl⟩
    · have e : walkL (s.data.toList.drop k) q = (0, q) := by rw [List.drop_of_length_le (by simp; omega)]; rfl
      have E := Lib.hid e
      clear e
      go_wp2_with fail
      go_ret2
      exact ⟨walk_fin hw.out E.out, rfl⟩

/-- Whether a number's text may end there. -/
theorem whole_any (st : Nat) (w : World) (h : st ≤ 8) : Calls Tryd.prog 86 #[.int .i64 (st : Int)] w fun e w' => e = .returned (.bool (wholeS st)) ∧ w = w' := by
  have hh : st = 0 ∨ st = 1 ∨ st = 2 ∨ st = 3 ∨ st = 4 ∨ st = 5 ∨ st = 6 ∨ st = 7 ∨ st = 8 := by omega
  rcases hh with rfl | rfl | rfl | rfl | rfl | rfl | rfl | rfl | rfl
  all_goals
    go_enter Tryd.func86, Tryd.ntmps86
    go_wp2_with fail
    go_ret
    exact ⟨rfl, rfl⟩
theorem walk_snd_le (l : List UInt8) : ∀ st, st ≤ 8 → (walkL l st).2 ≤ 8 := by
  induction l with
  | nil => intro st h; exact h
  | cons b t ih =>
    intro st h
    unfold walkL
    split
    · exact h
    · exact ih _ (follow_le _ _)

/-- Scan: from any place within the text. -/
theorem Scan_any (s : ByteArray) (a : Nat) (signed : Bool) (w : World) (hs : s.size ≤ maxLen) (ha : a ≤ s.size) (hF : Follows w) :
    Calls Tryd.prog 75 #[.string s, .int .i64 (a : Int), .bool signed] w fun e w' => e = .returned (.tuple #[.int .i64 ((a + (walkL (s.data.toList.drop a) (if signed then 1 else 2)).1 : Nat) : Int), .bool (wholeS (walkL (s.data.toList.drop a) (if signed then 1 else 2)).2)]) ∧ w = w' := by
  have hs' : s.size ≤ 9223372036854775807 := hs
  have A := Lib.hid (fun w (hF : Follows w) => walk_any s a (if signed then 1 else 2) w hs ha (by cases signed <;> decide) hF)
  have B := Lib.hid (fun w => whole_any (walkL (s.data.toList.drop a) (if signed then 1 else 2)).2 w (walk_snd_le _ _ (by cases signed <;> decide)))
  have HF := Lib.hid hF
  clear hs hF
  cases signed
  all_goals
    simp only [Bool.false_eq_true, if_true, if_false] at A B ⊢
    generalize (a + (walkL (s.data.toList.drop a) _).1) = x at *
    generalize (walkL (s.data.toList.drop a) _).2 = y at *
    generalize wholeS y = z at *
    go_enter Tryd.func75, Tryd.ntmps75
    go_wp2_with fail
    refine (A.out _ HF.out).mono ?_
    rintro e w1 ⟨rfl, rfl⟩
    go_wp2_with fail
    refine (B.out _).mono ?_
    rintro e w2 ⟨rfl, rfl⟩
    go_wp2_with fail
    go_ret2
    exact ⟨rfl, rfl⟩
end Go.Proofs.YtchngbdkgfjpcaaDoor
