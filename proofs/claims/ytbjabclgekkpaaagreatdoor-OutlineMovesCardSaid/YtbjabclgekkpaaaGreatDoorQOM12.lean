/- Joined: Ref4Scan. -/
import Derived.Test.YtbjabclgekkpaaaGreatDoorQOM08
import Derived.Test.YtbjabclgekkpaaaGreatDoorQOM11
namespace Go.Proofs.YtbjabclgekkpaaaGreatDoor
open Go.RowKit Go.Shelf
theorem head_at (s : ByteArray) (i : Nat) (p : UInt8 → Bool) : headIs p (s.data.toList.drop i) = if h : i < s.size then p s[i] else false := by
  split
  · rename_i h; rw [drop_cons s i h]; rfl
  · rename_i h; rw [List.drop_of_length_le (by simp; exact Nat.le_of_not_lt h)]; rfl
set_option maxRecDepth 100000 in
theorem rdigit_any (s : ByteArray) (i : Nat) (w : World) :
    Calls Tryz.prog 197 #[.string s, .int .i64 (i : Int)] w fun e w' => e = .returned (.bool (headIs isDig (s.data.toList.drop i))) ∧ w = w' := by
  have H := Lib.hid (head_at s i isDig)
  by_cases hi : i < s.size
  · have HH := Lib.hid (show headIs isDig (s.data.toList.drop i) = isDig s[i] by rw [H.out, dif_pos hi])
    clear H
    by_cases h1 : 48 ≤ s[i].toNat
    · by_cases h2 : s[i].toNat ≤ 57
      · have e : isDig s[i] = true := by simp [isDig, h1, h2]
        have d2 : decide ((s[i].toNat : Int) ≤ 57) = true := decide_eq_true (by omega)
        go_enter Tryz.func197, Tryz.ntmps197
        go_wp2_with fail
        go_ret
        exact ⟨by rw [HH.out, e]; rfl, rfl⟩
      · have e : isDig s[i] = false := by simp [isDig]; omega
        have d2 : decide ((s[i].toNat : Int) ≤ 57) = false := decide_eq_false (by omega)
        go_enter Tryz.func197, Tryz.ntmps197
        go_wp2_with fail
        go_ret
        exact ⟨by rw [HH.out, e]; rfl, rfl⟩
    · have e : isDig s[i] = false := by simp [isDig]; omega
      go_enter Tryz.func197, Tryz.ntmps197
      go_wp2_with fail
      go_ret
      exact ⟨by rw [HH.out, e]; rfl, rfl⟩
  · have e := H.out
    rw [dif_neg hi] at e
    have E := Lib.hid e
    clear e H
    go_enter Tryz.func197, Tryz.ntmps197
    go_wp2_with fail
    go_ret
    exact ⟨by rw [E.out]; rfl, rfl⟩
set_option maxRecDepth 100000 in
theorem rsign_any (s : ByteArray) (i : Nat) (w : World) :
    Calls Tryz.prog 162 #[.string s, .int .i64 (i : Int)] w fun e w' => e = .returned (.bool (headIs isSgn (s.data.toList.drop i))) ∧ w = w' := by
  have H := Lib.hid (head_at s i isSgn)
  by_cases hi : i < s.size
  · have HH := Lib.hid (show headIs isSgn (s.data.toList.drop i) = isSgn s[i] by rw [H.out, dif_pos hi])
    clear H
    by_cases h1 : s[i].toNat = 43
    · have e : isSgn s[i] = true := by simp [isSgn, h1]
      go_enter Tryz.func162, Tryz.ntmps162
      go_wp2_with fail
      go_ret
      exact ⟨by rw [HH.out, e]; rfl, rfl⟩
    · by_cases h2 : s[i].toNat = 45
      · have e : isSgn s[i] = true := by simp [isSgn, h2]
        go_enter Tryz.func162, Tryz.ntmps162
        go_wp2_with fail
        go_ret
        exact ⟨by rw [HH.out, e]; rfl, rfl⟩
      · have e : isSgn s[i] = false := by simp [isSgn, h1, h2]
        have g1 : ((s[i].toNat : Int) == 43) = false := by rw [beq_eq_false_iff_ne]; omega
        have g2 : ((s[i].toNat : Int) == 45) = false := by rw [beq_eq_false_iff_ne]; omega
        go_enter Tryz.func162, Tryz.ntmps162
        go_wp2_with fail
        go_ret
        exact ⟨by rw [HH.out, e]; rfl, rfl⟩
  · have e := H.out
    rw [dif_neg hi] at e
    have E := Lib.hid e
    clear e H
    go_enter Tryz.func162, Tryz.ntmps162
    go_wp2_with fail
    go_ret
    exact ⟨by rw [E.out]; rfl, rfl⟩
set_option maxRecDepth 100000 in
theorem rrun_any (s : ByteArray) (i : Nat) (w : World) (hs : s.size ≤ 100000) (hi : i ≤ s.size) :
    Calls Tryz.prog 163 #[.string s, .int .i64 (i : Int)] w fun e w' => e = .returned (.int .i64 ((i + run (s.data.toList.drop i) : Nat) : Int)) ∧ w = w' := by
  have D := Lib.hid (fun j w => rdigit_any s j w)
  go_enter Tryz.func163, Tryz.ntmps163
  go_wp2_with fail
  go_loop [1] (fun v => ∃ k : Nat, k ≤ s.size ∧ v = .int .i64 (k : Int) ∧ Hid (i + run (s.data.toList.drop i) = k + run (s.data.toList.drop k))) (fun v => s.size - (intOf v).toNat)
  case atStart => exact ⟨i, hi, rfl, Lib.hid rfl⟩
  case round =>
    obtain ⟨k, hk, rfl, hr⟩ := hrel
    go_wp2_with fail
    refine (D.out k _).mono ?_
    rintro e w1 ⟨rfl, rfl⟩
    cases hd : headIs isDig (s.data.toList.drop k) with
    | true =>
      have hlt : k < s.size := by
        refine Nat.lt_of_not_le fun hn => ?_
        rw [List.drop_of_length_le (by simpa using hn)] at hd
        cases hd
      have e1 : run (s.data.toList.drop k) = run (s.data.toList.drop (k + 1)) + 1 := by
        rw [drop_cons s k hlt] at hd ⊢
        have : isDig s[k] = true := hd
        simp [run, this]
      have n1 : IntKind.i64.wrap ((k : Int) + 1) = ((k + 1 : Nat) : Int) := by rw [IntWalk.i64_in _ (by omega)]; omega
      clear hd
      go_wp2_with fail
      go_round
      case rel => exact ⟨k + 1, by omega, by go_num, Lib.hid (by rw [hr.out, e1]; omega)⟩
      case measure => simp [intOf]; omega
    | false =>
      have e1 := run_zero _ hd
      have hf := hr.out
      rw [e1] at hf
      have HF := Lib.hid hf
      clear hf hd e1
      go_wp2_with fail
      go_ret
      exact ⟨by rw [HF.out]; rfl, rfl⟩
theorem size_drop (s : ByteArray) (j : Nat) (h : j ≤ s.size) : j + run (s.data.toList.drop j) ≤ s.size := by
  have := run_le (s.data.toList.drop j)
  rw [List.length_drop, Array.length_toList] at this
  have e : s.data.size = s.size := rfl
  omega
theorem head_lt (s : ByteArray) (j : Nat) (p : UInt8 → Bool) (h : headIs p (s.data.toList.drop j) = true) : j < s.size := by
  rw [head_at] at h
  split at h
  · assumption
  · cases h
theorem head_in (s : ByteArray) (j : Nat) (p : UInt8 → Bool) (h : j < s.size) : headIs p (s.data.toList.drop j) = p s[j] := by rw [head_at, dif_pos h]
theorem head_out (s : ByteArray) (j : Nat) (p : UInt8 → Bool) (h : ¬ j < s.size) : headIs p (s.data.toList.drop j) = false := by rw [head_at, dif_neg h]
theorem pt_46 {b : UInt8} (h : b.toNat = 46) : isPt b = true := by simp [isPt, h]
theorem pt_not46 {b : UInt8} (h : b.toNat ≠ 46) : isPt b = false := by simp [isPt, h]
theorem let_101 {b : UInt8} (h : b.toNat = 101 ∨ b.toNat = 69) : isLet b = true := by simpa [isLet] using h
theorem let_not101 {b : UInt8} (h : b.toNat ≠ 101) (k : b.toNat ≠ 69) : isLet b = false := by simp [isLet, h, k]
def ScanPost (X : Nat × Bool) (w : World) (e : Ending) (w' : World) : Prop := e = .returned (.tuple #[.int .i64 (X.1 : Int), .bool X.2]) ∧ w = w'
theorem body_eq (L : List UInt8) (j a : Nat) (h : j + run (L.drop j) = a) : bodyAt L j = if headIs isPt (L.drop a) then (if a = j ∧ run (L.drop (a + 1)) = 0 then (j + 1, false) else tailAt L (a + 1 + run (L.drop (a + 1)))) else if a = j then (j, false) else tailAt L a := by
  subst h
  unfold bodyAt
  have e : (run (L.drop j) = 0) = (j + run (L.drop j) = j) := propext ⟨fun h => by omega, fun h => by omega⟩
  simp only [e]
theorem scan_post {X : Nat × Bool} {w : World} {n : Nat} {ok : Bool} (h : X = (n, ok)) {x : Int} (hx : x = (n : Int)) : ScanPost X w (.returned (.tuple #[.int .i64 x, .bool ok])) w := by
  subst h; subst hx; exact ⟨rfl, rfl⟩
set_option maxHeartbeats 4000000 in
set_option maxRecDepth 100000 in
theorem rscan_any (s : ByteArray) (i : Nat) (signed : Bool) (w : World) (hs : s.size ≤ 100000) (hi : i ≤ s.size) :
    Calls Tryz.prog 124 #[.string s, .int .i64 (i : Int), .bool signed] w (ScanPost (scanAt s.data.toList i signed) w) := by
  have S := Lib.hid (fun j w => rsign_any s j w)
  have R := Lib.hid (fun j w h => rrun_any s j w hs h)
  have SD := Lib.hid (size_drop s)
  have n1 : IntKind.i64.wrap ((i : Int) + 1) = ((i + 1 : Nat) : Int) := by rw [IntWalk.i64_in _ (by omega)]; omega
  go_enter Tryz.func124, Tryz.ntmps124
  obtain ⟨j, E0, hj, C⟩ : ∃ j : Nat, Hid (scanAt s.data.toList i signed = bodyAt s.data.toList j) ∧ j ≤ s.size ∧ ((signed = false ∧ j = i) ∨ (signed = true ∧ headIs isSgn (s.data.toList.drop i) = true ∧ j = i + 1) ∨ (signed = true ∧ headIs isSgn (s.data.toList.drop i) = false ∧ j = i)) := by
    cases signed with
    | false => exact ⟨i, Lib.hid (by simp [scanAt]), hi, Or.inl ⟨rfl, rfl⟩⟩
    | true =>
      cases h : headIs isSgn (s.data.toList.drop i) with
      | true => exact ⟨i + 1, Lib.hid (by simp [scanAt, h]), head_lt s i _ h, Or.inr (Or.inl ⟨rfl, rfl, rfl⟩)⟩
      | false => exact ⟨i, Lib.hid (by simp [scanAt, h]), hi, Or.inr (Or.inr ⟨rfl, rfl, rfl⟩)⟩
  generalize scanAt s.data.toList i signed = X at *
  rcases C with ⟨rfl, rfl⟩ | ⟨rfl, hsg, rfl⟩ | ⟨rfl, hsg, rfl⟩
  · go_wp2_with fail
    obtain ⟨a, HA⟩ : ∃ a, Hid (j + run (s.data.toList.drop j) = a) := ⟨_, Lib.hid rfl⟩
    have RA := Lib.hid (R.out j w hj)
    rw [HA.out] at RA
    have a1 : j ≤ a := by have := HA.out; omega
    have a2 : a ≤ s.size := by rw [← HA.out]; exact SD.out j hj
    have EB := Lib.hid (E0.out.trans (body_eq s.data.toList j a HA.out))
    clear E0 HA
    refine RA.out.mono ?_
    rintro e w1 ⟨rfl, rfl⟩
    clear RA
    by_cases ha : a < s.size
    · by_cases hp : s[a].toNat = 46
      · obtain ⟨b, HB⟩ : ∃ b, Hid (a + 1 + run (s.data.toList.drop (a + 1)) = b) := ⟨_, Lib.hid rfl⟩
        have RB := Lib.hid (R.out (a + 1) w ha)
        rw [HB.out, show ((a + 1 : Nat) : Int) = (a : Int) + 1 from by omega] at RB
        have b1 : a + 1 ≤ b := by have := HB.out; omega
        have b2 : b ≤ s.size := by rw [← HB.out]; exact SD.out (a + 1) ha
        have m0 : IntKind.i64.wrap ((a : Int) + 1) = (a : Int) + 1 := IntWalk.i64_in _ (by omega)
        by_cases hz : a = j ∧ b = a + 1
        · have HQ := Lib.hid (show X = (j + 1, false) from EB.out.trans (by rw [head_in s a _ ha, if_pos (pt_46 hp), if_pos ⟨hz.1, by have := HB.out; omega⟩]))
          obtain ⟨rfl, rfl⟩ := hz
          clear EB HB
          go_wp2_with fail
          refine RB.out.mono ?_
          rintro e w1 ⟨rfl, rfl⟩
          go_wp2_with fail
          go_ret2
          first | exact scan_post HQ.out rfl | exact scan_post HQ.out (Int.natCast_add _ _).symm
        · have HT := Lib.hid (show X = tailAt s.data.toList b from EB.out.trans (by rw [head_in s a _ ha, if_pos (pt_46 hp), if_neg (fun h => hz ⟨h.1, by have := HB.out; omega⟩), HB.out]))
          clear EB HB
          by_cases hy : a = j
          · obtain rfl := hy
            have hb' : a + 1 < b := by omega
            have d1 : decide ((a : Int) + 1 < (b : Int)) = true := decide_eq_true (by omega)
            clear hz
            go_wp2_with fail
            refine RB.out.mono ?_
            rintro e w1 ⟨rfl, rfl⟩
            clear RB
            have HE := HT
            by_cases lt : b < s.size
            · by_cases q1 : s[b].toNat = 101 ∨ s[b].toNat = 69
              · have HP := Lib.hid (show X = powAt s.data.toList (b + 1) from HE.out.trans (by unfold tailAt; rw [head_in s b _ lt, if_pos (let_101 q1)]))
                have SG := Lib.hid (S.out (b + 1) w)
                rw [show ((b + 1 : Nat) : Int) = (b : Int) + 1 from by omega] at SG
                have m1 : IntKind.i64.wrap ((b : Int) + 1) = (b : Int) + 1 := IntWalk.i64_in _ (by omega)
                cases hsg : headIs isSgn (s.data.toList.drop (b + 1)) with
                | true =>
                  have t2 : b + 1 < s.size := head_lt s _ _ hsg
                  obtain ⟨c, HC⟩ : ∃ c, Hid (b + 2 + run (s.data.toList.drop (b + 2)) = c) := ⟨_, Lib.hid rfl⟩
                  have RC := Lib.hid (R.out (b + 2) w (by omega))
                  rw [HC.out, show ((b + 2 : Nat) : Int) = (b : Int) + 2 from by omega] at RC
                  have c1 : b + 2 ≤ c := by have := HC.out; omega
                  have c2 : c ≤ s.size := by rw [← HC.out]; exact SD.out (b + 2) (by omega)
                  have HQ := Lib.hid (show X = (c, decide ((b : Int) + 2 < (c : Int))) from HP.out.trans (by unfold powAt; rw [if_pos hsg]; show (b + 2 + run (s.data.toList.drop (b + 2)), decide (0 < run (s.data.toList.drop (b + 2)))) = _; rw [HC.out]; refine Prod.ext rfl ?_; show decide _ = decide _; exact decide_eq_decide.2 (by have := HC.out; omega)))
                  have m2 : IntKind.i64.wrap ((b : Int) + 1 + 1) = (b : Int) + 2 := by rw [IntWalk.i64_in _ (by omega)]; omega
                  rw [hsg] at SG
                  clear hsg HP HE HC
                  rcases q1 with q1 | q1
                  all_goals
                    go_wp2_with fail
                    refine SG.out.mono ?_
                    rintro e w1 ⟨rfl, rfl⟩
                    go_wp2_with fail
                    refine RC.out.mono ?_
                    rintro e w1 ⟨rfl, rfl⟩
                    go_wp2_with fail
                    go_ret2
                    first | exact scan_post HQ.out rfl | exact scan_post HQ.out (Int.natCast_add _ _).symm
                | false =>
                  obtain ⟨c, HC⟩ : ∃ c, Hid (b + 1 + run (s.data.toList.drop (b + 1)) = c) := ⟨_, Lib.hid rfl⟩
                  have RC := Lib.hid (R.out (b + 1) w (by omega))
                  rw [HC.out, show ((b + 1 : Nat) : Int) = (b : Int) + 1 from by omega] at RC
                  have c1 : b + 1 ≤ c := by have := HC.out; omega
                  have c2 : c ≤ s.size := by rw [← HC.out]; exact SD.out (b + 1) (by omega)
                  have HQ := Lib.hid (show X = (c, decide ((b : Int) + 1 < (c : Int))) from HP.out.trans (by unfold powAt; rw [if_neg (by rw [hsg]; simp), HC.out]; refine Prod.ext rfl ?_; show decide _ = decide _; exact decide_eq_decide.2 (by have := HC.out; omega)))
                  rw [hsg] at SG
                  clear hsg HP HE HC
                  rcases q1 with q1 | q1
                  all_goals
                    go_wp2_with fail
                    refine SG.out.mono ?_
                    rintro e w1 ⟨rfl, rfl⟩
                    go_wp2_with fail
                    refine RC.out.mono ?_
                    rintro e w1 ⟨rfl, rfl⟩
                    go_wp2_with fail
                    go_ret2
                    first | exact scan_post HQ.out rfl | exact scan_post HQ.out (Int.natCast_add _ _).symm
              · have q2 : s[b].toNat ≠ 101 := fun h => q1 (Or.inl h)
                have q3 : s[b].toNat ≠ 69 := fun h => q1 (Or.inr h)
                have g2 : ((s[b].toNat : Int) == 101) = false := by rw [beq_eq_false_iff_ne]; omega
                have g3 : ((s[b].toNat : Int) == 69) = false := by rw [beq_eq_false_iff_ne]; omega
                have HQ := Lib.hid (show X = (b, true) from HE.out.trans (by unfold tailAt; rw [head_in s b _ lt, if_neg (by rw [let_not101 q2 q3]; simp)]))
                clear q1 q2 q3 HE
                go_wp2_with fail
                go_ret2
                first | exact scan_post HQ.out rfl | exact scan_post HQ.out (Int.natCast_add _ _).symm
            · have HQ := Lib.hid (show X = (b, true) from HE.out.trans (by unfold tailAt; rw [head_out s b _ lt, if_neg (by simp)]))
              clear HE
              go_wp2_with fail
              go_ret2
              first | exact scan_post HQ.out rfl | exact scan_post HQ.out (Int.natCast_add _ _).symm
          · have hy' : j < a := by omega
            clear hz
            go_wp2_with fail
            refine RB.out.mono ?_
            rintro e w1 ⟨rfl, rfl⟩
            clear RB
            have HE := HT
            by_cases lt : b < s.size
            · by_cases q1 : s[b].toNat = 101 ∨ s[b].toNat = 69
              · have HP := Lib.hid (show X = powAt s.data.toList (b + 1) from HE.out.trans (by unfold tailAt; rw [head_in s b _ lt, if_pos (let_101 q1)]))
                have SG := Lib.hid (S.out (b + 1) w)
                rw [show ((b + 1 : Nat) : Int) = (b : Int) + 1 from by omega] at SG
                have m1 : IntKind.i64.wrap ((b : Int) + 1) = (b : Int) + 1 := IntWalk.i64_in _ (by omega)
                cases hsg : headIs isSgn (s.data.toList.drop (b + 1)) with
                | true =>
                  have t2 : b + 1 < s.size := head_lt s _ _ hsg
                  obtain ⟨c, HC⟩ : ∃ c, Hid (b + 2 + run (s.data.toList.drop (b + 2)) = c) := ⟨_, Lib.hid rfl⟩
                  have RC := Lib.hid (R.out (b + 2) w (by omega))
                  rw [HC.out, show ((b + 2 : Nat) : Int) = (b : Int) + 2 from by omega] at RC
                  have c1 : b + 2 ≤ c := by have := HC.out; omega
                  have c2 : c ≤ s.size := by rw [← HC.out]; exact SD.out (b + 2) (by omega)
                  have HQ := Lib.hid (show X = (c, decide ((b : Int) + 2 < (c : Int))) from HP.out.trans (by unfold powAt; rw [if_pos hsg]; show (b + 2 + run (s.data.toList.drop (b + 2)), decide (0 < run (s.data.toList.drop (b + 2)))) = _; rw [HC.out]; refine Prod.ext rfl ?_; show decide _ = decide _; exact decide_eq_decide.2 (by have := HC.out; omega)))
                  have m2 : IntKind.i64.wrap ((b : Int) + 1 + 1) = (b : Int) + 2 := by rw [IntWalk.i64_in _ (by omega)]; omega
                  rw [hsg] at SG
                  clear hsg HP HE HC
                  rcases q1 with q1 | q1
                  all_goals
                    go_wp2_with fail
                    refine SG.out.mono ?_
                    rintro e w1 ⟨rfl, rfl⟩
                    go_wp2_with fail
                    refine RC.out.mono ?_
                    rintro e w1 ⟨rfl, rfl⟩
                    go_wp2_with fail
                    go_ret2
                    first | exact scan_post HQ.out rfl | exact scan_post HQ.out (Int.natCast_add _ _).symm
                | false =>
                  obtain ⟨c, HC⟩ : ∃ c, Hid (b + 1 + run (s.data.toList.drop (b + 1)) = c) := ⟨_, Lib.hid rfl⟩
                  have RC := Lib.hid (R.out (b + 1) w (by omega))
                  rw [HC.out, show ((b + 1 : Nat) : Int) = (b : Int) + 1 from by omega] at RC
                  have c1 : b + 1 ≤ c := by have := HC.out; omega
                  have c2 : c ≤ s.size := by rw [← HC.out]; exact SD.out (b + 1) (by omega)
                  have HQ := Lib.hid (show X = (c, decide ((b : Int) + 1 < (c : Int))) from HP.out.trans (by unfold powAt; rw [if_neg (by rw [hsg]; simp), HC.out]; refine Prod.ext rfl ?_; show decide _ = decide _; exact decide_eq_decide.2 (by have := HC.out; omega)))
                  rw [hsg] at SG
                  clear hsg HP HE HC
                  rcases q1 with q1 | q1
                  all_goals
                    go_wp2_with fail
                    refine SG.out.mono ?_
                    rintro e w1 ⟨rfl, rfl⟩
                    go_wp2_with fail
                    refine RC.out.mono ?_
                    rintro e w1 ⟨rfl, rfl⟩
                    go_wp2_with fail
                    go_ret2
                    first | exact scan_post HQ.out rfl | exact scan_post HQ.out (Int.natCast_add _ _).symm
              · have q2 : s[b].toNat ≠ 101 := fun h => q1 (Or.inl h)
                have q3 : s[b].toNat ≠ 69 := fun h => q1 (Or.inr h)
                have g2 : ((s[b].toNat : Int) == 101) = false := by rw [beq_eq_false_iff_ne]; omega
                have g3 : ((s[b].toNat : Int) == 69) = false := by rw [beq_eq_false_iff_ne]; omega
                have HQ := Lib.hid (show X = (b, true) from HE.out.trans (by unfold tailAt; rw [head_in s b _ lt, if_neg (by rw [let_not101 q2 q3]; simp)]))
                clear q1 q2 q3 HE
                go_wp2_with fail
                go_ret2
                first | exact scan_post HQ.out rfl | exact scan_post HQ.out (Int.natCast_add _ _).symm
            · have HQ := Lib.hid (show X = (b, true) from HE.out.trans (by unfold tailAt; rw [head_out s b _ lt, if_neg (by simp)]))
              clear HE
              go_wp2_with fail
              go_ret2
              first | exact scan_post HQ.out rfl | exact scan_post HQ.out (Int.natCast_add _ _).symm
      · have g0 : ((s[a].toNat : Int) == 46) = false := by rw [beq_eq_false_iff_ne]; omega
        have EN := Lib.hid (EB.out.trans (by rw [head_in s a _ ha, if_neg (by rw [pt_not46 hp]; simp)]))
        clear EB
        by_cases hy : a = j
        · have HQ := Lib.hid (show X = (j, false) from EN.out.trans (by rw [if_pos hy]))
          obtain rfl := hy
          clear EN
          go_wp2_with fail
          go_ret2
          first | exact scan_post HQ.out rfl | exact scan_post HQ.out (Int.natCast_add _ _).symm
        · have HT := Lib.hid (show X = tailAt s.data.toList a from EN.out.trans (by rw [if_neg hy]))
          have hy' : j < a := by omega
          clear EN
          have HE := HT
          by_cases lt : a < s.size
          · by_cases q1 : s[a].toNat = 101 ∨ s[a].toNat = 69
            · have HP := Lib.hid (show X = powAt s.data.toList (a + 1) from HE.out.trans (by unfold tailAt; rw [head_in s a _ lt, if_pos (let_101 q1)]))
              have SG := Lib.hid (S.out (a + 1) w)
              rw [show ((a + 1 : Nat) : Int) = (a : Int) + 1 from by omega] at SG
              have m1 : IntKind.i64.wrap ((a : Int) + 1) = (a : Int) + 1 := IntWalk.i64_in _ (by omega)
              cases hsg : headIs isSgn (s.data.toList.drop (a + 1)) with
              | true =>
                have t2 : a + 1 < s.size := head_lt s _ _ hsg
                obtain ⟨c, HC⟩ : ∃ c, Hid (a + 2 + run (s.data.toList.drop (a + 2)) = c) := ⟨_, Lib.hid rfl⟩
                have RC := Lib.hid (R.out (a + 2) w (by omega))
                rw [HC.out, show ((a + 2 : Nat) : Int) = (a : Int) + 2 from by omega] at RC
                have c1 : a + 2 ≤ c := by have := HC.out; omega
                have c2 : c ≤ s.size := by rw [← HC.out]; exact SD.out (a + 2) (by omega)
                have HQ := Lib.hid (show X = (c, decide ((a : Int) + 2 < (c : Int))) from HP.out.trans (by unfold powAt; rw [if_pos hsg]; show (a + 2 + run (s.data.toList.drop (a + 2)), decide (0 < run (s.data.toList.drop (a + 2)))) = _; rw [HC.out]; refine Prod.ext rfl ?_; show decide _ = decide _; exact decide_eq_decide.2 (by have := HC.out; omega)))
                have m2 : IntKind.i64.wrap ((a : Int) + 1 + 1) = (a : Int) + 2 := by rw [IntWalk.i64_in _ (by omega)]; omega
                rw [hsg] at SG
                clear hsg HP HE HC
                rcases q1 with q1 | q1
                all_goals
                  go_wp2_with fail
                  refine SG.out.mono ?_
                  rintro e w1 ⟨rfl, rfl⟩
                  go_wp2_with fail
                  refine RC.out.mono ?_
                  rintro e w1 ⟨rfl, rfl⟩
                  go_wp2_with fail
                  go_ret2
                  first | exact scan_post HQ.out rfl | exact scan_post HQ.out (Int.natCast_add _ _).symm
              | false =>
                obtain ⟨c, HC⟩ : ∃ c, Hid (a + 1 + run (s.data.toList.drop (a + 1)) = c) := ⟨_, Lib.hid rfl⟩
                have RC := Lib.hid (R.out (a + 1) w (by omega))
                rw [HC.out, show ((a + 1 : Nat) : Int) = (a : Int) + 1 from by omega] at RC
                have c1 : a + 1 ≤ c := by have := HC.out; omega
                have c2 : c ≤ s.size := by rw [← HC.out]; exact SD.out (a + 1) (by omega)
                have HQ := Lib.hid (show X = (c, decide ((a : Int) + 1 < (c : Int))) from HP.out.trans (by unfold powAt; rw [if_neg (by rw [hsg]; simp), HC.out]; refine Prod.ext rfl ?_; show decide _ = decide _; exact decide_eq_decide.2 (by have := HC.out; omega)))
                rw [hsg] at SG
                clear hsg HP HE HC
                rcases q1 with q1 | q1
                all_goals
                  go_wp2_with fail
                  refine SG.out.mono ?_
                  rintro e w1 ⟨rfl, rfl⟩
                  go_wp2_with fail
                  refine RC.out.mono ?_
                  rintro e w1 ⟨rfl, rfl⟩
                  go_wp2_with fail
                  go_ret2
                  first | exact scan_post HQ.out rfl | exact scan_post HQ.out (Int.natCast_add _ _).symm
            · have q2 : s[a].toNat ≠ 101 := fun h => q1 (Or.inl h)
              have q3 : s[a].toNat ≠ 69 := fun h => q1 (Or.inr h)
              have g2 : ((s[a].toNat : Int) == 101) = false := by rw [beq_eq_false_iff_ne]; omega
              have g3 : ((s[a].toNat : Int) == 69) = false := by rw [beq_eq_false_iff_ne]; omega
              have HQ := Lib.hid (show X = (a, true) from HE.out.trans (by unfold tailAt; rw [head_in s a _ lt, if_neg (by rw [let_not101 q2 q3]; simp)]))
              clear q1 q2 q3 HE
              go_wp2_with fail
              go_ret2
              first | exact scan_post HQ.out rfl | exact scan_post HQ.out (Int.natCast_add _ _).symm
          · exact absurd ha lt
    · have EN := Lib.hid (EB.out.trans (by rw [head_out s a _ ha, if_neg (by simp)]))
      clear EB
      by_cases hy : a = j
      · have HQ := Lib.hid (show X = (j, false) from EN.out.trans (by rw [if_pos hy]))
        obtain rfl := hy
        clear EN
        go_wp2_with fail
        go_ret2
        first | exact scan_post HQ.out rfl | exact scan_post HQ.out (Int.natCast_add _ _).symm
      · have HT := Lib.hid (show X = tailAt s.data.toList a from EN.out.trans (by rw [if_neg hy]))
        have hy' : j < a := by omega
        clear EN
        have HE := HT
        have HQ := Lib.hid (show X = (a, true) from HE.out.trans (by unfold tailAt; rw [head_out s a _ ha, if_neg (by simp)]))
        clear HE
        go_wp2_with fail
        go_ret2
        first | exact scan_post HQ.out rfl | exact scan_post HQ.out (Int.natCast_add _ _).symm
  · go_wp2_with fail
    refine (S.out i _).mono ?_
    rintro e w1 ⟨rfl, rfl⟩
    rw [hsg]
    clear hsg
    go_wp2_with fail
    rw [show ((i : Int) + 1) = ((i + 1 : Nat) : Int) from by omega]
    clear n1
    generalize i + 1 = j at *
    obtain ⟨a, HA⟩ : ∃ a, Hid (j + run (s.data.toList.drop j) = a) := ⟨_, Lib.hid rfl⟩
    have RA := Lib.hid (R.out j w hj)
    rw [HA.out] at RA
    have a1 : j ≤ a := by have := HA.out; omega
    have a2 : a ≤ s.size := by rw [← HA.out]; exact SD.out j hj
    have EB := Lib.hid (E0.out.trans (body_eq s.data.toList j a HA.out))
    clear E0 HA
    refine RA.out.mono ?_
    rintro e w1 ⟨rfl, rfl⟩
    clear RA
    by_cases ha : a < s.size
    · by_cases hp : s[a].toNat = 46
      · obtain ⟨b, HB⟩ : ∃ b, Hid (a + 1 + run (s.data.toList.drop (a + 1)) = b) := ⟨_, Lib.hid rfl⟩
        have RB := Lib.hid (R.out (a + 1) w ha)
        rw [HB.out, show ((a + 1 : Nat) : Int) = (a : Int) + 1 from by omega] at RB
        have b1 : a + 1 ≤ b := by have := HB.out; omega
        have b2 : b ≤ s.size := by rw [← HB.out]; exact SD.out (a + 1) ha
        have m0 : IntKind.i64.wrap ((a : Int) + 1) = (a : Int) + 1 := IntWalk.i64_in _ (by omega)
        by_cases hz : a = j ∧ b = a + 1
        · have HQ := Lib.hid (show X = (j + 1, false) from EB.out.trans (by rw [head_in s a _ ha, if_pos (pt_46 hp), if_pos ⟨hz.1, by have := HB.out; omega⟩]))
          obtain ⟨rfl, rfl⟩ := hz
          clear EB HB
          go_wp2_with fail
          refine RB.out.mono ?_
          rintro e w1 ⟨rfl, rfl⟩
          go_wp2_with fail
          go_ret2
          first | exact scan_post HQ.out rfl | exact scan_post HQ.out (Int.natCast_add _ _).symm
        · have HT := Lib.hid (show X = tailAt s.data.toList b from EB.out.trans (by rw [head_in s a _ ha, if_pos (pt_46 hp), if_neg (fun h => hz ⟨h.1, by have := HB.out; omega⟩), HB.out]))
          clear EB HB
          by_cases hy : a = j
          · obtain rfl := hy
            have hb' : a + 1 < b := by omega
            have d1 : decide ((a : Int) + 1 < (b : Int)) = true := decide_eq_true (by omega)
            clear hz
            go_wp2_with fail
            refine RB.out.mono ?_
            rintro e w1 ⟨rfl, rfl⟩
            clear RB
            have HE := HT
            by_cases lt : b < s.size
            · by_cases q1 : s[b].toNat = 101 ∨ s[b].toNat = 69
              · have HP := Lib.hid (show X = powAt s.data.toList (b + 1) from HE.out.trans (by unfold tailAt; rw [head_in s b _ lt, if_pos (let_101 q1)]))
                have SG := Lib.hid (S.out (b + 1) w)
                rw [show ((b + 1 : Nat) : Int) = (b : Int) + 1 from by omega] at SG
                have m1 : IntKind.i64.wrap ((b : Int) + 1) = (b : Int) + 1 := IntWalk.i64_in _ (by omega)
                cases hsg : headIs isSgn (s.data.toList.drop (b + 1)) with
                | true =>
                  have t2 : b + 1 < s.size := head_lt s _ _ hsg
                  obtain ⟨c, HC⟩ : ∃ c, Hid (b + 2 + run (s.data.toList.drop (b + 2)) = c) := ⟨_, Lib.hid rfl⟩
                  have RC := Lib.hid (R.out (b + 2) w (by omega))
                  rw [HC.out, show ((b + 2 : Nat) : Int) = (b : Int) + 2 from by omega] at RC
                  have c1 : b + 2 ≤ c := by have := HC.out; omega
                  have c2 : c ≤ s.size := by rw [← HC.out]; exact SD.out (b + 2) (by omega)
                  have HQ := Lib.hid (show X = (c, decide ((b : Int) + 2 < (c : Int))) from HP.out.trans (by unfold powAt; rw [if_pos hsg]; show (b + 2 + run (s.data.toList.drop (b + 2)), decide (0 < run (s.data.toList.drop (b + 2)))) = _; rw [HC.out]; refine Prod.ext rfl ?_; show decide _ = decide _; exact decide_eq_decide.2 (by have := HC.out; omega)))
                  have m2 : IntKind.i64.wrap ((b : Int) + 1 + 1) = (b : Int) + 2 := by rw [IntWalk.i64_in _ (by omega)]; omega
                  rw [hsg] at SG
                  clear hsg HP HE HC
                  rcases q1 with q1 | q1
                  all_goals
                    go_wp2_with fail
                    refine SG.out.mono ?_
                    rintro e w1 ⟨rfl, rfl⟩
                    go_wp2_with fail
                    refine RC.out.mono ?_
                    rintro e w1 ⟨rfl, rfl⟩
                    go_wp2_with fail
                    go_ret2
                    first | exact scan_post HQ.out rfl | exact scan_post HQ.out (Int.natCast_add _ _).symm
                | false =>
                  obtain ⟨c, HC⟩ : ∃ c, Hid (b + 1 + run (s.data.toList.drop (b + 1)) = c) := ⟨_, Lib.hid rfl⟩
                  have RC := Lib.hid (R.out (b + 1) w (by omega))
                  rw [HC.out, show ((b + 1 : Nat) : Int) = (b : Int) + 1 from by omega] at RC
                  have c1 : b + 1 ≤ c := by have := HC.out; omega
                  have c2 : c ≤ s.size := by rw [← HC.out]; exact SD.out (b + 1) (by omega)
                  have HQ := Lib.hid (show X = (c, decide ((b : Int) + 1 < (c : Int))) from HP.out.trans (by unfold powAt; rw [if_neg (by rw [hsg]; simp), HC.out]; refine Prod.ext rfl ?_; show decide _ = decide _; exact decide_eq_decide.2 (by have := HC.out; omega)))
                  rw [hsg] at SG
                  clear hsg HP HE HC
                  rcases q1 with q1 | q1
                  all_goals
                    go_wp2_with fail
                    refine SG.out.mono ?_
                    rintro e w1 ⟨rfl, rfl⟩
                    go_wp2_with fail
                    refine RC.out.mono ?_
                    rintro e w1 ⟨rfl, rfl⟩
                    go_wp2_with fail
                    go_ret2
                    first | exact scan_post HQ.out rfl | exact scan_post HQ.out (Int.natCast_add _ _).symm
              · have q2 : s[b].toNat ≠ 101 := fun h => q1 (Or.inl h)
                have q3 : s[b].toNat ≠ 69 := fun h => q1 (Or.inr h)
                have g2 : ((s[b].toNat : Int) == 101) = false := by rw [beq_eq_false_iff_ne]; omega
                have g3 : ((s[b].toNat : Int) == 69) = false := by rw [beq_eq_false_iff_ne]; omega
                have HQ := Lib.hid (show X = (b, true) from HE.out.trans (by unfold tailAt; rw [head_in s b _ lt, if_neg (by rw [let_not101 q2 q3]; simp)]))
                clear q1 q2 q3 HE
                go_wp2_with fail
                go_ret2
                first | exact scan_post HQ.out rfl | exact scan_post HQ.out (Int.natCast_add _ _).symm
            · have HQ := Lib.hid (show X = (b, true) from HE.out.trans (by unfold tailAt; rw [head_out s b _ lt, if_neg (by simp)]))
              clear HE
              go_wp2_with fail
              go_ret2
              first | exact scan_post HQ.out rfl | exact scan_post HQ.out (Int.natCast_add _ _).symm
          · have hy' : j < a := by omega
            clear hz
            go_wp2_with fail
            refine RB.out.mono ?_
            rintro e w1 ⟨rfl, rfl⟩
            clear RB
            have HE := HT
            by_cases lt : b < s.size
            · by_cases q1 : s[b].toNat = 101 ∨ s[b].toNat = 69
              · have HP := Lib.hid (show X = powAt s.data.toList (b + 1) from HE.out.trans (by unfold tailAt; rw [head_in s b _ lt, if_pos (let_101 q1)]))
                have SG := Lib.hid (S.out (b + 1) w)
                rw [show ((b + 1 : Nat) : Int) = (b : Int) + 1 from by omega] at SG
                have m1 : IntKind.i64.wrap ((b : Int) + 1) = (b : Int) + 1 := IntWalk.i64_in _ (by omega)
                cases hsg : headIs isSgn (s.data.toList.drop (b + 1)) with
                | true =>
                  have t2 : b + 1 < s.size := head_lt s _ _ hsg
                  obtain ⟨c, HC⟩ : ∃ c, Hid (b + 2 + run (s.data.toList.drop (b + 2)) = c) := ⟨_, Lib.hid rfl⟩
                  have RC := Lib.hid (R.out (b + 2) w (by omega))
                  rw [HC.out, show ((b + 2 : Nat) : Int) = (b : Int) + 2 from by omega] at RC
                  have c1 : b + 2 ≤ c := by have := HC.out; omega
                  have c2 : c ≤ s.size := by rw [← HC.out]; exact SD.out (b + 2) (by omega)
                  have HQ := Lib.hid (show X = (c, decide ((b : Int) + 2 < (c : Int))) from HP.out.trans (by unfold powAt; rw [if_pos hsg]; show (b + 2 + run (s.data.toList.drop (b + 2)), decide (0 < run (s.data.toList.drop (b + 2)))) = _; rw [HC.out]; refine Prod.ext rfl ?_; show decide _ = decide _; exact decide_eq_decide.2 (by have := HC.out; omega)))
                  have m2 : IntKind.i64.wrap ((b : Int) + 1 + 1) = (b : Int) + 2 := by rw [IntWalk.i64_in _ (by omega)]; omega
                  rw [hsg] at SG
                  clear hsg HP HE HC
                  rcases q1 with q1 | q1
                  all_goals
                    go_wp2_with fail
                    refine SG.out.mono ?_
                    rintro e w1 ⟨rfl, rfl⟩
                    go_wp2_with fail
                    refine RC.out.mono ?_
                    rintro e w1 ⟨rfl, rfl⟩
                    go_wp2_with fail
                    go_ret2
                    first | exact scan_post HQ.out rfl | exact scan_post HQ.out (Int.natCast_add _ _).symm
                | false =>
                  obtain ⟨c, HC⟩ : ∃ c, Hid (b + 1 + run (s.data.toList.drop (b + 1)) = c) := ⟨_, Lib.hid rfl⟩
                  have RC := Lib.hid (R.out (b + 1) w (by omega))
                  rw [HC.out, show ((b + 1 : Nat) : Int) = (b : Int) + 1 from by omega] at RC
                  have c1 : b + 1 ≤ c := by have := HC.out; omega
                  have c2 : c ≤ s.size := by rw [← HC.out]; exact SD.out (b + 1) (by omega)
                  have HQ := Lib.hid (show X = (c, decide ((b : Int) + 1 < (c : Int))) from HP.out.trans (by unfold powAt; rw [if_neg (by rw [hsg]; simp), HC.out]; refine Prod.ext rfl ?_; show decide _ = decide _; exact decide_eq_decide.2 (by have := HC.out; omega)))
                  rw [hsg] at SG
                  clear hsg HP HE HC
                  rcases q1 with q1 | q1
                  all_goals
                    go_wp2_with fail
                    refine SG.out.mono ?_
                    rintro e w1 ⟨rfl, rfl⟩
                    go_wp2_with fail
                    refine RC.out.mono ?_
                    rintro e w1 ⟨rfl, rfl⟩
                    go_wp2_with fail
                    go_ret2
                    first | exact scan_post HQ.out rfl | exact scan_post HQ.out (Int.natCast_add _ _).symm
              · have q2 : s[b].toNat ≠ 101 := fun h => q1 (Or.inl h)
                have q3 : s[b].toNat ≠ 69 := fun h => q1 (Or.inr h)
                have g2 : ((s[b].toNat : Int) == 101) = false := by rw [beq_eq_false_iff_ne]; omega
                have g3 : ((s[b].toNat : Int) == 69) = false := by rw [beq_eq_false_iff_ne]; omega
                have HQ := Lib.hid (show X = (b, true) from HE.out.trans (by unfold tailAt; rw [head_in s b _ lt, if_neg (by rw [let_not101 q2 q3]; simp)]))
                clear q1 q2 q3 HE
                go_wp2_with fail
                go_ret2
                first | exact scan_post HQ.out rfl | exact scan_post HQ.out (Int.natCast_add _ _).symm
            · have HQ := Lib.hid (show X = (b, true) from HE.out.trans (by unfold tailAt; rw [head_out s b _ lt, if_neg (by simp)]))
              clear HE
              go_wp2_with fail
              go_ret2
              first | exact scan_post HQ.out rfl | exact scan_post HQ.out (Int.natCast_add _ _).symm
      · have g0 : ((s[a].toNat : Int) == 46) = false := by rw [beq_eq_false_iff_ne]; omega
        have EN := Lib.hid (EB.out.trans (by rw [head_in s a _ ha, if_neg (by rw [pt_not46 hp]; simp)]))
        clear EB
        by_cases hy : a = j
        · have HQ := Lib.hid (show X = (j, false) from EN.out.trans (by rw [if_pos hy]))
          obtain rfl := hy
          clear EN
          go_wp2_with fail
          go_ret2
          first | exact scan_post HQ.out rfl | exact scan_post HQ.out (Int.natCast_add _ _).symm
        · have HT := Lib.hid (show X = tailAt s.data.toList a from EN.out.trans (by rw [if_neg hy]))
          have hy' : j < a := by omega
          clear EN
          have HE := HT
          by_cases lt : a < s.size
          · by_cases q1 : s[a].toNat = 101 ∨ s[a].toNat = 69
            · have HP := Lib.hid (show X = powAt s.data.toList (a + 1) from HE.out.trans (by unfold tailAt; rw [head_in s a _ lt, if_pos (let_101 q1)]))
              have SG := Lib.hid (S.out (a + 1) w)
              rw [show ((a + 1 : Nat) : Int) = (a : Int) + 1 from by omega] at SG
              have m1 : IntKind.i64.wrap ((a : Int) + 1) = (a : Int) + 1 := IntWalk.i64_in _ (by omega)
              cases hsg : headIs isSgn (s.data.toList.drop (a + 1)) with
              | true =>
                have t2 : a + 1 < s.size := head_lt s _ _ hsg
                obtain ⟨c, HC⟩ : ∃ c, Hid (a + 2 + run (s.data.toList.drop (a + 2)) = c) := ⟨_, Lib.hid rfl⟩
                have RC := Lib.hid (R.out (a + 2) w (by omega))
                rw [HC.out, show ((a + 2 : Nat) : Int) = (a : Int) + 2 from by omega] at RC
                have c1 : a + 2 ≤ c := by have := HC.out; omega
                have c2 : c ≤ s.size := by rw [← HC.out]; exact SD.out (a + 2) (by omega)
                have HQ := Lib.hid (show X = (c, decide ((a : Int) + 2 < (c : Int))) from HP.out.trans (by unfold powAt; rw [if_pos hsg]; show (a + 2 + run (s.data.toList.drop (a + 2)), decide (0 < run (s.data.toList.drop (a + 2)))) = _; rw [HC.out]; refine Prod.ext rfl ?_; show decide _ = decide _; exact decide_eq_decide.2 (by have := HC.out; omega)))
                have m2 : IntKind.i64.wrap ((a : Int) + 1 + 1) = (a : Int) + 2 := by rw [IntWalk.i64_in _ (by omega)]; omega
                rw [hsg] at SG
                clear hsg HP HE HC
                rcases q1 with q1 | q1
                all_goals
                  go_wp2_with fail
                  refine SG.out.mono ?_
                  rintro e w1 ⟨rfl, rfl⟩
                  go_wp2_with fail
                  refine RC.out.mono ?_
                  rintro e w1 ⟨rfl, rfl⟩
                  go_wp2_with fail
                  go_ret2
                  first | exact scan_post HQ.out rfl | exact scan_post HQ.out (Int.natCast_add _ _).symm
              | false =>
                obtain ⟨c, HC⟩ : ∃ c, Hid (a + 1 + run (s.data.toList.drop (a + 1)) = c) := ⟨_, Lib.hid rfl⟩
                have RC := Lib.hid (R.out (a + 1) w (by omega))
                rw [HC.out, show ((a + 1 : Nat) : Int) = (a : Int) + 1 from by omega] at RC
                have c1 : a + 1 ≤ c := by have := HC.out; omega
                have c2 : c ≤ s.size := by rw [← HC.out]; exact SD.out (a + 1) (by omega)
                have HQ := Lib.hid (show X = (c, decide ((a : Int) + 1 < (c : Int))) from HP.out.trans (by unfold powAt; rw [if_neg (by rw [hsg]; simp), HC.out]; refine Prod.ext rfl ?_; show decide _ = decide _; exact decide_eq_decide.2 (by have := HC.out; omega)))
                rw [hsg] at SG
                clear hsg HP HE HC
                rcases q1 with q1 | q1
                all_goals
                  go_wp2_with fail
                  refine SG.out.mono ?_
                  rintro e w1 ⟨rfl, rfl⟩
                  go_wp2_with fail
                  refine RC.out.mono ?_
                  rintro e w1 ⟨rfl, rfl⟩
                  go_wp2_with fail
                  go_ret2
                  first | exact scan_post HQ.out rfl | exact scan_post HQ.out (Int.natCast_add _ _).symm
            · have q2 : s[a].toNat ≠ 101 := fun h => q1 (Or.inl h)
              have q3 : s[a].toNat ≠ 69 := fun h => q1 (Or.inr h)
              have g2 : ((s[a].toNat : Int) == 101) = false := by rw [beq_eq_false_iff_ne]; omega
              have g3 : ((s[a].toNat : Int) == 69) = false := by rw [beq_eq_false_iff_ne]; omega
              have HQ := Lib.hid (show X = (a, true) from HE.out.trans (by unfold tailAt; rw [head_in s a _ lt, if_neg (by rw [let_not101 q2 q3]; simp)]))
              clear q1 q2 q3 HE
              go_wp2_with fail
              go_ret2
              first | exact scan_post HQ.out rfl | exact scan_post HQ.out (Int.natCast_add _ _).symm
          · exact absurd ha lt
    · have EN := Lib.hid (EB.out.trans (by rw [head_out s a _ ha, if_neg (by simp)]))
      clear EB
      by_cases hy : a = j
      · have HQ := Lib.hid (show X = (j, false) from EN.out.trans (by rw [if_pos hy]))
        obtain rfl := hy
        clear EN
        go_wp2_with fail
        go_ret2
        first | exact scan_post HQ.out rfl | exact scan_post HQ.out (Int.natCast_add _ _).symm
      · have HT := Lib.hid (show X = tailAt s.data.toList a from EN.out.trans (by rw [if_neg hy]))
        have hy' : j < a := by omega
        clear EN
        have HE := HT
        have HQ := Lib.hid (show X = (a, true) from HE.out.trans (by unfold tailAt; rw [head_out s a _ ha, if_neg (by simp)]))
        clear HE
        go_wp2_with fail
        go_ret2
        first | exact scan_post HQ.out rfl | exact scan_post HQ.out (Int.natCast_add _ _).symm
  · go_wp2_with fail
    refine (S.out j _).mono ?_
    rintro e w1 ⟨rfl, rfl⟩
    rw [hsg]
    clear hsg
    go_wp2_with fail
    obtain ⟨a, HA⟩ : ∃ a, Hid (j + run (s.data.toList.drop j) = a) := ⟨_, Lib.hid rfl⟩
    have RA := Lib.hid (R.out j w hj)
    rw [HA.out] at RA
    have a1 : j ≤ a := by have := HA.out; omega
    have a2 : a ≤ s.size := by rw [← HA.out]; exact SD.out j hj
    have EB := Lib.hid (E0.out.trans (body_eq s.data.toList j a HA.out))
    clear E0 HA
    refine RA.out.mono ?_
    rintro e w1 ⟨rfl, rfl⟩
    clear RA
    by_cases ha : a < s.size
    · by_cases hp : s[a].toNat = 46
      · obtain ⟨b, HB⟩ : ∃ b, Hid (a + 1 + run (s.data.toList.drop (a + 1)) = b) := ⟨_, Lib.hid rfl⟩
        have RB := Lib.hid (R.out (a + 1) w ha)
        rw [HB.out, show ((a + 1 : Nat) : Int) = (a : Int) + 1 from by omega] at RB
        have b1 : a + 1 ≤ b := by have := HB.out; omega
        have b2 : b ≤ s.size := by rw [← HB.out]; exact SD.out (a + 1) ha
        have m0 : IntKind.i64.wrap ((a : Int) + 1) = (a : Int) + 1 := IntWalk.i64_in _ (by omega)
        by_cases hz : a = j ∧ b = a + 1
        · have HQ := Lib.hid (show X = (j + 1, false) from EB.out.trans (by rw [head_in s a _ ha, if_pos (pt_46 hp), if_pos ⟨hz.1, by have := HB.out; omega⟩]))
          obtain ⟨rfl, rfl⟩ := hz
          clear EB HB
          go_wp2_with fail
          refine RB.out.mono ?_
          rintro e w1 ⟨rfl, rfl⟩
          go_wp2_with fail
          go_ret2
          first | exact scan_post HQ.out rfl | exact scan_post HQ.out (Int.natCast_add _ _).symm
        · have HT := Lib.hid (show X = tailAt s.data.toList b from EB.out.trans (by rw [head_in s a _ ha, if_pos (pt_46 hp), if_neg (fun h => hz ⟨h.1, by have := HB.out; omega⟩), HB.out]))
          clear EB HB
          by_cases hy : a = j
          · obtain rfl := hy
            have hb' : a + 1 < b := by omega
            have d1 : decide ((a : Int) + 1 < (b : Int)) = true := decide_eq_true (by omega)
            clear hz
            go_wp2_with fail
            refine RB.out.mono ?_
            rintro e w1 ⟨rfl, rfl⟩
            clear RB
            have HE := HT
            by_cases lt : b < s.size
            · by_cases q1 : s[b].toNat = 101 ∨ s[b].toNat = 69
              · have HP := Lib.hid (show X = powAt s.data.toList (b + 1) from HE.out.trans (by unfold tailAt; rw [head_in s b _ lt, if_pos (let_101 q1)]))
                have SG := Lib.hid (S.out (b + 1) w)
                rw [show ((b + 1 : Nat) : Int) = (b : Int) + 1 from by omega] at SG
                have m1 : IntKind.i64.wrap ((b : Int) + 1) = (b : Int) + 1 := IntWalk.i64_in _ (by omega)
                cases hsg : headIs isSgn (s.data.toList.drop (b + 1)) with
                | true =>
                  have t2 : b + 1 < s.size := head_lt s _ _ hsg
                  obtain ⟨c, HC⟩ : ∃ c, Hid (b + 2 + run (s.data.toList.drop (b + 2)) = c) := ⟨_, Lib.hid rfl⟩
                  have RC := Lib.hid (R.out (b + 2) w (by omega))
                  rw [HC.out, show ((b + 2 : Nat) : Int) = (b : Int) + 2 from by omega] at RC
                  have c1 : b + 2 ≤ c := by have := HC.out; omega
                  have c2 : c ≤ s.size := by rw [← HC.out]; exact SD.out (b + 2) (by omega)
                  have HQ := Lib.hid (show X = (c, decide ((b : Int) + 2 < (c : Int))) from HP.out.trans (by unfold powAt; rw [if_pos hsg]; show (b + 2 + run (s.data.toList.drop (b + 2)), decide (0 < run (s.data.toList.drop (b + 2)))) = _; rw [HC.out]; refine Prod.ext rfl ?_; show decide _ = decide _; exact decide_eq_decide.2 (by have := HC.out; omega)))
                  have m2 : IntKind.i64.wrap ((b : Int) + 1 + 1) = (b : Int) + 2 := by rw [IntWalk.i64_in _ (by omega)]; omega
                  rw [hsg] at SG
                  clear hsg HP HE HC
                  rcases q1 with q1 | q1
                  all_goals
                    go_wp2_with fail
                    refine SG.out.mono ?_
                    rintro e w1 ⟨rfl, rfl⟩
                    go_wp2_with fail
                    refine RC.out.mono ?_
                    rintro e w1 ⟨rfl, rfl⟩
                    go_wp2_with fail
                    go_ret2
                    first | exact scan_post HQ.out rfl | exact scan_post HQ.out (Int.natCast_add _ _).symm
                | false =>
                  obtain ⟨c, HC⟩ : ∃ c, Hid (b + 1 + run (s.data.toList.drop (b + 1)) = c) := ⟨_, Lib.hid rfl⟩
                  have RC := Lib.hid (R.out (b + 1) w (by omega))
                  rw [HC.out, show ((b + 1 : Nat) : Int) = (b : Int) + 1 from by omega] at RC
                  have c1 : b + 1 ≤ c := by have := HC.out; omega
                  have c2 : c ≤ s.size := by rw [← HC.out]; exact SD.out (b + 1) (by omega)
                  have HQ := Lib.hid (show X = (c, decide ((b : Int) + 1 < (c : Int))) from HP.out.trans (by unfold powAt; rw [if_neg (by rw [hsg]; simp), HC.out]; refine Prod.ext rfl ?_; show decide _ = decide _; exact decide_eq_decide.2 (by have := HC.out; omega)))
                  rw [hsg] at SG
                  clear hsg HP HE HC
                  rcases q1 with q1 | q1
                  all_goals
                    go_wp2_with fail
                    refine SG.out.mono ?_
                    rintro e w1 ⟨rfl, rfl⟩
                    go_wp2_with fail
                    refine RC.out.mono ?_
                    rintro e w1 ⟨rfl, rfl⟩
                    go_wp2_with fail
                    go_ret2
                    first | exact scan_post HQ.out rfl | exact scan_post HQ.out (Int.natCast_add _ _).symm
              · have q2 : s[b].toNat ≠ 101 := fun h => q1 (Or.inl h)
                have q3 : s[b].toNat ≠ 69 := fun h => q1 (Or.inr h)
                have g2 : ((s[b].toNat : Int) == 101) = false := by rw [beq_eq_false_iff_ne]; omega
                have g3 : ((s[b].toNat : Int) == 69) = false := by rw [beq_eq_false_iff_ne]; omega
                have HQ := Lib.hid (show X = (b, true) from HE.out.trans (by unfold tailAt; rw [head_in s b _ lt, if_neg (by rw [let_not101 q2 q3]; simp)]))
                clear q1 q2 q3 HE
                go_wp2_with fail
                go_ret2
                first | exact scan_post HQ.out rfl | exact scan_post HQ.out (Int.natCast_add _ _).symm
            · have HQ := Lib.hid (show X = (b, true) from HE.out.trans (by unfold tailAt; rw [head_out s b _ lt, if_neg (by simp)]))
              clear HE
              go_wp2_with fail
              go_ret2
              first | exact scan_post HQ.out rfl | exact scan_post HQ.out (Int.natCast_add _ _).symm
          · have hy' : j < a := by omega
            clear hz
            go_wp2_with fail
            refine RB.out.mono ?_
            rintro e w1 ⟨rfl, rfl⟩
            clear RB
            have HE := HT
            by_cases lt : b < s.size
            · by_cases q1 : s[b].toNat = 101 ∨ s[b].toNat = 69
              · have HP := Lib.hid (show X = powAt s.data.toList (b + 1) from HE.out.trans (by unfold tailAt; rw [head_in s b _ lt, if_pos (let_101 q1)]))
                have SG := Lib.hid (S.out (b + 1) w)
                rw [show ((b + 1 : Nat) : Int) = (b : Int) + 1 from by omega] at SG
                have m1 : IntKind.i64.wrap ((b : Int) + 1) = (b : Int) + 1 := IntWalk.i64_in _ (by omega)
                cases hsg : headIs isSgn (s.data.toList.drop (b + 1)) with
                | true =>
                  have t2 : b + 1 < s.size := head_lt s _ _ hsg
                  obtain ⟨c, HC⟩ : ∃ c, Hid (b + 2 + run (s.data.toList.drop (b + 2)) = c) := ⟨_, Lib.hid rfl⟩
                  have RC := Lib.hid (R.out (b + 2) w (by omega))
                  rw [HC.out, show ((b + 2 : Nat) : Int) = (b : Int) + 2 from by omega] at RC
                  have c1 : b + 2 ≤ c := by have := HC.out; omega
                  have c2 : c ≤ s.size := by rw [← HC.out]; exact SD.out (b + 2) (by omega)
                  have HQ := Lib.hid (show X = (c, decide ((b : Int) + 2 < (c : Int))) from HP.out.trans (by unfold powAt; rw [if_pos hsg]; show (b + 2 + run (s.data.toList.drop (b + 2)), decide (0 < run (s.data.toList.drop (b + 2)))) = _; rw [HC.out]; refine Prod.ext rfl ?_; show decide _ = decide _; exact decide_eq_decide.2 (by have := HC.out; omega)))
                  have m2 : IntKind.i64.wrap ((b : Int) + 1 + 1) = (b : Int) + 2 := by rw [IntWalk.i64_in _ (by omega)]; omega
                  rw [hsg] at SG
                  clear hsg HP HE HC
                  rcases q1 with q1 | q1
                  all_goals
                    go_wp2_with fail
                    refine SG.out.mono ?_
                    rintro e w1 ⟨rfl, rfl⟩
                    go_wp2_with fail
                    refine RC.out.mono ?_
                    rintro e w1 ⟨rfl, rfl⟩
                    go_wp2_with fail
                    go_ret2
                    first | exact scan_post HQ.out rfl | exact scan_post HQ.out (Int.natCast_add _ _).symm
                | false =>
                  obtain ⟨c, HC⟩ : ∃ c, Hid (b + 1 + run (s.data.toList.drop (b + 1)) = c) := ⟨_, Lib.hid rfl⟩
                  have RC := Lib.hid (R.out (b + 1) w (by omega))
                  rw [HC.out, show ((b + 1 : Nat) : Int) = (b : Int) + 1 from by omega] at RC
                  have c1 : b + 1 ≤ c := by have := HC.out; omega
                  have c2 : c ≤ s.size := by rw [← HC.out]; exact SD.out (b + 1) (by omega)
                  have HQ := Lib.hid (show X = (c, decide ((b : Int) + 1 < (c : Int))) from HP.out.trans (by unfold powAt; rw [if_neg (by rw [hsg]; simp), HC.out]; refine Prod.ext rfl ?_; show decide _ = decide _; exact decide_eq_decide.2 (by have := HC.out; omega)))
                  rw [hsg] at SG
                  clear hsg HP HE HC
                  rcases q1 with q1 | q1
                  all_goals
                    go_wp2_with fail
                    refine SG.out.mono ?_
                    rintro e w1 ⟨rfl, rfl⟩
                    go_wp2_with fail
                    refine RC.out.mono ?_
                    rintro e w1 ⟨rfl, rfl⟩
                    go_wp2_with fail
                    go_ret2
                    first | exact scan_post HQ.out rfl | exact scan_post HQ.out (Int.natCast_add _ _).symm
              · have q2 : s[b].toNat ≠ 101 := fun h => q1 (Or.inl h)
                have q3 : s[b].toNat ≠ 69 := fun h => q1 (Or.inr h)
                have g2 : ((s[b].toNat : Int) == 101) = false := by rw [beq_eq_false_iff_ne]; omega
                have g3 : ((s[b].toNat : Int) == 69) = false := by rw [beq_eq_false_iff_ne]; omega
                have HQ := Lib.hid (show X = (b, true) from HE.out.trans (by unfold tailAt; rw [head_in s b _ lt, if_neg (by rw [let_not101 q2 q3]; simp)]))
                clear q1 q2 q3 HE
                go_wp2_with fail
                go_ret2
                first | exact scan_post HQ.out rfl | exact scan_post HQ.out (Int.natCast_add _ _).symm
            · have HQ := Lib.hid (show X = (b, true) from HE.out.trans (by unfold tailAt; rw [head_out s b _ lt, if_neg (by simp)]))
              clear HE
              go_wp2_with fail
              go_ret2
              first | exact scan_post HQ.out rfl | exact scan_post HQ.out (Int.natCast_add _ _).symm
      · have g0 : ((s[a].toNat : Int) == 46) = false := by rw [beq_eq_false_iff_ne]; omega
        have EN := Lib.hid (EB.out.trans (by rw [head_in s a _ ha, if_neg (by rw [pt_not46 hp]; simp)]))
        clear EB
        by_cases hy : a = j
        · have HQ := Lib.hid (show X = (j, false) from EN.out.trans (by rw [if_pos hy]))
          obtain rfl := hy
          clear EN
          go_wp2_with fail
          go_ret2
          first | exact scan_post HQ.out rfl | exact scan_post HQ.out (Int.natCast_add _ _).symm
        · have HT := Lib.hid (show X = tailAt s.data.toList a from EN.out.trans (by rw [if_neg hy]))
          have hy' : j < a := by omega
          clear EN
          have HE := HT
          by_cases lt : a < s.size
          · by_cases q1 : s[a].toNat = 101 ∨ s[a].toNat = 69
            · have HP := Lib.hid (show X = powAt s.data.toList (a + 1) from HE.out.trans (by unfold tailAt; rw [head_in s a _ lt, if_pos (let_101 q1)]))
              have SG := Lib.hid (S.out (a + 1) w)
              rw [show ((a + 1 : Nat) : Int) = (a : Int) + 1 from by omega] at SG
              have m1 : IntKind.i64.wrap ((a : Int) + 1) = (a : Int) + 1 := IntWalk.i64_in _ (by omega)
              cases hsg : headIs isSgn (s.data.toList.drop (a + 1)) with
              | true =>
                have t2 : a + 1 < s.size := head_lt s _ _ hsg
                obtain ⟨c, HC⟩ : ∃ c, Hid (a + 2 + run (s.data.toList.drop (a + 2)) = c) := ⟨_, Lib.hid rfl⟩
                have RC := Lib.hid (R.out (a + 2) w (by omega))
                rw [HC.out, show ((a + 2 : Nat) : Int) = (a : Int) + 2 from by omega] at RC
                have c1 : a + 2 ≤ c := by have := HC.out; omega
                have c2 : c ≤ s.size := by rw [← HC.out]; exact SD.out (a + 2) (by omega)
                have HQ := Lib.hid (show X = (c, decide ((a : Int) + 2 < (c : Int))) from HP.out.trans (by unfold powAt; rw [if_pos hsg]; show (a + 2 + run (s.data.toList.drop (a + 2)), decide (0 < run (s.data.toList.drop (a + 2)))) = _; rw [HC.out]; refine Prod.ext rfl ?_; show decide _ = decide _; exact decide_eq_decide.2 (by have := HC.out; omega)))
                have m2 : IntKind.i64.wrap ((a : Int) + 1 + 1) = (a : Int) + 2 := by rw [IntWalk.i64_in _ (by omega)]; omega
                rw [hsg] at SG
                clear hsg HP HE HC
                rcases q1 with q1 | q1
                all_goals
                  go_wp2_with fail
                  refine SG.out.mono ?_
                  rintro e w1 ⟨rfl, rfl⟩
                  go_wp2_with fail
                  refine RC.out.mono ?_
                  rintro e w1 ⟨rfl, rfl⟩
                  go_wp2_with fail
                  go_ret2
                  first | exact scan_post HQ.out rfl | exact scan_post HQ.out (Int.natCast_add _ _).symm
              | false =>
                obtain ⟨c, HC⟩ : ∃ c, Hid (a + 1 + run (s.data.toList.drop (a + 1)) = c) := ⟨_, Lib.hid rfl⟩
                have RC := Lib.hid (R.out (a + 1) w (by omega))
                rw [HC.out, show ((a + 1 : Nat) : Int) = (a : Int) + 1 from by omega] at RC
                have c1 : a + 1 ≤ c := by have := HC.out; omega
                have c2 : c ≤ s.size := by rw [← HC.out]; exact SD.out (a + 1) (by omega)
                have HQ := Lib.hid (show X = (c, decide ((a : Int) + 1 < (c : Int))) from HP.out.trans (by unfold powAt; rw [if_neg (by rw [hsg]; simp), HC.out]; refine Prod.ext rfl ?_; show decide _ = decide _; exact decide_eq_decide.2 (by have := HC.out; omega)))
                rw [hsg] at SG
                clear hsg HP HE HC
                rcases q1 with q1 | q1
                all_goals
                  go_wp2_with fail
                  refine SG.out.mono ?_
                  rintro e w1 ⟨rfl, rfl⟩
                  go_wp2_with fail
                  refine RC.out.mono ?_
                  rintro e w1 ⟨rfl, rfl⟩
                  go_wp2_with fail
                  go_ret2
                  first | exact scan_post HQ.out rfl | exact scan_post HQ.out (Int.natCast_add _ _).symm
            · have q2 : s[a].toNat ≠ 101 := fun h => q1 (Or.inl h)
              have q3 : s[a].toNat ≠ 69 := fun h => q1 (Or.inr h)
              have g2 : ((s[a].toNat : Int) == 101) = false := by rw [beq_eq_false_iff_ne]; omega
              have g3 : ((s[a].toNat : Int) == 69) = false := by rw [beq_eq_false_iff_ne]; omega
              have HQ := Lib.hid (show X = (a, true) from HE.out.trans (by unfold tailAt; rw [head_in s a _ lt, if_neg (by rw [let_not101 q2 q3]; simp)]))
              clear q1 q2 q3 HE
              go_wp2_with fail
              go_ret2
              first | exact scan_post HQ.out rfl | exact scan_post HQ.out (Int.natCast_add _ _).symm
          · exact absurd ha lt
    · have EN := Lib.hid (EB.out.trans (by rw [head_out s a _ ha, if_neg (by simp)]))
      clear EB
      by_cases hy : a = j
      · have HQ := Lib.hid (show X = (j, false) from EN.out.trans (by rw [if_pos hy]))
        obtain rfl := hy
        clear EN
        go_wp2_with fail
        go_ret2
        first | exact scan_post HQ.out rfl | exact scan_post HQ.out (Int.natCast_add _ _).symm
      · have HT := Lib.hid (show X = tailAt s.data.toList a from EN.out.trans (by rw [if_neg hy]))
        have hy' : j < a := by omega
        clear EN
        have HE := HT
        have HQ := Lib.hid (show X = (a, true) from HE.out.trans (by unfold tailAt; rw [head_out s a _ ha, if_neg (by simp)]))
        clear HE
        go_wp2_with fail
        go_ret2
        first | exact scan_post HQ.out rfl | exact scan_post HQ.out (Int.natCast_add _ _).symm
end Go.Proofs.YtbjabclgekkpaaaGreatDoor
