/-
  The document's starts and one: does a number begin there, and the k-th argument of a letter, with the gap ahead of it.
-/
import Derived.Test.YtgiibcnakiggaaaGreatDoorPathRight
namespace Go.Proofs.YtgiibcnakiggaaaGreatDoor
open Go.RowKit Go.Shelf

theorem rstarts_any (s : ByteArray) (i : Nat) (sg : Bool) (w : World) (_hs : s.size ≤ 100000) : Calls Tryz.prog 33 #[.string s, .int .i64 (i : Int), .bool sg] w fun e w' => e = .returned (.bool (decide (i < s.size) && startB (pk s i) sg)) ∧ w = w' := by
  by_cases hi : i < s.size
  · rw [decide_eq_true hi, Bool.true_and]
    have hp := pk_in hi
    have hlt := pk_lt s i
    unfold startB
    rw [hp] at hlt ⊢
    have hI : ¬ (s.size : Int) ≤ (i : Int) := by omega
    clear hp
    generalize hc : s[i].toNat = c at *
    by_cases h1 : 48 ≤ c
    · by_cases h2 : c ≤ 57
      · have i1 : (48 : Int) ≤ (c : Int) := by omega
        have i2 : (c : Int) ≤ 57 := by omega
        have E := Lib.hid (show (decide (48 ≤ c) && decide (c ≤ 57) || c == 46 || sg && (c == 43 || c == 45)) = true from by simp [h1, h2])
        clear h1 h2
        go_enter Tryz.func33, Tryz.ntmps33
        go_wp2_with fail
        go_ret
        exact ⟨by rw [E.out]; rfl, rfl⟩
      · have i1 : (48 : Int) ≤ (c : Int) := by omega
        have i2 : ¬ (c : Int) ≤ 57 := by omega
        have e46 : ((c : Int) == 46) = false := by rw [beq_eq_false_iff_ne]; omega
        have e43 : ((c : Int) == 43) = false := by rw [beq_eq_false_iff_ne]; omega
        have e45 : ((c : Int) == 45) = false := by rw [beq_eq_false_iff_ne]; omega
        rw [show (decide (48 ≤ c) && decide (c ≤ 57) || c == 46 || sg && (c == 43 || c == 45)) = false from by
          have : (c == 46) = false := by rw [beq_eq_false_iff_ne]; omega
          have : (c == 43) = false := by rw [beq_eq_false_iff_ne]; omega
          have : (c == 45) = false := by rw [beq_eq_false_iff_ne]; omega
          simp [*]]
        clear h1 h2
        cases sg
        all_goals
          go_enter Tryz.func33, Tryz.ntmps33
          go_wp2_with fail
          go_ret
          exact ⟨rfl, rfl⟩
    · have i1 : ¬ (48 : Int) ≤ (c : Int) := by omega
      have hE : (decide (48 ≤ c) && decide (c ≤ 57) || c == 46 || sg && (c == 43 || c == 45)) = (c == 46 || sg && (c == 43 || c == 45)) := by simp [h1]
      rw [hE]
      clear hE h1
      by_cases h46 : c = 46
      · have e46 : ((c : Int) == 46) = true := by rw [beq_iff_eq]; omega
        have E := Lib.hid (show (c == 46 || sg && (c == 43 || c == 45)) = true from by simp [h46])
        clear h46
        go_enter Tryz.func33, Tryz.ntmps33
        go_wp2_with fail
        go_ret
        exact ⟨by rw [E.out]; rfl, rfl⟩
      · have e46 : ((c : Int) == 46) = false := by rw [beq_eq_false_iff_ne]; omega
        have hE : (c == 46 || sg && (c == 43 || c == 45)) = (sg && (c == 43 || c == 45)) := by simp [h46]
        rw [hE]
        clear hE h46
        cases sg with
        | false =>
          go_enter Tryz.func33, Tryz.ntmps33
          go_wp2_with fail
          go_ret
          exact ⟨rfl, rfl⟩
        | true =>
          rw [Bool.true_and]
          by_cases h43 : c = 43
          · have e43 : ((c : Int) == 43) = true := by rw [beq_iff_eq]; omega
            have E := Lib.hid (show (c == 43 || c == 45) = true from by simp [h43])
            clear h43
            go_enter Tryz.func33, Tryz.ntmps33
            go_wp2_with fail
            go_ret
            exact ⟨by rw [E.out]; rfl, rfl⟩
          · have e43 : ((c : Int) == 43) = false := by rw [beq_eq_false_iff_ne]; omega
            by_cases h45 : c = 45
            · have e45 : ((c : Int) == 45) = true := by rw [beq_iff_eq]; omega
              have E := Lib.hid (show (c == 43 || c == 45) = true from by simp [h45])
              clear h43 h45
              go_enter Tryz.func33, Tryz.ntmps33
              go_wp2_with fail
              go_ret
              exact ⟨by rw [E.out]; rfl, rfl⟩
            · have e45 : ((c : Int) == 45) = false := by rw [beq_eq_false_iff_ne]; omega
              have E := Lib.hid (show (c == 43 || c == 45) = false from by simp [h43, h45])
              clear h43 h45
              go_enter Tryz.func33, Tryz.ntmps33
              go_wp2_with fail
              go_ret
              exact ⟨by rw [E.out]; rfl, rfl⟩
  · rw [decide_eq_false hi, Bool.false_and]
    have hI : (s.size : Int) ≤ (i : Int) := by omega
    go_enter Tryz.func33, Tryz.ntmps33
    go_wp2_with fail
    go_ret
    exact ⟨rfl, rfl⟩

set_option maxHeartbeats 2000000 in
theorem rone_any (s : ByteArray) (c k i : Nat) (w : World) (hs : s.size ≤ 100) (hi : i ≤ s.size) (hk : isArc c = true → k ≤ 6) :
    Calls Tryz.prog 32 #[.string s, .int .u8 (c : Int), .int .i64 (k : Int), .int .i64 (i : Int)] w fun e w' => e = .returned (Got (one (txOf s) c k i)) ∧ Below w.heap.size w w' := by
  have hm : s.size ≤ maxLen := by unfold maxLen; omega
  have GP := Lib.hid (fun w => rgap_any s i w hm hi)
  have RA := Lib.hid (fun w => rarc_any c w)
  have RN := Lib.hid (fun j sg w hj => rnumber_T s j sg w hs hj)
  have RF := Lib.hid (fun j w hj => rflag_any s j w hm hj)
  have b0 := Lib.hid ((Below.refl w.heap.size w).alloc (Nat.le_refl _) (.cells #[.int .i64 0, .int .i64 0, .int .i64 0] 73))
  have G := Lib.hid (GotAt.new w (0, 0, 0))
  have hgl := gap_drop_le s 0 i hi
  have GA : (txOf s).gapA i = i + gap 0 (s.data.toList.drop i) := rfl
  have NT : ∀ j sg, (txOf s).num j sg = numT s j sg := fun _ _ => rfl
  obtain ⟨x, hx⟩ : ∃ x, one (txOf s) c k i = x := ⟨_, rfl⟩
  rw [hx]
  have hgn0 : i ≤ i + gap 0 (s.data.toList.drop i) := Nat.le_add_right _ _
  cases harc : isArc c with
  | false =>
    rw [harc] at RA
    rw [one_plain _ _ _ harc, NT, GA] at hx
    by_cases hk0 : k = 0
    · rw [if_pos hk0] at hx
      have hpos : ¬ (0 : Int) < (k : Int) := by omega
      have X := Lib.hid (RN.out i true (w.alloc (.cells #[.int .i64 0, .int .i64 0, .int .i64 0] 73)) hi)
      rw [hx] at X
      obtain ⟨v, er, p⟩ := x
      unfold Got at X
      clear hx RN RF GA NT hk harc hk0
      go_enter Tryz.func32, Tryz.ntmps32
      go_wp2_with fail
      refine (RA.out _).mono ?_
      rintro e w1 ⟨rfl, rfl⟩
      go_wp2_with fail
      refine X.out.mono ?_
      rintro e w2 ⟨rfl, b2⟩
      have G2 := Lib.hid (G.out.next b2)
      have B2 := Lib.hid (b0.out.trans (b2.mono (by exact b0.out.size)))
      have z0 := G2.out.z 0
      have z1 := G2.out.z 1
      have z2 := G2.out.z 2
      have c0 := G2.out.c0
      have c1 := G2.out.c1
      have c2 := G2.out.c2
      clear b2 G b0 X
      go_wp2_with fail
      exact got_close Tryz.results32 (G2.out.set (v, er, p)) (Below.setCell (Below.setCell (Below.setCell B2.out (Nat.le_refl _) _) (Nat.le_refl _) _) (Nat.le_refl _) _) rfl
    · rw [if_neg hk0] at hx
      have hpos : (0 : Int) < (k : Int) := by omega
      have X := Lib.hid (RN.out (i + gap 0 (s.data.toList.drop i)) true (w.alloc (.cells #[.int .i64 0, .int .i64 0, .int .i64 0] 73)) hgl)
      rw [hx] at X
      obtain ⟨v, er, p⟩ := x
      unfold Got at X
      generalize i + gap 0 (s.data.toList.drop i) = g at *
      clear hx RN RF GA NT hk harc hk0
      go_enter Tryz.func32, Tryz.ntmps32
      go_wp2_with fail
      refine (GP.out _).mono ?_
      rintro e w1 ⟨rfl, rfl⟩
      go_wp2_with fail
      refine (RA.out _).mono ?_
      rintro e w1 ⟨rfl, rfl⟩
      go_wp2_with fail
      refine X.out.mono ?_
      rintro e w2 ⟨rfl, b2⟩
      have G2 := Lib.hid (G.out.next b2)
      have B2 := Lib.hid (b0.out.trans (b2.mono (by exact b0.out.size)))
      have z0 := G2.out.z 0
      have z1 := G2.out.z 1
      have z2 := G2.out.z 2
      have c0 := G2.out.c0
      have c1 := G2.out.c1
      have c2 := G2.out.c2
      clear b2 G b0 X
      go_wp2_with fail
      exact got_close Tryz.results32 (G2.out.set (v, er, p)) (Below.setCell (Below.setCell (Below.setCell B2.out (Nat.le_refl _) _) (Nat.le_refl _) _) (Nat.le_refl _) _) rfl
  | true =>
    rw [harc] at RA
    have hk6 := hk harc
    have hk' : k = 0 ∨ k = 1 ∨ k = 2 ∨ k = 3 ∨ k = 4 ∨ k = 5 ∨ k = 6 := by omega
    rcases hk' with rfl | rfl | rfl | rfl | rfl | rfl | rfl
    · rw [one_num _ _ harc (by omega), NT, GA] at hx
      have hx : numT s i false = x := hx
      have X := Lib.hid (RN.out i false (w.alloc (.cells #[.int .i64 0, .int .i64 0, .int .i64 0] 73)) hi)
      rw [hx] at X
      obtain ⟨v, er, p⟩ := x
      unfold Got at X
      clear hx RN RF GA NT hk harc hk6
      go_enter Tryz.func32, Tryz.ntmps32
      go_wp2_with fail
      refine (RA.out _).mono ?_
      rintro e w1 ⟨rfl, rfl⟩
      go_wp2_with fail
      refine X.out.mono ?_
      rintro e w2 ⟨rfl, b2⟩
      have G2 := Lib.hid (G.out.next b2)
      have B2 := Lib.hid (b0.out.trans (b2.mono (by exact b0.out.size)))
      have z0 := G2.out.z 0
      have z1 := G2.out.z 1
      have z2 := G2.out.z 2
      have c0 := G2.out.c0
      have c1 := G2.out.c1
      have c2 := G2.out.c2
      clear b2 G b0 X
      go_wp2_with fail
      exact got_close Tryz.results32 (G2.out.set (v, er, p)) (Below.setCell (Below.setCell (Below.setCell B2.out (Nat.le_refl _) _) (Nat.le_refl _) _) (Nat.le_refl _) _) rfl
    · rw [one_num _ _ harc (by omega), NT, GA] at hx
      have hx : numT s (i + gap 0 (s.data.toList.drop i)) false = x := hx
      have X := Lib.hid (RN.out (i + gap 0 (s.data.toList.drop i)) false (w.alloc (.cells #[.int .i64 0, .int .i64 0, .int .i64 0] 73)) hgl)
      rw [hx] at X
      obtain ⟨v, er, p⟩ := x
      unfold Got at X
      generalize i + gap 0 (s.data.toList.drop i) = g at *
      clear hx RN RF GA NT hk harc hk6
      go_enter Tryz.func32, Tryz.ntmps32
      go_wp2_with fail
      refine (GP.out _).mono ?_
      rintro e w1 ⟨rfl, rfl⟩
      go_wp2_with fail
      refine (RA.out _).mono ?_
      rintro e w1 ⟨rfl, rfl⟩
      go_wp2_with fail
      refine X.out.mono ?_
      rintro e w2 ⟨rfl, b2⟩
      have G2 := Lib.hid (G.out.next b2)
      have B2 := Lib.hid (b0.out.trans (b2.mono (by exact b0.out.size)))
      have z0 := G2.out.z 0
      have z1 := G2.out.z 1
      have z2 := G2.out.z 2
      have c0 := G2.out.c0
      have c1 := G2.out.c1
      have c2 := G2.out.c2
      clear b2 G b0 X
      go_wp2_with fail
      exact got_close Tryz.results32 (G2.out.set (v, er, p)) (Below.setCell (Below.setCell (Below.setCell B2.out (Nat.le_refl _) _) (Nat.le_refl _) _) (Nat.le_refl _) _) rfl
    · rw [one_num _ _ harc (by omega), NT, GA] at hx
      have hx : numT s (i + gap 0 (s.data.toList.drop i)) true = x := hx
      have X := Lib.hid (RN.out (i + gap 0 (s.data.toList.drop i)) true (w.alloc (.cells #[.int .i64 0, .int .i64 0, .int .i64 0] 73)) hgl)
      rw [hx] at X
      obtain ⟨v, er, p⟩ := x
      unfold Got at X
      generalize i + gap 0 (s.data.toList.drop i) = g at *
      clear hx RN RF GA NT hk harc hk6
      go_enter Tryz.func32, Tryz.ntmps32
      go_wp2_with fail
      refine (GP.out _).mono ?_
      rintro e w1 ⟨rfl, rfl⟩
      go_wp2_with fail
      refine (RA.out _).mono ?_
      rintro e w1 ⟨rfl, rfl⟩
      go_wp2_with fail
      refine X.out.mono ?_
      rintro e w2 ⟨rfl, b2⟩
      have G2 := Lib.hid (G.out.next b2)
      have B2 := Lib.hid (b0.out.trans (b2.mono (by exact b0.out.size)))
      have z0 := G2.out.z 0
      have z1 := G2.out.z 1
      have z2 := G2.out.z 2
      have c0 := G2.out.c0
      have c1 := G2.out.c1
      have c2 := G2.out.c2
      clear b2 G b0 X
      go_wp2_with fail
      exact got_close Tryz.results32 (G2.out.set (v, er, p)) (Below.setCell (Below.setCell (Below.setCell B2.out (Nat.le_refl _) _) (Nat.le_refl _) _) (Nat.le_refl _) _) rfl
    · by_cases hz : (txOf s).gapA i = i
      · rw [one_none _ harc ⟨rfl, hz⟩] at hx
        subst hx
        rw [GA] at hz
        rw [hz] at GP
        clear RN RF GA NT hk harc hk6 hz hgl hgn0 G b0
        go_enter Tryz.func32, Tryz.ntmps32
        go_wp2_with fail
        refine (GP.out _).mono ?_
        rintro e w1 ⟨rfl, rfl⟩
        go_wp2_with fail
        refine (RA.out _).mono ?_
        rintro e w1 ⟨rfl, rfl⟩
        go_wp2_with fail
        exact got_close Tryz.results32 (GotAt.new w (0, 3, i)) ((Below.refl _ w).alloc (Nat.le_refl _) _) rfl
      · rw [one_flag _ harc (fun e => hz e.2) (Or.inl rfl), flag_flg, GA] at hx
        rw [GA] at hz
        have hne : (((i + gap 0 (s.data.toList.drop i) : Nat) : Int) == (i : Int)) = false := by rw [beq_eq_false_iff_ne]; omega
        have X := Lib.hid (RF.out (i + gap 0 (s.data.toList.drop i)) (w.alloc (.cells #[.int .i64 0, .int .i64 0, .int .i64 0] 73)) hgl)
        rw [hx] at X
        obtain ⟨v, er, p⟩ := x
        unfold Got at X
        generalize i + gap 0 (s.data.toList.drop i) = g at *
        clear hx RN RF GA NT hk harc hk6 hz
        go_enter Tryz.func32, Tryz.ntmps32
        go_wp2_with fail
        refine (GP.out _).mono ?_
        rintro e w1 ⟨rfl, rfl⟩
        go_wp2_with fail
        refine (RA.out _).mono ?_
        rintro e w1 ⟨rfl, rfl⟩
        go_wp2_with fail
        refine X.out.mono ?_
        rintro e w2 ⟨rfl, b2⟩
        have G2 := Lib.hid (G.out.next b2)
        have B2 := Lib.hid (b0.out.trans (b2.mono (by exact b0.out.size)))
        have z0 := G2.out.z 0
        have z1 := G2.out.z 1
        have z2 := G2.out.z 2
        have c0 := G2.out.c0
        have c1 := G2.out.c1
        have c2 := G2.out.c2
        clear b2 G b0 X
        go_wp2_with fail
        exact got_close Tryz.results32 (G2.out.set (v, er, p)) (Below.setCell (Below.setCell (Below.setCell B2.out (Nat.le_refl _) _) (Nat.le_refl _) _) (Nat.le_refl _) _) rfl
    · rw [one_flag _ harc (fun e => absurd e.1 (by decide)) (Or.inr rfl), flag_flg, GA] at hx
      have X := Lib.hid (RF.out (i + gap 0 (s.data.toList.drop i)) (w.alloc (.cells #[.int .i64 0, .int .i64 0, .int .i64 0] 73)) hgl)
      rw [hx] at X
      obtain ⟨v, er, p⟩ := x
      unfold Got at X
      generalize i + gap 0 (s.data.toList.drop i) = g at *
      clear hx RN RF GA NT hk harc hk6
      go_enter Tryz.func32, Tryz.ntmps32
      go_wp2_with fail
      refine (GP.out _).mono ?_
      rintro e w1 ⟨rfl, rfl⟩
      go_wp2_with fail
      refine (RA.out _).mono ?_
      rintro e w1 ⟨rfl, rfl⟩
      go_wp2_with fail
      refine X.out.mono ?_
      rintro e w2 ⟨rfl, b2⟩
      have G2 := Lib.hid (G.out.next b2)
      have B2 := Lib.hid (b0.out.trans (b2.mono (by exact b0.out.size)))
      have z0 := G2.out.z 0
      have z1 := G2.out.z 1
      have z2 := G2.out.z 2
      have c0 := G2.out.c0
      have c1 := G2.out.c1
      have c2 := G2.out.c2
      clear b2 G b0 X
      go_wp2_with fail
      exact got_close Tryz.results32 (G2.out.set (v, er, p)) (Below.setCell (Below.setCell (Below.setCell B2.out (Nat.le_refl _) _) (Nat.le_refl _) _) (Nat.le_refl _) _) rfl
    · rw [one_num _ _ harc (by omega), NT, GA] at hx
      have hx : numT s (i + gap 0 (s.data.toList.drop i)) true = x := hx
      have X := Lib.hid (RN.out (i + gap 0 (s.data.toList.drop i)) true (w.alloc (.cells #[.int .i64 0, .int .i64 0, .int .i64 0] 73)) hgl)
      rw [hx] at X
      obtain ⟨v, er, p⟩ := x
      unfold Got at X
      generalize i + gap 0 (s.data.toList.drop i) = g at *
      clear hx RN RF GA NT hk harc hk6
      go_enter Tryz.func32, Tryz.ntmps32
      go_wp2_with fail
      refine (GP.out _).mono ?_
      rintro e w1 ⟨rfl, rfl⟩
      go_wp2_with fail
      refine (RA.out _).mono ?_
      rintro e w1 ⟨rfl, rfl⟩
      go_wp2_with fail
      refine X.out.mono ?_
      rintro e w2 ⟨rfl, b2⟩
      have G2 := Lib.hid (G.out.next b2)
      have B2 := Lib.hid (b0.out.trans (b2.mono (by exact b0.out.size)))
      have z0 := G2.out.z 0
      have z1 := G2.out.z 1
      have z2 := G2.out.z 2
      have c0 := G2.out.c0
      have c1 := G2.out.c1
      have c2 := G2.out.c2
      clear b2 G b0 X
      go_wp2_with fail
      exact got_close Tryz.results32 (G2.out.set (v, er, p)) (Below.setCell (Below.setCell (Below.setCell B2.out (Nat.le_refl _) _) (Nat.le_refl _) _) (Nat.le_refl _) _) rfl
    · rw [one_num _ _ harc (by omega), NT, GA] at hx
      have hx : numT s (i + gap 0 (s.data.toList.drop i)) true = x := hx
      have X := Lib.hid (RN.out (i + gap 0 (s.data.toList.drop i)) true (w.alloc (.cells #[.int .i64 0, .int .i64 0, .int .i64 0] 73)) hgl)
      rw [hx] at X
      obtain ⟨v, er, p⟩ := x
      unfold Got at X
      generalize i + gap 0 (s.data.toList.drop i) = g at *
      clear hx RN RF GA NT hk harc hk6
      go_enter Tryz.func32, Tryz.ntmps32
      go_wp2_with fail
      refine (GP.out _).mono ?_
      rintro e w1 ⟨rfl, rfl⟩
      go_wp2_with fail
      refine (RA.out _).mono ?_
      rintro e w1 ⟨rfl, rfl⟩
      go_wp2_with fail
      refine X.out.mono ?_
      rintro e w2 ⟨rfl, b2⟩
      have G2 := Lib.hid (G.out.next b2)
      have B2 := Lib.hid (b0.out.trans (b2.mono (by exact b0.out.size)))
      have z0 := G2.out.z 0
      have z1 := G2.out.z 1
      have z2 := G2.out.z 2
      have c0 := G2.out.c0
      have c1 := G2.out.c1
      have c2 := G2.out.c2
      clear b2 G b0 X
      go_wp2_with fail
      exact got_close Tryz.results32 (G2.out.set (v, er, p)) (Below.setCell (Below.setCell (Below.setCell B2.out (Nat.le_refl _) _) (Nat.le_refl _) _) (Nat.le_refl _) _) rfl
end Go.Proofs.YtgiibcnakiggaaaGreatDoor
