/-
  The contracts of package path's readLetter and goesOn.
-/
import Derived.Test.YtgiibcnakiggaaaDoorPathArg
namespace Go.Proofs.YtgiibcnakiggaaaDoor
open Go.RowKit Go.Shelf

/-- No path data go on with the letter c. -/
def badL (opened : Bool) (c : Nat) : Bool := !knownL c || (!opened && !opensL c)
theorem readLetter_any (b : Nat) (s : ByteArray) (k : Nat) (opened : Bool) (w : World) (H : Rdr b s k w) (hs : s.size ≤ 100000) (hk : k < s.size) (T : PTabs w) (hb : gN ≤ b) :
    Calls Tryd.prog 42 #[.pointer (some ⟨b, 0, none⟩), .bool opened] w fun e w' => Turned b w w' ∧
      ((badL opened (pk s k) = true ∧ e = .returned (.tuple #[.int .u8 0, .string ⟨#[]⟩, .bool false]) ∧ Rdr b s k w') ∨
       (badL opened (pk s k) = false ∧ e = .returned (.tuple #[.int .u8 (pk s k : Int), .string (kinL (pk s k)), .bool true]) ∧ Rdr b s ((txOf s).blkA (k + 1)) w')) := by
  have hm : s.size ≤ maxLen := by unfold maxLen; omega
  have P := Lib.hid (Peek_any b s k w H hm (by omega))
  unfold PeekPost at P
  rw [decide_eq_true hk] at P
  have L := Lib.hid (fun w (T : PTabs w) => lookUp_any (pk s k) (pk_lt s k) w T.rows)
  have O := Lib.hid (fun w => opens_any (pk s k) w)
  have S := Lib.hid (fun w H => Skip_any b s k w H hm (by omega))
  rw [decide_eq_true hk, stp_in hk] at S
  have BL := Lib.hid (fun w H (T : PTabs w) => Blanks_any b s (k + 1) w H hm (by omega) T.st.blks hb)
  have HT := Lib.hid T
  have HB := Lib.hid hb
  unfold badL
  have hbl : (txOf s).blkA (k + 1) = k + 1 + blk (s.data.toList.drop (k + 1)) := rfl
  rw [hbl]
  clear H hs hm hk T hb hbl
  generalize pk s k = c at *
  generalize k + 1 + blk (s.data.toList.drop (k + 1)) = q at *
  generalize blk (s.data.toList.drop (k + 1)) = q' at *
  generalize knownL c = kn at *
  generalize opensL c = op at *
  generalize kinL c = ks at *
  cases kn with
  | false =>
    go_enter Tryd.func42, Tryd.ntmps42
    go_wp2_with fail
    refine P.out.mono ?_
    rintro e w1 ⟨rfl, b1, r1⟩
    have B1 := Lib.hid b1
    have R1 := Lib.hid r1
    have T1 := Lib.hid (HT.out.next b1)
    clear b1 r1
    go_wp2_with fail
    refine (L.out _ T1.out).mono ?_
    rintro e w2 ⟨rfl, b2⟩
    have B2 := Lib.hid (B1.out.trans (b2.mono B1.out.size))
    have R2 := Lib.hid (R1.out.next b2)
    clear b2
    go_wp2_with fail
    go_ret3
    exact ⟨Turned.of_below B2.out, .inl ⟨by simp, rfl, R2.out⟩⟩
  | true =>
    by_cases hop : (!opened && !op) = true
    · obtain ⟨rfl, rfl⟩ : opened = false ∧ op = false := by simpa using hop
      go_enter Tryd.func42, Tryd.ntmps42
      go_wp2_with fail
      refine P.out.mono ?_
      rintro e w1 ⟨rfl, b1, r1⟩
      have B1 := Lib.hid b1
      have R1 := Lib.hid r1
      have T1 := Lib.hid (HT.out.next b1)
      clear b1 r1
      go_wp2_with fail
      refine (L.out _ T1.out).mono ?_
      rintro e w2 ⟨rfl, b2⟩
      have B2 := Lib.hid (B1.out.trans (b2.mono B1.out.size))
      have R2 := Lib.hid (R1.out.next b2)
      clear b2
      go_wp2_with fail
      refine (O.out _).mono ?_
      rintro e w3 ⟨rfl, rfl⟩
      go_wp2_with fail
      go_ret3
      exact ⟨Turned.of_below B2.out, .inl ⟨by simp, rfl, R2.out⟩⟩
    · have hop' : (!opened && !op) = false := by simpa using hop
      clear hop
      cases opened <;> cases op <;> simp at hop'
      all_goals
        clear hop'
        go_enter Tryd.func42, Tryd.ntmps42
        go_wp2_with fail
        refine P.out.mono ?_
        rintro e w1 ⟨rfl, b1, r1⟩
        have B1 := Lib.hid b1
        have R1 := Lib.hid r1
        have T1 := Lib.hid (HT.out.next b1)
        clear b1 r1
        go_wp2_with fail
        refine (L.out _ T1.out).mono ?_
        rintro e w2 ⟨rfl, b2⟩
        have B2 := Lib.hid (B1.out.trans (b2.mono B1.out.size))
        have R2 := Lib.hid (R1.out.next b2)
        have T2 := Lib.hid (T1.out.next b2)
        clear b2
        go_wp2_with fail
        try
          refine (O.out _).mono ?_
          rintro e w3 ⟨rfl, rfl⟩
          go_wp2_with fail
        refine (S.out _ R2.out).mono ?_
        rintro e w3 ⟨rfl, t3, r3⟩
        have TT3 := Lib.hid ((Turned.of_below B2.out).trans t3)
        have R3 := Lib.hid r3
        have T3 := Lib.hid (T2.out.turned t3 HB.out)
        clear t3 r3
        go_wp2_with fail
        refine (BL.out _ R3.out T3.out).mono ?_
        rintro e w4 ⟨rfl, t4, r4⟩
        have TT4 := Lib.hid (TT3.out.trans t4)
        have R4 := Lib.hid r4
        clear t4 r4
        go_wp2_with fail
        go_ret3
        exact ⟨TT4.out, .inr ⟨by simp, rfl, R4.out⟩⟩

/-- Whether one more group must be there, and where. -/
def moreL (s : ByteArray) (j : Nat) : Bool × Nat :=
  let q := j + blk (s.data.toList.drop j)
  if 0 < gap 0 (s.data.toList.drop q) then (true, q + gap 0 (s.data.toList.drop q)) else (decide (q < s.size) && decide (cntL (pk s q) = 99), q)
theorem goesOn_none (b : Nat) (w : World) : Calls Tryd.prog 43 #[.pointer (some ⟨b, 0, none⟩), .string ⟨#[]⟩] w fun e w' => e = .returned (.bool false) ∧ w = w' := by
  go_enter Tryd.func43, Tryd.ntmps43
  go_wp2_with fail
  go_ret
  exact ⟨rfl, rfl⟩
theorem goesOn_any (b : Nat) (s : ByteArray) (j : Nat) (ks : ByteArray) (w : World) (hks : 0 < ks.size) (H : Rdr b s j w) (hs : s.size ≤ 100000) (hj : j ≤ s.size) (T : PTabs w) (hb : gN ≤ b) :
    Calls Tryd.prog 43 #[.pointer (some ⟨b, 0, none⟩), .string ks] w fun e w' => e = .returned (.bool (moreL s j).1) ∧ Turned b w w' ∧ Rdr b s (moreL s j).2 w' := by
  have hm : s.size ≤ maxLen := by unfold maxLen; omega
  have hne : ks.toList.isEmpty = false := by
    rw [ByteArray.toList_eq]
    cases h : ks.data.toList with
    | nil => exfalso; have : ks.data.toList.length = 0 := by rw [h]; rfl
             rw [Array.length_toList] at this; have e : ks.data.size = ks.size := rfl; omega
    | cons x t => rfl
  have hq := blk_drop_le s j hj
  have hg := gap_drop_le s 0 (j + blk (s.data.toList.drop j)) hq
  have BL := Lib.hid (Blanks_any b s j w H hm hj T.st.blks hb)
  unfold moreL
  dsimp only
  generalize j + blk (s.data.toList.drop j) = q at *
  have G := Lib.hid (fun w H (T : PTabs w) => Gap_any b s q w H hm hq T.st.blks hb)
  have P := Lib.hid (fun w H => Peek_any b s q w H hm hq)
  unfold PeekPost at P
  have C := Lib.hid (fun w (T : PTabs w) => Count_any (pk s q) (pk_lt s q) w T.rows)
  have hcn := cnt_le (pk s q)
  have HT := Lib.hid T
  have HB := Lib.hid hb
  clear H T hb hs hm hj hks
  generalize blk (s.data.toList.drop j) = q' at *
  generalize gap 0 (s.data.toList.drop q) = gn at *
  generalize pk s q = c at *
  by_cases hgn : 0 < gn
  · simp only [hgn, if_true]
    rw [decide_eq_true hgn] at G
    clear hgn hg hq
    go_enter Tryd.func43, Tryd.ntmps43
    go_wp2_with fail
    refine BL.out.mono ?_
    rintro e w1 ⟨rfl, t1, r1⟩
    have TT1 := Lib.hid t1
    have R1 := Lib.hid r1
    have T1 := Lib.hid (HT.out.turned t1 HB.out)
    clear t1 r1
    go_wp2_with fail
    refine (G.out _ R1.out T1.out).mono ?_
    rintro e w2 ⟨rfl, t2, r2⟩
    have TT2 := Lib.hid (TT1.out.trans t2)
    have R2 := Lib.hid r2
    clear t2 r2
    go_wp2_with fail
    go_ret
    exact ⟨rfl, TT2.out, R2.out⟩
  · simp only [hgn, if_false]
    rw [decide_eq_false hgn] at G
    rw [show q + gn = q from by omega] at G
    by_cases hlt : q < s.size
    · rw [decide_eq_true hlt] at P ⊢
      have hz : ∃ z : Int, (if cntL c = 99 then -1 else (cntL c : Int)) = z ∧ (decide (z < 0)) = decide (cntL c = 99) := by
        refine ⟨_, rfl, ?_⟩
        by_cases h : cntL c = 99
        · rw [if_pos h]; simp [h]
        · rw [if_neg h]; simp [h]
      obtain ⟨z, hz1, hz2⟩ := hz
      rw [hz1] at C
      rw [← hz2]
      clear hgn hg hq hz1 hz2 hlt hcn
      go_enter Tryd.func43, Tryd.ntmps43
      go_wp2_with fail
      refine BL.out.mono ?_
      rintro e w1 ⟨rfl, t1, r1⟩
      have TT1 := Lib.hid t1
      have R1 := Lib.hid r1
      have T1 := Lib.hid (HT.out.turned t1 HB.out)
      clear t1 r1
      go_wp2_with fail
      refine (G.out _ R1.out T1.out).mono ?_
      rintro e w2 ⟨rfl, t2, r2⟩
      have TT2 := Lib.hid (TT1.out.trans t2)
      have R2 := Lib.hid r2
      have T2 := Lib.hid (T1.out.turned t2 HB.out)
      clear t2 r2
      go_wp2_with fail
      refine (P.out _ R2.out).mono ?_
      rintro e w3 ⟨rfl, b3, r3⟩
      have TT3 := Lib.hid (TT2.out.trans (Turned.of_below b3))
      have R3 := Lib.hid r3
      have T3 := Lib.hid (T2.out.next b3)
      clear b3 r3
      go_wp2_with fail
      refine (C.out _ T3.out).mono ?_
      rintro e w4 ⟨rfl, b4⟩
      have TT4 := Lib.hid (TT3.out.trans (Turned.of_below b4))
      have R4 := Lib.hid (R3.out.next b4)
      clear b4
      go_wp2_with fail
      go_ret
      exact ⟨by rw [Bool.true_and]; rfl, TT4.out, R4.out⟩
    · rw [decide_eq_false hlt] at P ⊢
      clear hgn hg hq hlt hcn
      go_enter Tryd.func43, Tryd.ntmps43
      go_wp2_with fail
      refine BL.out.mono ?_
      rintro e w1 ⟨rfl, t1, r1⟩
      have TT1 := Lib.hid t1
      have R1 := Lib.hid r1
      have T1 := Lib.hid (HT.out.turned t1 HB.out)
      clear t1 r1
      go_wp2_with fail
      refine (G.out _ R1.out T1.out).mono ?_
      rintro e w2 ⟨rfl, t2, r2⟩
      have TT2 := Lib.hid (TT1.out.trans t2)
      have R2 := Lib.hid r2
      clear t2 r2
      go_wp2_with fail
      refine (P.out _ R2.out).mono ?_
      rintro e w3 ⟨rfl, b3, r3⟩
      have TT3 := Lib.hid (TT2.out.trans (Turned.of_below b3))
      have R3 := Lib.hid r3
      clear b3 r3
      go_wp2_with fail
      go_ret
      exact ⟨by rw [Bool.false_and]; rfl, TT3.out, R3.out⟩
end Go.Proofs.YtgiibcnakiggaaaDoor
