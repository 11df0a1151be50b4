/- Joined: PathArg, PathLet, PathRun, PathRead. -/
import Derived.Test.YtbjabclgekkpaaaGreatDoorQOM01
import Derived.Test.YtbjabclgekkpaaaGreatDoorQOM09
import Derived.Test.YtbjabclgekkpaaaGreatDoorQOM17
import Derived.Deep.LoopGhost
import Derived.WalkMore
namespace Go.Proofs.YtbjabclgekkpaaaGreatDoor
open Go.RowKit Go.Shelf
/-- What the laws ask of memory: layer 5's tables, and the table of letters. -/
structure PTabs (w : World) : Prop where
  st : STabs w
  rows : Rws w
theorem Rws.below {w w' : World} {B : Nat} (h : Rws w) (t : Below B w w') (hB : gN ≤ B) : Rws w' := fun i hi =>
  have hg : 1 < B := Nat.lt_of_lt_of_le (show 1 < gN by exact of_decide_eq_true (by kernel_rfl)) hB
  ⟨(t.cell (p := ⟨_, _, none⟩) hg).trans (h i hi).1, (t.cell (p := ⟨_, _, none⟩) hg).trans (h i hi).2⟩
theorem PTabs.next {w w' : World} (h : PTabs w) (t : Below w.heap.size w w') : PTabs w' := ⟨h.st.next t, h.rows.below t h.st.tabs.size⟩
theorem PTabs.turned {w w' : World} {b : Nat} (h : PTabs w) (t : Turned b w w') (hb : gN ≤ b) : PTabs w' :=
  ⟨h.st.turned t hb, h.rows.below (t.below hb h.st.tabs.size) (Nat.le_refl _)⟩
theorem PTabs.size {w : World} (h : PTabs w) : gN ≤ w.heap.size := h.st.tabs.size
theorem PTabs.below {w w' : World} {B : Nat} (h : PTabs w) (t : Below B w w') (hB : gN ≤ B) : PTabs w' :=
  ⟨⟨h.st.tabs.below t hB t.size, h.st.blks.below t hB⟩, h.rows.below t hB⟩
/-- One argument of a kind, from a place on. -/
noncomputable def argA (s : ByteArray) (kd k : Nat) : Int × Int × Nat := if flagK kd then flg s k else numT s k (kd != 114)
theorem flag_flg (s : ByteArray) (j : Nat) : flagA (txOf s) j = flg s j := by
  unfold flagA flg
  show (if j < s.size ∧ (pk s j = 48 ∨ pk s j = 49) then _ else _) = _
  by_cases h : j < s.size
  · by_cases h0 : pk s j = 48
    · rw [if_pos ⟨h, Or.inl h0⟩, if_pos h0]
      show ((pk s j : Int) - 48, (0 : Int), j + 1) = _
      rw [h0]; rfl
    · by_cases h1 : pk s j = 49
      · rw [if_pos ⟨h, Or.inr h1⟩, if_neg h0, if_pos h1]
        show ((pk s j : Int) - 48, (0 : Int), j + 1) = _
        rw [h1]; rfl
      · rw [if_neg (fun e => by rcases e.2 with e | e <;> contradiction), if_neg h0, if_neg h1]
  · rw [if_neg (fun e => h e.1), pk_out h, if_neg (by decide), if_neg (by decide)]
/-- The k-th argument: the gap, then the argument. -/
theorem one_arg (s : ByteArray) {c : Nat} (hc : c < 256) (k i : Nat) (hk : k < (kinL c).size) :
    one (txOf s) c k i = if (kinL c)[k].toNat = 70 ∧ (txOf s).gapA i = i then (0, 3, i) else argA s (kinL c)[k].toNat (if k = 0 then i else (txOf s).gapA i) := by
  have G : ∀ j sg, (txOf s).num j sg = numT s j sg := fun _ _ => rfl
  cases h : isArc c with
  | false =>
    rw [one_plain _ _ _ h, kin_plain hc h hk, if_neg (show ¬ ((110 : UInt8).toNat = 70 ∧ (txOf s).gapA i = i) from fun e => absurd e.1 (by decide))]
    unfold argA
    rw [show flagK (110 : UInt8).toNat = false from by decide, if_neg (show ¬ false = true by decide)]; rfl
  | true =>
    have e := kin_arc hc h
    have hs : (kinL c).size = 7 := by rw [e]; rfl
    have hk' : k = 0 ∨ k = 1 ∨ k = 2 ∨ k = 3 ∨ k = 4 ∨ k = 5 ∨ k = 6 := by omega
    have K : ∀ j (hj : j < 7) , (kinL c)[j]'(by omega) = (⟨#[114, 114, 110, 70, 102, 110, 110]⟩ : ByteArray)[j]'hj := fun j hj => by simp only [e]
    unfold argA
    rcases hk' with rfl | rfl | rfl | rfl | rfl | rfl | rfl
    · rw [one_num _ _ h (by omega), K 0 (by decide)]; rfl
    · rw [one_num _ _ h (by omega), K 1 (by decide)]; rfl
    · rw [one_num _ _ h (by omega), K 2 (by decide)]; rfl
    · rw [K 3 (by decide)]
      by_cases hg : (txOf s).gapA i = i
      · rw [one_none _ h ⟨rfl, hg⟩, if_pos ⟨rfl, hg⟩]
      · rw [one_flag _ h (fun e => hg e.2) (Or.inl rfl), if_neg (fun e => hg e.2), flag_flg]; rfl
    · rw [K 4 (by decide), one_flag _ h (fun e => absurd e.1 (by decide)) (Or.inr rfl), flag_flg]; rfl
    · rw [one_num _ _ h (by omega), K 5 (by decide)]; rfl
    · rw [one_num _ _ h (by omega), K 6 (by decide)]; rfl
theorem kin_head {c : Nat} (hc : c < 256) (h : 0 < (kinL c).size) : (kinL c)[0].toNat ≠ 70 := by
  cases ha : isArc c with
  | false => rw [kin_plain hc ha h]; decide
  | true =>
    have K : (kinL c)[0] = 114 := by simp only [kin_arc hc ha]; rfl
    rw [K]; decide
theorem readArg_any (b : Nat) (s : ByteArray) (k kd : Nat) (w : World) (H : Rdr b s k w) (hs : s.size ≤ 100000) (hk : k ≤ s.size) (T : PTabs w) :
    Calls Tryz.prog 133 #[.pointer (some ⟨b, 0, none⟩), .int .u8 (kd : Int)] w (NumPost b s (argA s kd k) w) := by
  have I := Lib.hid (fun w => isFlag_any kd w)
  have hm : s.size ≤ maxLen := by unfold maxLen; omega
  unfold argA NumPost
  cases hf : flagK kd with
  | true =>
    rw [hf] at I
    have F := Lib.hid (Flag_any b s k w H hm hk)
    simp only [if_true]
    generalize flg s k = x at *
    clear H T hs hk hm hf
    go_enter Tryz.func133, Tryz.ntmps133
    go_wp2_with fail
    refine (I.out _).mono ?_
    rintro e w1 ⟨rfl, rfl⟩
    go_wp2_with fail
    refine F.out.mono ?_
    rintro e w1 ⟨rfl, t1, r1⟩
    have T1 := Lib.hid t1
    have R1 := Lib.hid r1
    clear t1 r1
    go_wp2_with fail
    go_ret2
    exact ⟨rfl, T1.out, R1.out⟩
  | false =>
    rw [hf] at I
    simp only [Bool.false_eq_true, if_false]
    have N := Lib.hid (fun sg => number_T b s k sg w H hs hk T.st)
    unfold NumPost at N
    clear H T hs hk hm hf
    by_cases h : kd = 114
    · subst h
      have N1 := Lib.hid (N.out false)
      rw [show ((114 : Nat) != 114) = false from rfl]
      generalize numT s k false = x at *
      clear N
      go_enter Tryz.func133, Tryz.ntmps133
      go_wp2_with fail
      refine (I.out _).mono ?_
      rintro e w1 ⟨rfl, rfl⟩
      go_wp2_with fail
      refine N1.out.mono ?_
      rintro e w1 ⟨rfl, t1, r1⟩
      have T1 := Lib.hid t1
      have R1 := Lib.hid r1
      clear t1 r1
      go_wp2_with fail
      go_ret2
      exact ⟨rfl, T1.out, R1.out⟩
    · have N1 := Lib.hid (N.out true)
      have e1 : ((kd : Int) == 114) = false := by rw [beq_eq_false_iff_ne]; omega
      have e2 : ((kd : Int) != 114) = true := by rw [bne, e1]; rfl
      rw [show (kd != 114) = true from by simpa using h]
      generalize numT s k true = x at *
      clear N
      go_enter Tryz.func133, Tryz.ntmps133
      go_wp2_with fail
      refine (I.out _).mono ?_
      rintro e w1 ⟨rfl, rfl⟩
      go_wp2_with fail
      refine N1.out.mono ?_
      rintro e w1 ⟨rfl, t1, r1⟩
      have T1 := Lib.hid t1
      have R1 := Lib.hid r1
      clear t1 r1
      go_wp2_with fail
      go_ret2
      exact ⟨rfl, T1.out, R1.out⟩
/-- A row of numbers of the call's own: one more. -/
theorem info_i64 : (Tryz.prog.info? 2).map (fun i => (i.zero, i.size, i.bytes)) = some (some (.int .i64 0), 1, 8) := by kernel_rfl
def ints (zs : List Int) : List Value := zs.map (Value.int .i64)
theorem append_i64 {ops : Array Oper} {rest : List Oper} {o : Oper} {a : Act} {Q : Exit → Act → World → Prop} (w : World) (hgd : o.guard = none) (s x : Operand)
    (ho : o.op = .call { callee := .builtin .append, args := #[s, x], argTypes := #[56, 56] }) {B k : Nat} {v : Value} {os : List Value} (d : Int) (hown : w.ownsRow B 2 1 v k os) (hs : a.eval s = v)
    (hx : a.eval x = .slice (some ⟨w.heap.size, 0, none⟩) 1 1) (hk : k ≤ 1000000000) (hB : B ≤ w.heap.size)
    (h : ∀ v' w', w'.ownsRow B 2 1 v' (k + 1) (os ++ [.int .i64 d]) → w.grownBy w' v.ownBlock → wpList Tryz.prog ops Q rest (a.put o.dst v') w') :
    wpList Tryz.prog ops Q (o :: rest) a (w.alloc (.cells #[.int .i64 d] 2)) := by
  obtain ⟨i0, hi, hz0, hz1, hz2⟩ := info_parts info_i64
  refine wpList_append_own _ hgd s x 56 ho B 2 i0 (.int .i64 0) 1 8 Tryz.underlying56 hi hz0 hz1 hz2 rfl (by decide) v k os hs (hown.alloc _) ⟨w.heap.size, 0, none⟩ 1 1 [.int .i64 d] hx rfl ?_ ?_ ?_ ?_ ?_ ?_
  · intro j u hj
    match j, hj with
    | 0, hj => simp at hj; subst hj; simp [Addr.add]
  · intro u hu; simp at hu; subst hu; rfl
  · unfold maxLen; omega
  · omega
  · simp; omega
  · intro v' w' hown' hg _
    refine h v' w' hown' ?_
    refine ⟨hg.os, hg.tape, hg.output, Nat.le_trans (by simp) hg.size, fun k hk hne => (hg.block k (by simp; omega) hne).trans (Below.heap_alloc _ _ _ hk)⟩
theorem ints_snoc (zs : List Int) (d : Int) : ints (zs ++ [d]) = ints zs ++ [.int .i64 d] := by simp [ints]
theorem owni_below {w w' : World} {B : Nat} {v : Value} {k : Nat} {xs : List Value} (hown : w.ownsRow B 2 1 v k xs) (hg : w.grownBy w' v.ownBlock) (hB : B ≤ w.heap.size) : Below B w w' :=
  (Below.refl B w).grown hg (by omega) fun q hq => (hown.lt q hq).1
theorem Turned.grown {b : Nat} {u w w' : World} {o : Option Nat} (h : Turned b u w) (hg : w.grownBy w' o) (ho : ∀ q, o = some q → u.heap.size ≤ q) : Turned b u w' :=
  ⟨hg.os.trans h.os, hg.tape.trans h.tape, hg.output.trans h.output, Nat.le_trans h.size hg.size, fun k hk hn => (hg.block k (Nat.lt_of_lt_of_le hk h.size) (fun e => by have := ho k e.symm; omega)).trans (h.block k hk hn)⟩
theorem own_turned {b B : Nat} {e : TypeId} {sz : Nat} {w w' : World} {v : Value} {k : Nat} {xs : List Value} (h : w.ownsRow B e sz v k xs) (t : Turned b w w') (hb : b < B) : w'.ownsRow B e sz v k xs := by
  refine h.kept (row := some b) ⟨t.os, t.tape, t.output, t.size, fun q hq hn => t.block q hq (fun e => hn (by rw [e]))⟩ ?_
  refine Or.inr fun e => ?_
  have := (h.lt b e).1
  omega
/-- What readGroup leaves. -/
def GroupPost (b : Nat) (s : ByteArray) (r : (List Int × Nat) ⊕ (Nat × Int)) (w : World) (e : Ending) (w' : World) : Prop :=
  Turned b w w' ∧ match r with
    | .inl (xs, j) => (∃ v, e = .returned (.tuple #[v, .int .i64 0]) ∧ w'.ownsRow w.heap.size 2 1 v xs.length (ints xs)) ∧ Rdr b s j w'
    | .inr (j, er) => e = .returned (.tuple #[.slice none 0 0, .int .i64 er]) ∧ er ≠ 0 ∧ Rdr b s j w'
theorem args_step (X : Tx) (c n k i : Nat) (acc : List Int) : argsL X c (n + 1) k i acc = if (one X c k i).2.1 = 0 then argsL X c n (k + 1) (one X c k i).2.2 (acc ++ [(one X c k i).1]) else .inr ((one X c k i).2.2, (one X c k i).2.1) := rfl
set_option maxRecDepth 100000 in
set_option maxHeartbeats 2000000 in
theorem readGroup_any (b : Nat) (s : ByteArray) (c i0 : Nat) (w : World) (hc : c < 256) (h9 : cntL c ≠ 99) (H : Rdr b s i0 w) (hs : s.size ≤ 100000) (hi : i0 ≤ s.size) (T : PTabs w) (hb : gN ≤ b) :
    Calls Tryz.prog 88 #[.pointer (some ⟨b, 0, none⟩), .string (kinL c)] w (GroupPost b s (argsL (txOf s) c (cntL c) 0 i0 []) w) := by
  have hm : s.size ≤ maxLen := by unfold maxLen; omega
  have G := Lib.hid (fun a W H ha (T : PTabs W) => Gap_any b s a W H hm ha T.st.blks hb)
  have A := Lib.hid (fun k kd W H hk T => readArg_any b s k kd W H hs hk T)
  unfold NumPost at A
  have O := Lib.hid (fun k i hk => one_arg s hc k i hk)
  have OK := Lib.hid (fun k i hi => one_ok (txOf_ok s hs) c k i hi)
  have hsz := kin_size hc h9
  have hn : cntL c ≤ 7 := by have := cnt_le c; omega
  rw [← hsz] at hn
  obtain ⟨RES, hRES⟩ : ∃ R, argsL (txOf s) c (cntL c) 0 i0 [] = R := ⟨_, rfl⟩
  rw [hRES]
  rw [← hsz] at hRES
  have HW := H.lt
  have hH := kin_head hc
  have HB := Lib.hid hb
  have HS := Lib.hid hs
  clear hs hm hsz h9
  generalize hks : kinL c = ks at *
  go_enter Tryz.func88, Tryz.ntmps88
  go_wp2_with fail
  go_loopw [13, 6] (fun v u wr => ∃ (k p : Nat) (acc : List Int), v = .int .i64 (k : Int) ∧ k ≤ ks.size ∧ wr.ownsRow w.heap.size 2 1 u k (ints acc) ∧ acc.length = k ∧ Turned b w wr ∧ Rdr b s p wr ∧ p ≤ s.size ∧ PTabs wr ∧ Hid (argsL (txOf s) c (ks.size - k) k p acc = RES)) (fun v _ _ => ks.size - (intOf v).toNat)
  case atStart => exact ⟨0, i0, [], rfl, Nat.zero_le _, World.ownsRow_nil _ _ _ _, rfl, Turned.refl _ _, H, hi, T, Lib.hid hRES⟩
  case round =>
    obtain ⟨k, p, acc, rfl, hk, hown, hacc, ht, hr, hp, hT, hR⟩ := hrel
    obtain ⟨a', cap', rfl⟩ := own_shape hown
    by_cases hlt : k < ks.size
    · have HR := Lib.hid hR.out
      have hst : argsL (txOf s) c (ks.size - k) k p acc = if (one (txOf s) c k p).2.1 = 0 then argsL (txOf s) c (ks.size - (k + 1)) (k + 1) (one (txOf s) c k p).2.2 (acc ++ [(one (txOf s) c k p).1]) else .inr ((one (txOf s) c k p).2.2, (one (txOf s) c k p).2.1) := by
        rw [show ks.size - k = (ks.size - (k + 1)) + 1 from by omega]; rfl
      have hu := O.out k p hlt
      have hx3 : (one (txOf s) c k p).2.2 ≤ s.size := (OK.out k p hp).hi
      have GL : (txOf s).gapA p = p + gap 0 (s.data.toList.drop p) := rfl
      rw [GL] at hu
      have hgl := gap_drop_le s 0 p hp
      generalize one (txOf s) c k p = x at *
      generalize hgn : gap 0 (s.data.toList.drop p) = gn at *
      have HOW := Lib.hid hown
      have HTT := Lib.hid ht
      have HRD := Lib.hid hr
      have HPT := Lib.hid hT
      clear hown ht hr hT hR O OK GL hRES T H
      by_cases hk0 : k = 0
      · have hF : ¬ (ks[k].toNat = 70 ∧ p + gn = p) := by subst hk0; exact fun e => hH (by omega) e.1
        rw [if_neg hF, if_pos hk0] at hu
        have h70 : ((ks[k].toNat : Int) == 70) = false := by rw [beq_eq_false_iff_ne]; subst hk0; have := hH (by omega); omega
        have hpos : ¬ (0 : Int) < (k : Int) := by omega
        have AT := Lib.hid (fun W H T => A.out p ks[k].toNat W H hp T)
        rw [← hu] at AT
        obtain ⟨x1, x2, x3⟩ := x
        clear hu hF G A hH hk0
        go_wp2_with fail
        refine (AT.out _ HRD.out HPT.out).mono ?_
        rintro e w2 ⟨rfl, t2, r2⟩
        have TT2 := Lib.hid (HTT.out.trans t2)
        have PT2 := Lib.hid (HPT.out.turned t2 HB.out)
        have OW2 := Lib.hid (own_turned HOW.out t2 HW)
        have R2 := Lib.hid r2
        have sz2 : w.heap.size ≤ w2.heap.size := TT2.out.size
        clear t2 r2
        by_cases h0 : x2 = 0
        · subst h0
          rw [if_pos rfl] at hst
          have HST := Lib.hid hst
          clear hst
          go_wp2_with (first | (at_builtin; refine append_i64 _ rfl (.tmp 41) (.tmp 43) rfl _ OW2.out rfl rfl (by omega) sz2 ?_; intro v' w3 hown' hg3))
          have TT3 := Lib.hid (TT2.out.grown hg3 (fun q hq => (OW2.out.lt q hq).1))
          have B3 := Lib.hid (owni_below OW2.out hg3 sz2)
          obtain ⟨a3, cap3, rfl⟩ := own_shape hown'
          go_roundw
          case rel =>
            refine ⟨k + 1, x3, acc ++ [x1], by go_num, by omega, by rw [ints_snoc]; exact hown', by rw [List.length_append, hacc]; rfl, TT3.out, R2.out.below B3.out HW, hx3, PT2.out.below B3.out (Nat.le_trans HB.out (by omega)), ?_⟩
            exact Lib.hid (HST.out.symm.trans HR.out)
          case measure => simp [intOf]; omega
        · have E := Lib.hid h0
          rw [if_neg h0] at hst
          have RR := Lib.hid (HR.out.symm.trans hst)
          have hne : (x2 == 0) = false := by rw [beq_eq_false_iff_ne]; exact h0
          clear hst h0
          go_wp2_with fail
          go_ret2
          refine ⟨TT2.out, ?_⟩
          rw [RR.out]
          exact ⟨rfl, E.out, R2.out⟩
      · have hpos : (0 : Int) < (k : Int) := by omega
        rw [if_neg hk0] at hu
        have GG := Lib.hid (G.out p wr HRD.out hp HPT.out)
        rw [hgn] at GG
        clear G hH
        by_cases hF : ks[k].toNat = 70 ∧ p + gn = p
        · rw [if_pos hF] at hu
          have hz : gn = 0 := by omega
          have h70 : ((ks[k].toNat : Int) == 70) = true := by rw [beq_iff_eq]; omega
          subst hu
          rw [if_neg (show ¬ (3 : Int) = 0 by decide)] at hst
          have RR := Lib.hid (HR.out.symm.trans hst)
          rw [show decide (0 < gn) = false from by simp [hz], hz] at GG
          clear hst hF A hz
          go_wp2_with fail
          refine GG.out.mono ?_
          rintro e w1 ⟨rfl, t1, r1⟩
          have TT1 := Lib.hid (HTT.out.trans t1)
          have R1 := Lib.hid r1
          clear t1 r1
          go_wp2_with fail
          go_ret2
          refine ⟨TT1.out, ?_⟩
          rw [RR.out]
          exact ⟨rfl, by decide, R1.out⟩
        · rw [if_neg hF] at hu
          have AT := Lib.hid (fun W H T => A.out (p + gn) ks[k].toNat W H hgl T)
          rw [← hu] at AT
          obtain ⟨x1, x2, x3⟩ := x
          have hdis : (((ks[k].toNat : Int) == 70) && !decide (0 < gn)) = false := by
            cases h7 : ((ks[k].toNat : Int) == 70) with
            | false => rfl
            | true =>
              have : ks[k].toNat = 70 := by have := beq_iff_eq.1 h7; omega
              have : 0 < gn := by omega
              simp [this]
          clear hu hF A
          generalize decide (0 < gn) = ap at *
          generalize h70 : ((ks[k].toNat : Int) == 70) = is70 at *
          cases is70 <;> cases ap <;> simp at hdis
          all_goals
            clear hdis
            go_wp2_with fail
            refine GG.out.mono ?_
            rintro e w1 ⟨rfl, t1, r1⟩
            have TT1 := Lib.hid (HTT.out.trans t1)
            have PT1 := Lib.hid (HPT.out.turned t1 HB.out)
            have OW1 := Lib.hid (own_turned HOW.out t1 HW)
            have R1 := Lib.hid r1
            clear t1 r1
            go_wp2_with fail
            refine (AT.out _ R1.out PT1.out).mono ?_
            rintro e w2 ⟨rfl, t2, r2⟩
            have TT2 := Lib.hid (TT1.out.trans t2)
            have PT2 := Lib.hid (PT1.out.turned t2 HB.out)
            have OW2 := Lib.hid (own_turned OW1.out t2 HW)
            have R2 := Lib.hid r2
            have sz2 : w.heap.size ≤ w2.heap.size := TT2.out.size
            clear t2 r2
            by_cases h0 : x2 = 0
            · subst h0
              rw [if_pos rfl] at hst
              have HST := Lib.hid hst
              clear hst
              go_wp2_with (first | (at_builtin; refine append_i64 _ rfl (.tmp 41) (.tmp 43) rfl _ OW2.out rfl rfl (by omega) sz2 ?_; intro v' w3 hown' hg3))
              have TT3 := Lib.hid (TT2.out.grown hg3 (fun q hq => (OW2.out.lt q hq).1))
              have B3 := Lib.hid (owni_below OW2.out hg3 sz2)
              obtain ⟨a3, cap3, rfl⟩ := own_shape hown'
              go_roundw
              case rel =>
                refine ⟨k + 1, x3, acc ++ [x1], by go_num, by omega, by rw [ints_snoc]; exact hown', by rw [List.length_append, hacc]; rfl, TT3.out, R2.out.below B3.out HW, hx3, PT2.out.below B3.out (Nat.le_trans HB.out (by omega)), ?_⟩
                exact Lib.hid (HST.out.symm.trans HR.out)
              case measure => simp [intOf]; omega
            · have E := Lib.hid h0
              rw [if_neg h0] at hst
              have RR := Lib.hid (HR.out.symm.trans hst)
              have hne : (x2 == 0) = false := by rw [beq_eq_false_iff_ne]; exact h0
              clear hst h0
              go_wp2_with fail
              go_ret2
              refine ⟨TT2.out, ?_⟩
              rw [RR.out]
              exact ⟨rfl, E.out, R2.out⟩
    · have hk' : k = ks.size := by omega
      have hR' := hR.out
      rw [hk', Nat.sub_self] at hR'
      have HR := Lib.hid (show RES = .inl (acc, p) from hR'.symm)
      have HOW := Lib.hid hown
      have HA := Lib.hid hacc
      have hnl : ¬ (k : Int) < (ks.size : Int) := by omega
      clear hk' hR' hown hR hacc
      go_wp2_with fail
      go_ret2
      refine ⟨ht, ?_⟩
      rw [HR.out]
      exact ⟨⟨_, rfl, by rw [HA.out]; exact HOW.out⟩, hr⟩
end Go.Proofs.YtbjabclgekkpaaaGreatDoor
namespace Go.Proofs.YtbjabclgekkpaaaGreatDoor
open Go.RowKit Go.Shelf
/-- No path data go on with the letter c. -/
def badL (opened : Bool) (c : Nat) : Bool := !knownL c || (!opened && !opensL c)
theorem readLetter_any (b : Nat) (s : ByteArray) (k : Nat) (opened : Bool) (w : World) (H : Rdr b s k w) (hs : s.size ≤ 100000) (hk : k < s.size) (T : PTabs w) (hb : gN ≤ b) :
    Calls Tryz.prog 86 #[.pointer (some ⟨b, 0, none⟩), .bool opened] w fun e w' => Turned b w w' ∧
      ((badL opened (pk s k) = true ∧ e = .returned (.tuple #[.int .u8 0, .string ⟨#[]⟩, .bool false]) ∧ Rdr b s k w') ∨
       (badL opened (pk s k) = false ∧ e = .returned (.tuple #[.int .u8 (pk s k : Int), .string (kinL (pk s k)), .bool true]) ∧ Rdr b s ((txOf s).blkA (k + 1)) w')) := by
  have hm : s.size ≤ maxLen := by unfold maxLen; omega
  have P := Lib.hid (Peek_any b s k w H hm (by omega))
  unfold PeekPost at P
  rw [decide_eq_true hk] at P
  have L := Lib.hid (fun w (T : PTabs w) => lookUp_any (pk s k) (pk_lt s k) w T.rows)
  have O := Lib.hid (fun w => opens_any (pk s k) w)
  have S := Lib.hid (fun w H => Skip_any b s k w H hm (by omega))
  rw [decide_eq_true hk, stp_in hk] at S
  have BL := Lib.hid (fun w H (T : PTabs w) => Blanks_any b s (k + 1) w H hm (by omega) T.st.blks hb)
  have HT := Lib.hid T
  have HB := Lib.hid hb
  unfold badL
  have hbl : (txOf s).blkA (k + 1) = k + 1 + blk (s.data.toList.drop (k + 1)) := rfl
  rw [hbl]
  clear H hs hm hk T hb hbl
  generalize pk s k = c at *
  generalize k + 1 + blk (s.data.toList.drop (k + 1)) = q at *
  generalize blk (s.data.toList.drop (k + 1)) = q' at *
  generalize knownL c = kn at *
  generalize opensL c = op at *
  generalize kinL c = ks at *
  cases kn with
  | false =>
    go_enter Tryz.func86, Tryz.ntmps86
    go_wp2_with fail
    refine P.out.mono ?_
    rintro e w1 ⟨rfl, b1, r1⟩
    have B1 := Lib.hid b1
    have R1 := Lib.hid r1
    have T1 := Lib.hid (HT.out.next b1)
    clear b1 r1
    go_wp2_with fail
    refine (L.out _ T1.out).mono ?_
    rintro e w2 ⟨rfl, b2⟩
    have B2 := Lib.hid (B1.out.trans (b2.mono B1.out.size))
    have R2 := Lib.hid (R1.out.next b2)
    clear b2
    go_wp2_with fail
    go_ret3
    exact ⟨Turned.of_below B2.out, .inl ⟨by simp, rfl, R2.out⟩⟩
  | true =>
    by_cases hop : (!opened && !op) = true
    · obtain ⟨rfl, rfl⟩ : opened = false ∧ op = false := by simpa using hop
      go_enter Tryz.func86, Tryz.ntmps86
      go_wp2_with fail
      refine P.out.mono ?_
      rintro e w1 ⟨rfl, b1, r1⟩
      have B1 := Lib.hid b1
      have R1 := Lib.hid r1
      have T1 := Lib.hid (HT.out.next b1)
      clear b1 r1
      go_wp2_with fail
      refine (L.out _ T1.out).mono ?_
      rintro e w2 ⟨rfl, b2⟩
      have B2 := Lib.hid (B1.out.trans (b2.mono B1.out.size))
      have R2 := Lib.hid (R1.out.next b2)
      clear b2
      go_wp2_with fail
      refine (O.out _).mono ?_
      rintro e w3 ⟨rfl, rfl⟩
      go_wp2_with fail
      go_ret3
      exact ⟨Turned.of_below B2.out, .inl ⟨by simp, rfl, R2.out⟩⟩
    · have hop' : (!opened && !op) = false := by simpa using hop
      clear hop
      cases opened <;> cases op <;> simp at hop'
      all_goals
        clear hop'
        go_enter Tryz.func86, Tryz.ntmps86
        go_wp2_with fail
        refine P.out.mono ?_
        rintro e w1 ⟨rfl, b1, r1⟩
        have B1 := Lib.hid b1
        have R1 := Lib.hid r1
        have T1 := Lib.hid (HT.out.next b1)
        clear b1 r1
        go_wp2_with fail
        refine (L.out _ T1.out).mono ?_
        rintro e w2 ⟨rfl, b2⟩
        have B2 := Lib.hid (B1.out.trans (b2.mono B1.out.size))
        have R2 := Lib.hid (R1.out.next b2)
        have T2 := Lib.hid (T1.out.next b2)
        clear b2
        go_wp2_with fail
        try
          refine (O.out _).mono ?_
          rintro e w3 ⟨rfl, rfl⟩
          go_wp2_with fail
        refine (S.out _ R2.out).mono ?_
        rintro e w3 ⟨rfl, t3, r3⟩
        have TT3 := Lib.hid ((Turned.of_below B2.out).trans t3)
        have R3 := Lib.hid r3
        have T3 := Lib.hid (T2.out.turned t3 HB.out)
        clear t3 r3
        go_wp2_with fail
        refine (BL.out _ R3.out T3.out).mono ?_
        rintro e w4 ⟨rfl, t4, r4⟩
        have TT4 := Lib.hid (TT3.out.trans t4)
        have R4 := Lib.hid r4
        clear t4 r4
        go_wp2_with fail
        go_ret3
        exact ⟨TT4.out, .inr ⟨by simp, rfl, R4.out⟩⟩
/-- Whether one more group must be there, and where. -/
def moreL (s : ByteArray) (j : Nat) : Bool × Nat :=
  let q := j + blk (s.data.toList.drop j)
  if 0 < gap 0 (s.data.toList.drop q) then (true, q + gap 0 (s.data.toList.drop q)) else (decide (q < s.size) && decide (cntL (pk s q) = 99), q)
theorem goesOn_none (b : Nat) (w : World) : Calls Tryz.prog 87 #[.pointer (some ⟨b, 0, none⟩), .string ⟨#[]⟩] w fun e w' => e = .returned (.bool false) ∧ w = w' := by
  go_enter Tryz.func87, Tryz.ntmps87
  go_wp2_with fail
  go_ret
  exact ⟨rfl, rfl⟩
theorem goesOn_any (b : Nat) (s : ByteArray) (j : Nat) (ks : ByteArray) (w : World) (hks : 0 < ks.size) (H : Rdr b s j w) (hs : s.size ≤ 100000) (hj : j ≤ s.size) (T : PTabs w) (hb : gN ≤ b) :
    Calls Tryz.prog 87 #[.pointer (some ⟨b, 0, none⟩), .string ks] w fun e w' => e = .returned (.bool (moreL s j).1) ∧ Turned b w w' ∧ Rdr b s (moreL s j).2 w' := by
  have hm : s.size ≤ maxLen := by unfold maxLen; omega
  have hne : ks.toList.isEmpty = false := by
    rw [ByteArray.toList_eq]
    cases h : ks.data.toList with
    | nil => exfalso; have : ks.data.toList.length = 0 := by rw [h]; rfl
             rw [Array.length_toList] at this; have e : ks.data.size = ks.size := rfl; omega
    | cons x t => rfl
  have hq := blk_drop_le s j hj
  have hg := gap_drop_le s 0 (j + blk (s.data.toList.drop j)) hq
  have BL := Lib.hid (Blanks_any b s j w H hm hj T.st.blks hb)
  unfold moreL
  dsimp only
  generalize j + blk (s.data.toList.drop j) = q at *
  have G := Lib.hid (fun w H (T : PTabs w) => Gap_any b s q w H hm hq T.st.blks hb)
  have P := Lib.hid (fun w H => Peek_any b s q w H hm hq)
  unfold PeekPost at P
  have C := Lib.hid (fun w (T : PTabs w) => Count_any (pk s q) (pk_lt s q) w T.rows)
  have hcn := cnt_le (pk s q)
  have HT := Lib.hid T
  have HB := Lib.hid hb
  clear H T hb hs hm hj hks
  generalize blk (s.data.toList.drop j) = q' at *
  generalize gap 0 (s.data.toList.drop q) = gn at *
  generalize pk s q = c at *
  by_cases hgn : 0 < gn
  · simp only [hgn, if_true]
    rw [decide_eq_true hgn] at G
    clear hgn hg hq
    go_enter Tryz.func87, Tryz.ntmps87
    go_wp2_with fail
    refine BL.out.mono ?_
    rintro e w1 ⟨rfl, t1, r1⟩
    have TT1 := Lib.hid t1
    have R1 := Lib.hid r1
    have T1 := Lib.hid (HT.out.turned t1 HB.out)
    clear t1 r1
    go_wp2_with fail
    refine (G.out _ R1.out T1.out).mono ?_
    rintro e w2 ⟨rfl, t2, r2⟩
    have TT2 := Lib.hid (TT1.out.trans t2)
    have R2 := Lib.hid r2
    clear t2 r2
    go_wp2_with fail
    go_ret
    exact ⟨rfl, TT2.out, R2.out⟩
  · simp only [hgn, if_false]
    rw [decide_eq_false hgn] at G
    rw [show q + gn = q from by omega] at G
    by_cases hlt : q < s.size
    · rw [decide_eq_true hlt] at P ⊢
      have hz : ∃ z : Int, (if cntL c = 99 then -1 else (cntL c : Int)) = z ∧ (decide (z < 0)) = decide (cntL c = 99) := by
        refine ⟨_, rfl, ?_⟩
        by_cases h : cntL c = 99
        · rw [if_pos h]; simp [h]
        · rw [if_neg h]; simp [h]
      obtain ⟨z, hz1, hz2⟩ := hz
      rw [hz1] at C
      rw [← hz2]
      clear hgn hg hq hz1 hz2 hlt hcn
      go_enter Tryz.func87, Tryz.ntmps87
      go_wp2_with fail
      refine BL.out.mono ?_
      rintro e w1 ⟨rfl, t1, r1⟩
      have TT1 := Lib.hid t1
      have R1 := Lib.hid r1
      have T1 := Lib.hid (HT.out.turned t1 HB.out)
      clear t1 r1
      go_wp2_with fail
      refine (G.out _ R1.out T1.out).mono ?_
      rintro e w2 ⟨rfl, t2, r2⟩
      have TT2 := Lib.hid (TT1.out.trans t2)
      have R2 := Lib.hid r2
      have T2 := Lib.hid (T1.out.turned t2 HB.out)
      clear t2 r2
      go_wp2_with fail
      refine (P.out _ R2.out).mono ?_
      rintro e w3 ⟨rfl, b3, r3⟩
      have TT3 := Lib.hid (TT2.out.trans (Turned.of_below b3))
      have R3 := Lib.hid r3
      have T3 := Lib.hid (T2.out.next b3)
      clear b3 r3
      go_wp2_with fail
      refine (C.out _ T3.out).mono ?_
      rintro e w4 ⟨rfl, b4⟩
      have TT4 := Lib.hid (TT3.out.trans (Turned.of_below b4))
      have R4 := Lib.hid (R3.out.next b4)
      clear b4
      go_wp2_with fail
      go_ret
      exact ⟨by rw [Bool.true_and]; rfl, TT4.out, R4.out⟩
    · rw [decide_eq_false hlt] at P ⊢
      clear hgn hg hq hlt hcn
      go_enter Tryz.func87, Tryz.ntmps87
      go_wp2_with fail
      refine BL.out.mono ?_
      rintro e w1 ⟨rfl, t1, r1⟩
      have TT1 := Lib.hid t1
      have R1 := Lib.hid r1
      have T1 := Lib.hid (HT.out.turned t1 HB.out)
      clear t1 r1
      go_wp2_with fail
      refine (G.out _ R1.out T1.out).mono ?_
      rintro e w2 ⟨rfl, t2, r2⟩
      have TT2 := Lib.hid (TT1.out.trans t2)
      have R2 := Lib.hid r2
      clear t2 r2
      go_wp2_with fail
      refine (P.out _ R2.out).mono ?_
      rintro e w3 ⟨rfl, b3, r3⟩
      have TT3 := Lib.hid (TT2.out.trans (Turned.of_below b3))
      have R3 := Lib.hid r3
      clear b3 r3
      go_wp2_with fail
      go_ret
      exact ⟨by rw [Bool.false_and]; rfl, TT3.out, R3.out⟩
end Go.Proofs.YtbjabclgekkpaaaGreatDoor
namespace Go.Proofs.YtbjabclgekkpaaaGreatDoor
/-- Path data from a place on. -/
noncomputable def PA (s : ByteArray) (st : Option Nat) (i : Nat) (out : List Cmd) : List Cmd × Int × Int := pathL (txOf s) (s.size + 1) st i out
theorem pa_all (s : ByteArray) : pathAll (txOf s) = PA s none ((txOf s).blkA 0) [] := rfl
theorem pa_none {s : ByteArray} (hs : s.size ≤ 100000) {i : Nat} (hi : i ≤ s.size) (out : List Cmd) : PA s none i out =
    if i < s.size then
      if cntL (pk s i) = 99 ∨ (out = [] ∧ pk s i ≠ 77 ∧ pk s i ≠ 109) then (out, (i : Int), 3)
      else if cntL (pk s i) = 0 then PA s none ((txOf s).blkA (i + 1)) (out ++ [⟨pk s i, []⟩])
      else PA s (some (pk s i)) ((txOf s).blkA (i + 1)) out
    else (out, -1, 0) := by
  conv => lhs; unfold PA
  rw [← path_fuel (txOf_ok s hs) (s.size + 1) none i out hi (by show s.size - i + 1 ≤ _; omega) (fun _ e => by cases e)]
  rfl
/-- Behind a group. -/
noncomputable def behindA (s : ByteArray) (c j : Nat) (out : List Cmd) : List Cmd × Int × Int :=
  if (txOf s).blkA j < s.size ∧ pk s ((txOf s).blkA j) = 44 then PA s (some (nextL c)) ((txOf s).gapA ((txOf s).blkA j)) out
  else if (txOf s).blkA j < s.size ∧ startB (pk s ((txOf s).blkA j)) (!isArc c) = true then PA s (some (nextL c)) ((txOf s).blkA j) out
  else PA s none ((txOf s).blkA j) out
theorem pa_some {s : ByteArray} (hs : s.size ≤ 100000) {i : Nat} (hi : i ≤ s.size) {c : Nat} (hc : 0 < cntL c) (out : List Cmd) : PA s (some c) i out =
    match argsL (txOf s) c (cntL c) 0 i [] with
    | .inr (at', e) => (out, (at' : Int), e)
    | .inl (xs, j) => behindA s c j (out ++ [⟨c, xs⟩]) := by
  conv => lhs; unfold PA
  rw [← path_fuel (txOf_ok s hs) (s.size + 1) (some c) i out hi (by show s.size - i + 1 ≤ _; omega) (fun _ e => by cases e; exact hc)]
  rfl
theorem kind_stop (b : UInt8) (sg : Bool) (h : startB b.toNat sg = false) : follow (if sg then 1 else 2) (kindB b) = 0 := by
  unfold startB at h
  rcases kind_cases b with ⟨h1, k2⟩ | ⟨_, h1, k2⟩ | ⟨_, _, h1, k2⟩ | ⟨_, _, _, _, k2⟩ | ⟨_, _, _, _, k2⟩ <;> rw [k2]
  · exfalso; unfold isDig at h1; rw [h1] at h; simp at h
  · unfold isSgn at h1
    rw [h1] at h
    cases sg with
    | true => simp at h
    | false => rfl
  · exfalso; unfold isPt at h1; rw [h1] at h; simp at h
  · cases sg <;> rfl
  · cases sg <;> rfl
theorem numT_stop (s : ByteArray) (q : Nat) (sg : Bool) (hq : q < s.size) (h : startB (pk s q) sg = false) : numT s q sg = (0, 3, q) := by
  rw [pk_in hq] at h
  have hw : wk (s.data.toList.drop q) (if sg then 1 else 2) = (0, false) := by
    have : walkL (s.data.toList.drop q) (if sg then 1 else 2) = (0, if sg then 1 else 2) := by rw [walk_cons s q _ hq, if_pos (kind_stop _ sg h)]
    unfold wk
    rw [this]
    cases sg <;> rfl
  unfold numT numX nmE nmW
  rw [hw]; rfl
theorem blk_idem (s : ByteArray) (j : Nat) : blk (s.data.toList.drop (j + blk (s.data.toList.drop j))) = 0 := by
  rw [← List.drop_drop]
  exact blk_zero _ (blk_head _)
theorem gap_of_blk (s : ByteArray) (q : Nat) (h : blk (s.data.toList.drop q) = 0) : 0 < gap 0 (s.data.toList.drop q) ↔ (q < s.size ∧ pk s q = 44) := by
  rw [gap_zero, h, List.drop_zero, headCm]
  by_cases h1 : q < s.size
  · by_cases h2 : pk s q = 44
    · simp [h1, h2]; omega
    · simp [h1, h2]
  · simp [h1]
theorem letter_all : ∀ c : Fin 256, cntL c ≠ 99 → startB c true = false ∧ startB c false = false := by decide +kernel
theorem letter_lt' {c : Nat} (h : cntL c ≠ 99) : startB c true = false ∧ startB c false = false := by
  have hc : c < 256 := by
    refine Nat.lt_of_not_le fun hn => h ?_
    unfold cntL
    rw [if_neg (by omega), if_neg (by omega), if_neg (by omega), if_neg (by omega), if_neg (by omega), if_neg (by omega)]
  exact letter_all ⟨c, hc⟩ h
/-- Behind a group the code goes on as the document says. -/
theorem more_behind (s : ByteArray) (hs : s.size ≤ 100000) (c j : Nat) (out : List Cmd) (hj : j ≤ s.size) (hc : 0 < cntL c) :
    behindA s c j out = if (moreL s j).1 = true then PA s (some (nextL c)) (moreL s j).2 out else PA s none (moreL s j).2 out := by
  have hb : (txOf s).blkA j = j + blk (s.data.toList.drop j) := rfl
  have hq := blk_drop_le s j hj
  have hid := blk_idem s j
  unfold behindA moreL
  rw [hb]
  dsimp only
  generalize j + blk (s.data.toList.drop j) = q at *
  have hg : (txOf s).gapA q = q + gap 0 (s.data.toList.drop q) := rfl
  have hiff := gap_of_blk s q hid
  by_cases h1 : q < s.size ∧ pk s q = 44
  · rw [if_pos h1, if_pos (hiff.2 h1), if_pos rfl, hg]
  · rw [if_neg h1, if_neg (fun e => h1 (hiff.1 e))]
    by_cases h2 : q < s.size ∧ startB (pk s q) (!isArc c) = true
    · have h9 : cntL (pk s q) = 99 := by
        refine Classical.byContradiction fun h => ?_
        have := letter_lt' h
        cases ha : isArc c with
        | true => rw [ha] at h2; rw [show (!true) = false from rfl] at h2; rw [this.2] at h2; cases h2.2
        | false => rw [ha] at h2; rw [show (!false) = true from rfl] at h2; rw [this.1] at h2; cases h2.2
      rw [if_pos h2, decide_eq_true h2.1, decide_eq_true h9]; rfl
    · rw [if_neg h2]
      by_cases h3 : q < s.size ∧ cntL (pk s q) = 99
      · rw [decide_eq_true h3.1, decide_eq_true h3.2, show (if (true && true, q).fst = true then PA s (some (nextL c)) (true && true, q).snd out else PA s none (true && true, q).snd out) = PA s (some (nextL c)) q out from rfl, pa_none hs hq, if_pos h3.1, if_pos (Or.inl h3.2)]
        have hst : startB (pk s q) (!isArc c) = false := by
          cases e : startB (pk s q) (!isArc c) with
          | false => rfl
          | true => exact absurd ⟨h3.1, e⟩ h2
        have hcn := cnt_next c hc
        rw [pa_some hs hq hcn]
        have ho : one (txOf s) (nextL c) 0 q = (0, 3, q) := by
          have hN : ∀ sg, startB (pk s q) sg = false → (txOf s).num q sg = (0, 3, q) := fun sg h => numT_stop s q sg h3.1 h
          cases ha : isArc c with
          | false =>
            rw [one_plain _ _ _ (by rw [arc_next]; exact ha), if_pos rfl]
            exact hN _ (by rw [ha] at hst; exact hst)
          | true =>
            rw [one_num _ _ (by rw [arc_next]; exact ha) (by omega), if_pos rfl]
            exact hN _ (by rw [ha] at hst; exact hst)
        obtain ⟨m, hm⟩ : ∃ m, cntL (nextL c) = m + 1 := ⟨cntL (nextL c) - 1, by omega⟩
        rw [hm, args_step, ho]
        rfl
      · have : (decide (q < s.size) && decide (cntL (pk s q) = 99)) = false := by
          cases ha : decide (q < s.size) with
          | false => rfl
          | true => cases hb' : decide (cntL (pk s q) = 99) with
            | false => rfl
            | true => exact absurd ⟨of_decide_eq_true ha, of_decide_eq_true hb'⟩ h3
        rw [this]; rfl
theorem more_le (s : ByteArray) (j : Nat) (hj : j ≤ s.size) : j ≤ (moreL s j).2 ∧ (moreL s j).2 ≤ s.size := by
  have hq := blk_drop_le s j hj
  unfold moreL
  dsimp only
  split
  · have := gap_drop_le s 0 _ hq
    exact ⟨by omega, this⟩
  · exact ⟨by omega, hq⟩
/-- Where no more group must be there, all blanks are behind. -/
theorem more_blk (s : ByteArray) (j : Nat) (h : (moreL s j).1 = false) : blk (s.data.toList.drop (moreL s j).2) = 0 := by
  unfold moreL at *
  dsimp only at *
  split
  · rename_i hg; rw [if_pos hg] at h; cases h
  · exact blk_idem s j
theorem bad_iff (out : List Cmd) (c : Nat) : badL (!decide (out = [])) c = true ↔ (cntL c = 99 ∨ (out = [] ∧ c ≠ 77 ∧ c ≠ 109)) := by
  unfold badL knownL opensL
  by_cases h : cntL c = 99 <;> by_cases h1 : out = [] <;> by_cases h2 : c = 77 <;> by_cases h3 : c = 109 <;> simp_all
end Go.Proofs.YtbjabclgekkpaaaGreatDoor
namespace Go.Proofs.YtbjabclgekkpaaaGreatDoor
open Go.RowKit Go.Shelf
theorem kin_next {c : Nat} (hc : c < 256) (h : cntL c ≠ 99) : kinL (nextL c) = kinL c ∧ cntL (nextL c) = cntL c ∧ nextL c < 256 := by
  have H : ∀ c : Fin 256, cntL c ≠ 99 → kinL (nextL c) = kinL c ∧ cntL (nextL c) = cntL c ∧ nextL c < 256 := by decide +kernel
  exact H ⟨c, hc⟩ h
/-- What a caller of read keeps abides what read does by itself: new memory, and its own reader. -/
structure Abide (s : ByteArray) (D : Nat) (J : List Cmd → World → Prop) : Prop where
  new : ∀ pre W W', J pre W → Below W.heap.size W W' → J pre W'
  rdr : ∀ pre W W' b k, J pre W → D ≤ b → Rdr b s k W → Turned b W W' → J pre W'
/-- What a call of tell answers: it goes on. -/
def TellPost (s : ByteArray) (J : List Cmd → World → Prop) (pre : List Cmd) (W : World) (e : Ending) (W' : World) : Prop :=
  e = .returned (.bool true) ∧ J pre W' ∧ Below gN W W' ∧ ∀ b k, Rdr b s k W → Rdr b s k W'
def isOn : Value → Nat
  | .bool true => 1
  | _ => 0
def InnerInv (s : ByteArray) (RES : List Cmd × Int × Int) (b p0 : Nat) (c0 : Nat) (J : List Cmd → World → Prop) (u9 u12 u8 : Value) (wr : World) : Prop :=
  ∃ (c p : Nat) (m : Bool) (pre : List Cmd), u12 = .bool m ∧ u9 = .int .u8 (c : Int) ∧ u8 = .int .i64 0 ∧ c < 256 ∧ cntL c ≠ 99 ∧ kinL c = kinL c0 ∧ cntL c = cntL c0 ∧ p0 < p ∧ p ≤ s.size ∧ Rdr b s p wr ∧ PTabs wr ∧ J pre wr ∧
    pre.length + isOn u12 ≤ p ∧ (m = false → pre ≠ []) ∧ (m = false ∨ cntL c = 0 → blk (s.data.toList.drop p) = 0) ∧
    Hid ((if m = false then PA s none p pre else if cntL c = 0 then PA s none p (pre ++ [⟨c, []⟩]) else PA s (some c) p pre) = RES)
def OuterInv (s : ByteArray) (RES : List Cmd × Int × Int) (b : Nat) (J : List Cmd → World → Prop) (u7 u8 : Value) (wr : World) : Prop :=
  ∃ (p : Nat) (pre : List Cmd), u7 = .bool (!decide (pre = [])) ∧ u8 = .int .i64 0 ∧ p ≤ s.size ∧ Rdr b s p wr ∧ PTabs wr ∧ J pre wr ∧ pre.length ≤ p ∧ Hid (PA s none p pre = RES)
set_option maxRecDepth 100000 in
set_option maxHeartbeats 4000000 in
theorem read_P (s : ByteArray) (B : Nat) (J : List Cmd → World → Prop) (w : World) (hs : s.size ≤ 65536) (T : PTabs w) (HJ : Abide s w.heap.size J)
    (HT : ∀ pre (x : Cmd) av W, J pre W → w.heap.size ≤ W.heap.size → pre.length ≤ 65536 → x.letter < 256 → W.ownsRow w.heap.size 2 1 av x.args.length (ints x.args) →
      Calls Tryz.prog 48 #[.agg #[.int .u8 (x.letter : Int), av], .pointer (some ⟨B, 0, none⟩)] W (TellPost s J (pre ++ [x]) W))
    (h0 : J [] w) :
    Calls Tryz.prog 47 #[.string s, .func (.func 48) #[] #[.pointer (some ⟨B, 0, none⟩)]] w fun e W' =>
      e = .returned (.tuple #[.int .i64 (pathAll (txOf s)).2.1, .int .i64 (pathAll (txOf s)).2.2]) ∧ J (pathAll (txOf s)).1 W' := by
  have hs5 : s.size ≤ 100000 := by omega
  have hm : s.size ≤ maxLen := by unfold maxLen; omega
  have N := Lib.hid (fun w => New_any s w)
  have BL := Lib.hid (fun b k w H hk (T : PTabs w) hb => Blanks_any b s k w H hm hk T.st.blks hb)
  have LF := Lib.hid (fun b k w H hk => Left_any b s k w H hm hk)
  have RL := Lib.hid (fun b k op w H hk T hb => readLetter_any b s k op w H hs5 hk T hb)
  have RG := Lib.hid (fun b c i w hc h9 H hi T hb => readGroup_any b s c i w hc h9 H hs5 hi T hb)
  have GN := Lib.hid (fun b w => goesOn_none b w)
  have GO := Lib.hid (fun b j ks w hks H hj T hb => goesOn_any b s j ks w hks H hs5 hj T hb)
  have BH := Lib.hid (fun c w => behind_any c w)
  have AT := Lib.hid (fun b k w H => At_any b s k w H)
  have PN := Lib.hid (fun i hi out => pa_none (s := s) hs5 (i := i) hi out)
  have PS := Lib.hid (fun i hi c hc out => pa_some (s := s) hs5 (i := i) hi (c := c) hc out)
  have MB := Lib.hid (fun c j out hj hc => more_behind s hs5 c j out hj hc)
  have OKX := Lib.hid (txOf_ok s hs5)
  obtain ⟨RES, hRES⟩ : ∃ R, pathAll (txOf s) = R := ⟨_, rfl⟩
  rw [hRES]
  rw [pa_all, show (txOf s).blkA 0 = 0 + blk (s.data.toList.drop 0) from rfl] at hRES
  have HR0 := Lib.hid hRES
  have HHT := Lib.hid HT
  have HHJ := Lib.hid HJ
  have hg : gN ≤ w.heap.size := T.size
  have hbl0 := blk_drop_le s 0 (Nat.zero_le _)
  clear hRES HT HJ
  go_enter Tryz.func47, Tryz.ntmps47
  go_wp2_with fail
  go_step3
  go_wp2_with fail
  refine (N.out _).mono ?_
  rintro e w1 ⟨rfl, r1, b1⟩
  have T1 := Lib.hid (T.next b1)
  have J1 := Lib.hid (HHJ.out.new _ _ _ h0 b1)
  have R1 := Lib.hid r1
  obtain ⟨b, hb⟩ : ∃ b, w.heap.size = b := ⟨_, rfl⟩
  rw [hb] at R1 hg HHT HHJ ⊢
  clear T h0 b1 r1 hb
  have HG := Lib.hid hg
  go_wp2_with fail
  go_step3
  go_wp2_with fail
  refine (BL.out b 0 _ R1.out (Nat.zero_le _) T1.out hg).mono ?_
  rintro e w2 ⟨rfl, t2, r2⟩
  have T2 := Lib.hid (T1.out.turned t2 hg)
  have J2 := Lib.hid (HHJ.out.rdr _ _ _ _ _ J1.out (Nat.le_refl _) R1.out t2)
  have R2 := Lib.hid r2
  clear t2 r2 hg
  go_wp2_with fail
  go_loopw [7, 8] (fun u7 u8 wr => OuterInv s RES b J u7 u8 wr) (fun _ _ wr => s.size - plc b wr)
  case atStart => exact ⟨_, [], rfl, rfl, hbl0, R2.out, T2.out, J2.out, Nat.zero_le _, HR0⟩
  case round =>
    obtain ⟨p, pre, rfl, rfl, hp, hR, hT, hJ, hpl, hE⟩ := hrel
    have HM := Lib.hid hR.plc
    have HRD := Lib.hid hR
    have HPT := Lib.hid hT
    have HJJ := Lib.hid hJ
    clear hR hT hJ
    go_wp2_with fail
    refine (LF.out b p _ HRD.out hp).mono ?_
    rintro e w3 ⟨rfl, b3, r3⟩
    have T3 := Lib.hid (HPT.out.next b3)
    have J3 := Lib.hid (HHJ.out.new _ _ _ HJJ.out b3)
    have R3 := Lib.hid r3
    clear b3 r3
    by_cases hlt : p < s.size
    · have hpos : (0 : Int) < ((s.size - p : Nat) : Int) := by omega
      have hE' := hE.out
      rw [PN.out p hp, if_pos hlt] at hE'
      by_cases hbad : badL (!decide (pre = [])) (pk s p) = true
      · rw [if_pos ((bad_iff pre _).1 hbad)] at hE'
        have HE := Lib.hid hE'
        have HBD := Lib.hid hbad
        clear hE hE' hbad
        go_wp2_with fail
        refine (RL.out b p _ _ R3.out hlt T3.out HG.out).mono ?_
        rintro e w4 ⟨t4, h4⟩
        rw [HBD.out] at h4
        rcases h4 with ⟨_, rfl, r4⟩ | ⟨h4, _⟩
        case inr => cases h4
        have J4 := Lib.hid (HHJ.out.rdr _ _ _ _ _ J3.out (Nat.le_refl _) R3.out t4)
        have R4 := Lib.hid r4
        clear t4 r4
        go_wp2_with fail
        refine (AT.out b p _ R4.out).mono ?_
        rintro e w5 ⟨rfl, rfl⟩
        go_wp2_with fail
        (try rw [Exit.noGoto_ret]); go_ret2
        rw [← HE.out]
        exact ⟨rfl, J4.out⟩
      · rw [if_neg (fun h => hbad ((bad_iff pre _).2 h))] at hE'
        have hbad' : badL (!decide (pre = [])) (pk s p) = false := by simpa using hbad
        have h9 : cntL (pk s p) ≠ 99 := fun h => hbad ((bad_iff pre _).2 (Or.inl h))
        have hblk := blk_drop_le s (p + 1) (by omega)
        have hcl := pk_lt s p
        rw [show (txOf s).blkA (p + 1) = p + 1 + blk (s.data.toList.drop (p + 1)) from rfl] at hE'
        have hidm := blk_idem s (p + 1)
        have HE := Lib.hid hE'
        have HBD := Lib.hid hbad'
        have H9 := Lib.hid h9
        have HID := Lib.hid hidm
        clear hE hE' hbad hbad' h9 hidm
        go_wp2_with fail
        refine (RL.out b p _ _ R3.out hlt T3.out HG.out).mono ?_
        rintro e w4 ⟨t4, h4⟩
        rw [HBD.out, show (txOf s).blkA (p + 1) = p + 1 + blk (s.data.toList.drop (p + 1)) from rfl] at h4
        rcases h4 with ⟨h4, _⟩ | ⟨_, rfl, r4⟩
        case inl => cases h4
        have J4 := Lib.hid (HHJ.out.rdr _ _ _ _ _ J3.out (Nat.le_refl _) R3.out t4)
        have T4 := Lib.hid (T3.out.turned t4 HG.out)
        have R4 := Lib.hid r4
        clear t4 r4 T3 J3 R3 HBD
        have hge : p + 1 ≤ p + 1 + blk (s.data.toList.drop (p + 1)) := Nat.le_add_right _ _
        generalize p + 1 + blk (s.data.toList.drop (p + 1)) = p1 at *
        generalize pk s p = c0 at *
        generalize hks : kinL c0 = ks at *
        go_wp2_with fail
        go_loopw [9, 12, 8] (fun u9 u12 u8 wr => InnerInv s RES b p c0 J u9 u12 u8 wr) (fun _ u12 _ wr => s.size - plc b wr + isOn u12)
        case atStart =>
          refine ⟨c0, p1, true, pre, rfl, rfl, rfl, hcl, H9.out, rfl, rfl, by omega, hblk, R4.out, T4.out, J4.out, by simp only [isOn]; omega, (fun h => by cases h), fun _ => HID.out, Lib.hid ?_⟩
          rw [if_neg (by decide)]
          exact HE.out
        case round =>
          clear HE H9 HID R4 T4 J4 hcl
          obtain ⟨c, q, m, pre2, rfl, rfl, rfl, hc, h9, hkc, hcc, hpq, hq, hR, hT, hJ, hpl2, hne, hbk, hE⟩ := hrel
          rw [hks] at hkc
          have HM2 := Lib.hid hR.plc
          have HRD2 := Lib.hid hR
          have HPT2 := Lib.hid hT
          have HJJ2 := Lib.hid hJ
          have HBK := Lib.hid hbk
          have H9 := Lib.hid h9
          have HC := Lib.hid hc
          have HCC := Lib.hid hcc
          have HKC := Lib.hid hkc
          clear hR hT hJ hbk h9 hcc hkc
          cases m with
          | false =>
            have hE' := hE.out
            rw [if_pos rfl] at hE'
            have HE := Lib.hid hE'
            have HNE := Lib.hid (hne rfl)
            have HZ := Lib.hid (HBK.out (Or.inl rfl))
            clear hE hE' hne HBK
            go_wp2_with fail
            refine (BL.out b q _ HRD2.out hq HPT2.out HG.out).mono ?_
            rintro e w5 ⟨rfl, t5, r5⟩
            rw [HZ.out, Nat.add_zero] at r5
            have T5 := Lib.hid (HPT2.out.turned t5 HG.out)
            have J5 := Lib.hid (HHJ.out.rdr _ _ _ _ _ HJJ2.out (Nat.le_refl _) HRD2.out t5)
            have R5 := Lib.hid r5
            clear t5 r5
            go_wp2_with fail
            go_roundw
            case rel => exact ⟨q, pre2, by rw [decide_eq_false HNE.out]; rfl, rfl, hq, R5.out, T5.out, J5.out, by simpa [isOn] using hpl2, HE⟩
            case measure => rw [R5.out.plc, HM.out]; omega
          | true =>
            have hE' := hE.out
            rw [if_neg (by decide)] at hE'
            have GG := Lib.hid (RG.out b c q wr HC.out H9.out HRD2.out hq HPT2.out HG.out)
            rw [HKC.out] at GG
            unfold GroupPost at GG
            have BHC := Lib.hid (fun W => BH.out c W)
            obtain ⟨k1, k2, k3⟩ := kin_next HC.out H9.out
            rw [HKC.out] at k1
            by_cases h0 : cntL c = 0
            · have hks0 : ks = ⟨#[]⟩ := by
                have := kin_size HC.out H9.out
                rw [HKC.out, h0] at this
                exact ByteArray.ext (Array.eq_empty_of_size_eq_zero this)
              rw [if_pos h0] at hE'
              rw [h0, show argsL (txOf s) c 0 0 q [] = .inl ([], q) from rfl] at GG
              have HE := Lib.hid hE'
              have HZ := Lib.hid (HBK.out (Or.inr h0))
              have K := Lib.hid (And.intro k1 (And.intro k2 k3))
              have H0 := Lib.hid h0
              have HKS := Lib.hid hks0
              have hksI : ((ks.size : Nat) : Int) = 0 := by rw [hks0]; rfl
              clear hE hE' hne HBK k1 k2 k3 h0 hc hks0 RG
              go_wp2_with fail
              refine GG.out.mono ?_
              rintro e w5 ⟨t5, ⟨v, rfl, hown⟩, r5⟩
              obtain ⟨a', cap', rfl⟩ := own_shape hown
              have T5 := Lib.hid (HPT2.out.turned t5 HG.out)
              have J5 := Lib.hid (HHJ.out.rdr _ _ _ _ _ HJJ2.out (Nat.le_refl _) HRD2.out t5)
              have R5 := Lib.hid r5
              have OW := Lib.hid (own_lower hown (Nat.le_of_lt HRD2.out.lt))
              have L5 := Lib.hid (Nat.le_of_lt r5.lt)
              clear t5 r5 hown GG
              go_wp2_with fail
              have TC := Lib.hid (HHT.out pre2 ⟨c, []⟩ _ w5 J5.out L5.out (by have := hpl2; simp only [isOn] at this; omega) HC.out OW.out)
              refine TC.out.mono ?_
              rintro e w6 ⟨rfl, J6, b6, k6⟩
              have T6 := Lib.hid (T5.out.below b6 (Nat.le_refl _))
              have R6 := Lib.hid (k6 _ _ R5.out)
              have HJ6 := Lib.hid J6
              clear J6 b6 k6 TC
              go_wp2_with fail
              refine (BHC.out _).mono ?_
              rintro e w7 ⟨rfl, rfl⟩
              go_wp2_with fail
              have GN1 : Hid (∀ W, Calls Tryz.prog 87 #[.pointer (some ⟨b, 0, none⟩), .string ks] W fun e w' => e = .returned (.bool false) ∧ W = w') := Lib.hid (fun W => by rw [HKS.out]; exact GN.out b W)
              refine (GN1.out _).mono ?_
              rintro e w8 ⟨rfl, rfl⟩
              go_wp2_with fail
              go_roundw
              case rel =>
                refine ⟨nextL c, q, false, pre2 ++ [⟨c, []⟩], rfl, rfl, rfl, K.out.2.2, by rw [K.out.2.1]; exact H9.out, by rw [K.out.1, hks], K.out.2.1.trans HCC.out, hpq, hq, R6.out, T6.out, HJ6.out, by simp only [isOn, List.length_append, List.length_cons, List.length_nil] at hpl2 ⊢; omega, fun _ => by simp, fun _ => HZ.out, Lib.hid ?_⟩
                rw [if_pos rfl]; exact HE.out
              case measure => rw [R6.out.plc, HM2.out]; simp [isOn]
            · rw [if_neg h0, PS.out q hq c (by omega)] at hE'
              have hcpos : 0 < cntL c := by omega
              have AM := args_mono OKX.out c (cntL c) 0 q [] hq
              cases hA : argsL (txOf s) c (cntL c) 0 q [] with
              | inr y =>
                obtain ⟨j, er⟩ := y
                rw [hA] at hE' GG
                have HE := Lib.hid hE'
                clear hE hE' hne HBK k1 k2 k3 AM hA hcpos RG
                go_wp2_with fail
                refine GG.out.mono ?_
                rintro e w5 ⟨t5, rfl, her, r5⟩
                have J5 := Lib.hid (HHJ.out.rdr _ _ _ _ _ HJJ2.out (Nat.le_refl _) HRD2.out t5)
                have R5 := Lib.hid r5
                have her' : (er == 0) = false := by rw [beq_eq_false_iff_ne]; exact her
                have her2 : (er != 0) = true := by rw [bne, her']; rfl
                clear t5 r5 her GG
                go_wp2_with fail
                refine (AT.out b j _ R5.out).mono ?_
                rintro e w6 ⟨rfl, rfl⟩
                go_wp2_with fail
                (try rw [Exit.noGoto_ret]); go_ret2
                rw [← HE.out]
                exact ⟨rfl, J5.out⟩
              | inl y =>
                obtain ⟨xs, j⟩ := y
                rw [hA] at hE' GG
                have hj := AM.1 _ _ hA
                have hj1 : q < j := hj.2.2 hcpos
                have hj2 : j ≤ s.size := hj.2.1
                have hE2 : behindA s c j (pre2 ++ [⟨c, xs⟩]) = RES := hE'
                rw [MB.out c j _ hj2 hcpos] at hE2
                have HE := Lib.hid hE2
                have HML := Lib.hid (more_le s j hj2)
                have HMB := Lib.hid (more_blk s j)
                have hksp : 0 < ks.size := by have := kin_size HC.out H9.out; rw [HKC.out] at this; omega
                have K := Lib.hid (And.intro k1 (And.intro k2 k3))
                have H0 := Lib.hid h0
                have GOJ := Lib.hid (fun W H T => GO.out b j ks W hksp H hj2 T HG.out)
                clear hE hE' hE2 hne HBK k1 k2 k3 AM hA hj h0 RG GO
                go_wp2_with fail
                refine GG.out.mono ?_
                rintro e w5 ⟨t5, ⟨v, rfl, hown⟩, r5⟩
                obtain ⟨a', cap', rfl⟩ := own_shape hown
                have T5 := Lib.hid (HPT2.out.turned t5 HG.out)
                have J5 := Lib.hid (HHJ.out.rdr _ _ _ _ _ HJJ2.out (Nat.le_refl _) HRD2.out t5)
                have R5 := Lib.hid r5
                have OW := Lib.hid (own_lower hown (Nat.le_of_lt HRD2.out.lt))
                have L5 := Lib.hid (Nat.le_of_lt r5.lt)
                clear t5 r5 hown GG
                go_wp2_with fail
                have TC := Lib.hid (HHT.out pre2 ⟨c, xs⟩ _ w5 J5.out L5.out (by have := hpl2; simp only [isOn] at this; omega) HC.out OW.out)
                refine TC.out.mono ?_
                rintro e w6 ⟨rfl, J6, b6, k6⟩
                have T6 := Lib.hid (T5.out.below b6 (Nat.le_refl _))
                have R6 := Lib.hid (k6 _ _ R5.out)
                have HJ6 := Lib.hid J6
                clear J6 b6 k6 TC
                go_wp2_with fail
                refine (BHC.out _).mono ?_
                rintro e w7 ⟨rfl, rfl⟩
                go_wp2_with fail
                refine (GOJ.out _ R6.out T6.out).mono ?_
                rintro e w8 ⟨rfl, t8, r8⟩
                have T8 := Lib.hid (T6.out.turned t8 HG.out)
                have J8 := Lib.hid (HHJ.out.rdr _ _ _ _ _ HJ6.out (Nat.le_refl _) R6.out t8)
                have R8 := Lib.hid r8
                clear t8 r8
                generalize moreL s j = mm at *
                obtain ⟨m1, q1⟩ := mm
                go_wp2_with fail
                go_roundw
                case rel =>
                  refine ⟨nextL c, q1, m1, pre2 ++ [⟨c, xs⟩], rfl, rfl, rfl, K.out.2.2, by rw [K.out.2.1]; exact H9.out, by rw [K.out.1, hks], K.out.2.1.trans HCC.out, by have := HML.out; omega, HML.out.2, R8.out, T8.out, J8.out, by have := HML.out; cases m1 <;> simp only [isOn, List.length_append, List.length_cons, List.length_nil] at hpl2 ⊢ <;> omega, fun _ => by simp, ?_, Lib.hid ?_⟩
                  · intro h
                    rcases h with h | h
                    · exact HMB.out h
                    · exact absurd (K.out.2.1.symm.trans h) H0.out
                  · rw [← HE.out]
                    cases m1 with
                    | false => rfl
                    | true => rw [if_neg (by decide), if_neg (by rw [K.out.2.1]; exact H0.out)]; rfl
                case measure =>
                  rw [R8.out.plc, HM2.out]
                  have := HML.out
                  cases m1 <;> simp [isOn] <;> omega
    · have hpos : ¬ (0 : Int) < ((s.size - p : Nat) : Int) := by omega
      have hE' := hE.out
      rw [PN.out p hp, if_neg hlt] at hE'
      have HE := Lib.hid hE'
      clear hE hE'
      go_wp2_with fail
      (try rw [Exit.noGoto_ret]); go_ret2
      rw [← HE.out]
      exact ⟨rfl, J3.out⟩
end Go.Proofs.YtbjabclgekkpaaaGreatDoor
