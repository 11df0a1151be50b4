/-
  The contracts of package path's readArgument and readGroup: the arguments of one group, as the document's machine reads them.
-/
import Derived.Test.YtgiibcnakiggaaaDoorPathFn
import Derived.Test.YtgiibcnakiggaaaDoorPathTx
import Derived.Test.YtgiibcnakiggaaaDoorIter
namespace Go.Proofs.YtgiibcnakiggaaaDoor
open Go.RowKit Go.Shelf

/-- What the laws ask of memory: layer 5's tables, and the table of letters. -/
structure PTabs (w : World) : Prop where
  st : STabs w
  rows : Rws w
theorem Rws.below {w w' : World} {B : Nat} (h : Rws w) (t : Below B w w') (hB : gN ≤ B) : Rws w' := fun i hi =>
  have hg : 0 < B := Nat.lt_of_lt_of_le (show 0 < gN by exact of_decide_eq_true (by kernel_rfl)) hB
  ⟨(t.cell (p := ⟨_, _, none⟩) hg).trans (h i hi).1, (t.cell (p := ⟨_, _, none⟩) hg).trans (h i hi).2⟩
theorem PTabs.next {w w' : World} (h : PTabs w) (t : Below w.heap.size w w') : PTabs w' := ⟨h.st.next t, h.rows.below t h.st.tabs.size⟩
theorem PTabs.turned {w w' : World} {b : Nat} (h : PTabs w) (t : Turned b w w') (hb : gN ≤ b) : PTabs w' :=
  ⟨h.st.turned t hb, h.rows.below (t.below hb h.st.tabs.size) (Nat.le_refl _)⟩
theorem PTabs.size {w : World} (h : PTabs w) : gN ≤ w.heap.size := h.st.tabs.size
theorem PTabs.below {w w' : World} {B : Nat} (h : PTabs w) (t : Below B w w') (hB : gN ≤ B) : PTabs w' :=
  ⟨⟨h.st.tabs.below t hB t.size, h.st.blks.below t hB⟩, h.rows.below t hB⟩

/-- One argument of a kind, from a place on. -/
noncomputable def argA (s : ByteArray) (kd k : Nat) : Int × Int × Nat := if flagK kd then flg s k else numT s k (kd != 114)
theorem flag_flg (s : ByteArray) (j : Nat) : flagA (txOf s) j = flg s j := by
  unfold flagA flg
  show (if j < s.size ∧ (pk s j = 48 ∨ pk s j = 49) then _ else _) = _
  by_cases h : j < s.size
  · by_cases h0 : pk s j = 48
    · rw [if_pos ⟨h, Or.inl h0⟩, if_pos h0]
      show ((pk s j : Int) - 48, (0 : Int), j + 1) = _
      rw [h0]; rfl
    · by_cases h1 : pk s j = 49
      · rw [if_pos ⟨h, Or.inr h1⟩, if_neg h0, if_pos h1]
        show ((pk s j : Int) - 48, (0 : Int), j + 1) = _
        rw [h1]; rfl
      · rw [if_neg (fun e => by rcases e.2 with e | e <;> contradiction), if_neg h0, if_neg h1]
  · rw [if_neg (fun e => h e.1), pk_out h, if_neg (by decide), if_neg (by decide)]
/-- The k-th argument: the gap, then the argument. -/
theorem one_arg (s : ByteArray) {c : Nat} (hc : c < 256) (k i : Nat) (hk : k < (kinL c).size) :
    one (txOf s) c k i = if (kinL c)[k].toNat = 70 ∧ (txOf s).gapA i = i then (0, 3, i) else argA s (kinL c)[k].toNat (if k = 0 then i else (txOf s).gapA i) := by
  have G : ∀ j sg, (txOf s).num j sg = numT s j sg := fun _ _ => rfl
  cases h : isArc c with
  | false =>
    rw [one_plain _ _ _ h, kin_plain hc h hk, if_neg (show ¬ ((110 : UInt8).toNat = 70 ∧ (txOf s).gapA i = i) from fun e => absurd e.1 (by decide))]
    unfold argA
    rw [show flagK (110 : UInt8).toNat = false from by decide, if_neg (show ¬ false = true by decide)]; rfl
  | true =>
    have e := kin_arc hc h
    have hs : (kinL c).size = 7 := by rw [e]; rfl
    have hk' : k = 0 ∨ k = 1 ∨ k = 2 ∨ k = 3 ∨ k = 4 ∨ k = 5 ∨ k = 6 := by omega
    have K : ∀ j (hj : j < 7) , (kinL c)[j]'(by omega) = (⟨#[114, 114, 110, 70, 102, 110, 110]⟩ : ByteArray)[j]'hj := fun j hj => by simp only [e]
    unfold argA
    rcases hk' with rfl | rfl | rfl | rfl | rfl | rfl | rfl
    · rw [one_num _ _ h (by omega), K 0 (by decide)]; rfl
    · rw [one_num _ _ h (by omega), K 1 (by decide)]; rfl
    · rw [one_num _ _ h (by omega), K 2 (by decide)]; rfl
    · rw [K 3 (by decide)]
      by_cases hg : (txOf s).gapA i = i
      · rw [one_none _ h ⟨rfl, hg⟩, if_pos ⟨rfl, hg⟩]
      · rw [one_flag _ h (fun e => hg e.2) (Or.inl rfl), if_neg (fun e => hg e.2), flag_flg]; rfl
    · rw [K 4 (by decide), one_flag _ h (fun e => absurd e.1 (by decide)) (Or.inr rfl), flag_flg]; rfl
    · rw [one_num _ _ h (by omega), K 5 (by decide)]; rfl
    · rw [one_num _ _ h (by omega), K 6 (by decide)]; rfl

theorem kin_head {c : Nat} (hc : c < 256) (h : 0 < (kinL c).size) : (kinL c)[0].toNat ≠ 70 := by
  cases ha : isArc c with
  | false => rw [kin_plain hc ha h]; decide
  | true =>
    have K : (kinL c)[0] = 114 := by simp only [kin_arc hc ha]; rfl
    rw [K]; decide

theorem readArg_any (b : Nat) (s : ByteArray) (k kd : Nat) (w : World) (H : Rdr b s k w) (hs : s.size ≤ 100000) (hk : k ≤ s.size) (T : PTabs w) :
    Calls Tryd.prog 68 #[.pointer (some ⟨b, 0, none⟩), .int .u8 (kd : Int)] w (NumPost b s (argA s kd k) w) := by
  have I := Lib.hid (fun w => isFlag_any kd w)
  have hm : s.size ≤ maxLen := by unfold maxLen; omega
  unfold argA NumPost
  cases hf : flagK kd with
  | true =>
    rw [hf] at I
    have F := Lib.hid (Flag_any b s k w H hm hk)
    simp only [if_true]
    generalize flg s k = x at *
    clear H T hs hk hm hf
    go_enter Tryd.func68, Tryd.ntmps68
    go_wp2_with fail
    refine (I.out _).mono ?_
    rintro e w1 ⟨rfl, rfl⟩
    go_wp2_with fail
    refine F.out.mono ?_
    rintro e w1 ⟨rfl, t1, r1⟩
    have T1 := Lib.hid t1
    have R1 := Lib.hid r1
    clear t1 r1
    go_wp2_with fail
    go_ret2
    exact ⟨rfl, T1.out, R1.out⟩
  | false =>
    rw [hf] at I
    simp only [Bool.false_eq_true, if_false]
    have N := Lib.hid (fun sg => number_T b s k sg w H hs hk T.st)
    unfold NumPost at N
    clear H T hs hk hm hf
    by_cases h : kd = 114
    · subst h
      have N1 := Lib.hid (N.out false)
      rw [show ((114 : Nat) != 114) = false from rfl]
      generalize numT s k false = x at *
      clear N
      go_enter Tryd.func68, Tryd.ntmps68
      go_wp2_with fail
      refine (I.out _).mono ?_
      rintro e w1 ⟨rfl, rfl⟩
      go_wp2_with fail
      refine N1.out.mono ?_
      rintro e w1 ⟨rfl, t1, r1⟩
      have T1 := Lib.hid t1
      have R1 := Lib.hid r1
      clear t1 r1
      go_wp2_with fail
      go_ret2
      exact ⟨rfl, T1.out, R1.out⟩
    · have N1 := Lib.hid (N.out true)
      have e1 : ((kd : Int) == 114) = false := by rw [beq_eq_false_iff_ne]; omega
      have e2 : ((kd : Int) != 114) = true := by rw [bne, e1]; rfl
      rw [show (kd != 114) = true from by simpa using h]
      generalize numT s k true = x at *
      clear N
      go_enter Tryd.func68, Tryd.ntmps68
      go_wp2_with fail
      refine (I.out _).mono ?_
      rintro e w1 ⟨rfl, rfl⟩
      go_wp2_with fail
      refine N1.out.mono ?_
      rintro e w1 ⟨rfl, t1, r1⟩
      have T1 := Lib.hid t1
      have R1 := Lib.hid r1
      clear t1 r1
      go_wp2_with fail
      go_ret2
      exact ⟨rfl, T1.out, R1.out⟩

/-- A row of numbers of the call's own: one more. -/
theorem info_i64 : (Tryd.prog.info? 2).map (fun i => (i.zero, i.size, i.bytes)) = some (some (.int .i64 0), 1, 8) := by kernel_rfl
def ints (zs : List Int) : List Value := zs.map (Value.int .i64)
theorem append_i64 {ops : Array Oper} {rest : List Oper} {o : Oper} {a : Act} {Q : Exit → Act → World → Prop} (w : World) (hgd : o.guard = none) (s x : Operand)
    (ho : o.op = .call { callee := .builtin .append, args := #[s, x], argTypes := #[32, 32] }) {B k : Nat} {v : Value} {os : List Value} (d : Int) (hown : w.ownsRow B 2 1 v k os) (hs : a.eval s = v)
    (hx : a.eval x = .slice (some ⟨w.heap.size, 0, none⟩) 1 1) (hk : k ≤ 1000000000) (hB : B ≤ w.heap.size)
    (h : ∀ v' w', w'.ownsRow B 2 1 v' (k + 1) (os ++ [.int .i64 d]) → w.grownBy w' v.ownBlock → wpList Tryd.prog ops Q rest (a.put o.dst v') w') :
    wpList Tryd.prog ops Q (o :: rest) a (w.alloc (.cells #[.int .i64 d] 2)) := by
  obtain ⟨i0, hi, hz0, hz1, hz2⟩ := info_parts info_i64
  refine wpList_append_own _ hgd s x 32 ho B 2 i0 (.int .i64 0) 1 8 Tryd.underlying32 hi hz0 hz1 hz2 rfl (by decide) v k os hs (hown.alloc _) ⟨w.heap.size, 0, none⟩ 1 1 [.int .i64 d] hx rfl ?_ ?_ ?_ ?_ ?_ ?_
  · intro j u hj
    match j, hj with
    | 0, hj => simp at hj; subst hj; simp [Addr.add]
  · intro u hu; simp at hu; subst hu; rfl
  · unfold maxLen; omega
  · omega
  · simp; omega
  · intro v' w' hown' hg _
    refine h v' w' hown' ?_
    refine ⟨hg.os, hg.tape, hg.output, Nat.le_trans (by simp) hg.size, fun k hk hne => (hg.block k (by simp; omega) hne).trans (Below.heap_alloc _ _ _ hk)⟩
theorem ints_snoc (zs : List Int) (d : Int) : ints (zs ++ [d]) = ints zs ++ [.int .i64 d] := by simp [ints]
theorem owni_below {w w' : World} {B : Nat} {v : Value} {k : Nat} {xs : List Value} (hown : w.ownsRow B 2 1 v k xs) (hg : w.grownBy w' v.ownBlock) (hB : B ≤ w.heap.size) : Below B w w' :=
  (Below.refl B w).grown hg (by omega) fun q hq => (hown.lt q hq).1
theorem Turned.grown {b : Nat} {u w w' : World} {o : Option Nat} (h : Turned b u w) (hg : w.grownBy w' o) (ho : ∀ q, o = some q → u.heap.size ≤ q) : Turned b u w' :=
  ⟨hg.os.trans h.os, hg.tape.trans h.tape, hg.output.trans h.output, Nat.le_trans h.size hg.size, fun k hk hn => (hg.block k (Nat.lt_of_lt_of_le hk h.size) (fun e => by have := ho k e.symm; omega)).trans (h.block k hk hn)⟩
theorem own_turned {b B : Nat} {e : TypeId} {sz : Nat} {w w' : World} {v : Value} {k : Nat} {xs : List Value} (h : w.ownsRow B e sz v k xs) (t : Turned b w w') (hb : b < B) : w'.ownsRow B e sz v k xs := by
  refine h.kept (row := some b) ⟨t.os, t.tape, t.output, t.size, fun q hq hn => t.block q hq (fun e => hn (by rw [e]))⟩ ?_
  refine Or.inr fun e => ?_
  have := (h.lt b e).1
  omega
theorem Turned.mono {b : Nat} {u w w' : World} (h : Turned b u w) (t : Turned b w w') : Turned b u w' := h.trans t

/-- What readGroup leaves. -/
def GroupPost (b : Nat) (s : ByteArray) (r : (List Int × Nat) ⊕ (Nat × Int)) (w : World) (e : Ending) (w' : World) : Prop :=
  Turned b w w' ∧ match r with
    | .inl (xs, j) => (∃ v, e = .returned (.tuple #[v, .int .i64 0]) ∧ w'.ownsRow w.heap.size 2 1 v xs.length (ints xs)) ∧ Rdr b s j w'
    | .inr (j, er) => e = .returned (.tuple #[.slice none 0 0, .int .i64 er]) ∧ er ≠ 0 ∧ Rdr b s j w'
theorem args_step (X : Tx) (c n k i : Nat) (acc : List Int) : argsL X c (n + 1) k i acc = if (one X c k i).2.1 = 0 then argsL X c n (k + 1) (one X c k i).2.2 (acc ++ [(one X c k i).1]) else .inr ((one X c k i).2.2, (one X c k i).2.1) := rfl

set_option maxRecDepth 100000 in
set_option maxHeartbeats 2000000 in
theorem readGroup_any (b : Nat) (s : ByteArray) (c i0 : Nat) (w : World) (hc : c < 256) (h9 : cntL c ≠ 99) (H : Rdr b s i0 w) (hs : s.size ≤ 100000) (hi : i0 ≤ s.size) (T : PTabs w) (hb : gN ≤ b) :
    Calls Tryd.prog 44 #[.pointer (some ⟨b, 0, none⟩), .string (kinL c)] w (GroupPost b s (argsL (txOf s) c (cntL c) 0 i0 []) w) := by
  have hm : s.size ≤ maxLen := by unfold maxLen; omega
  have G := Lib.hid (fun a W H ha (T : PTabs W) => Gap_any b s a W H hm ha T.st.blks hb)
  have A := Lib.hid (fun k kd W H hk T => readArg_any b s k kd W H hs hk T)
  unfold NumPost at A
  have O := Lib.hid (fun k i hk => one_arg s hc k i hk)
  have OK := Lib.hid (fun k i hi => one_ok (txOf_ok s hs) c k i hi)
  have hsz := kin_size hc h9
  have hn : cntL c ≤ 7 := by have := cnt_le c; omega
  rw [← hsz] at hn
  obtain ⟨RES, hRES⟩ : ∃ R, argsL (txOf s) c (cntL c) 0 i0 [] = R := ⟨_, rfl⟩
  rw [hRES]
  rw [← hsz] at hRES
  have HW := H.lt
  have hH := kin_head hc
  have HB := Lib.hid hb
  have HS := Lib.hid hs
  clear hs hm hsz h9
  generalize hks : kinL c = ks at *
  go_enter Tryd.func44, Tryd.ntmps44
  go_wp2_with fail
  go_loopw [13, 6] (fun v u wr => ∃ (k p : Nat) (acc : List Int), v = .int .i64 (k : Int) ∧ k ≤ ks.size ∧ wr.ownsRow w.heap.size 2 1 u k (ints acc) ∧ acc.length = k ∧ Turned b w wr ∧ Rdr b s p wr ∧ p ≤ s.size ∧ PTabs wr ∧ Hid (argsL (txOf s) c (ks.size - k) k p acc = RES)) (fun v _ _ => ks.size - (intOf v).toNat)
  case atStart => exact ⟨0, i0, [], rfl, Nat.zero_le _, World.ownsRow_nil _ _ _ _, rfl, Turned.refl _ _, H, hi, T, Lib.hid hRES⟩
  case round =>
    obtain ⟨k, p, acc, rfl, hk, hown, hacc, ht, hr, hp, hT, hR⟩ := hrel
    obtain ⟨a', cap', rfl⟩ := own_shape hown
    by_cases hlt : k < ks.size
    · have HR := Lib.hid hR.out
      have hst : argsL (txOf s) c (ks.size - k) k p acc = if (one (txOf s) c k p).2.1 = 0 then argsL (txOf s) c (ks.size - (k + 1)) (k + 1) (one (txOf s) c k p).2.2 (acc ++ [(one (txOf s) c k p).1]) else .inr ((one (txOf s) c k p).2.2, (one (txOf s) c k p).2.1) := by
        rw [show ks.size - k = (ks.size - (k + 1)) + 1 from by omega]; rfl
      have hu := O.out k p hlt
      have hx3 : (one (txOf s) c k p).2.2 ≤ s.size := (OK.out k p hp).hi
      have GL : (txOf s).gapA p = p + gap 0 (s.data.toList.drop p) := rfl
      rw [GL] at hu
      have hgl := gap_drop_le s 0 p hp
      generalize one (txOf s) c k p = x at *
      generalize hgn : gap 0 (s.data.toList.drop p) = gn at *
      have HOW := Lib.hid hown
      have HTT := Lib.hid ht
      have HRD := Lib.hid hr
      have HPT := Lib.hid hT
      clear hown ht hr hT hR O OK GL hRES T H
      by_cases hk0 : k = 0
      · have hF : ¬ (ks[k].toNat = 70 ∧ p + gn = p) := by subst hk0; exact fun e => hH (by omega) e.1
        rw [if_neg hF, if_pos hk0] at hu
        have h70 : ((ks[k].toNat : Int) == 70) = false := by rw [beq_eq_false_iff_ne]; subst hk0; have := hH (by omega); omega
        have hpos : ¬ (0 : Int) < (k : Int) := by omega
        have AT := Lib.hid (fun W H T => A.out p ks[k].toNat W H hp T)
        rw [← hu] at AT
        obtain ⟨x1, x2, x3⟩ := x
        clear hu hF G A hH hk0
        go_wp2_with fail
        refine (AT.out _ HRD.out HPT.out).mono ?_
        rintro e w2 ⟨rfl, t2, r2⟩
        have TT2 := Lib.hid (HTT.out.trans t2)
        have PT2 := Lib.hid (HPT.out.turned t2 HB.out)
        have OW2 := Lib.hid (own_turned HOW.out t2 HW)
        have R2 := Lib.hid r2
        have sz2 : w.heap.size ≤ w2.heap.size := TT2.out.size
        clear t2 r2
        by_cases h0 : x2 = 0
        · subst h0
          rw [if_pos rfl] at hst
          have HST := Lib.hid hst
          clear hst
          go_wp2_with (first | (at_builtin; refine append_i64 _ rfl (.tmp 41) (.tmp 43) rfl _ OW2.out rfl rfl (by omega) sz2 ?_; intro v' w3 hown' hg3))
          have TT3 := Lib.hid (TT2.out.grown hg3 (fun q hq => (OW2.out.lt q hq).1))
          have B3 := Lib.hid (owni_below OW2.out hg3 sz2)
          obtain ⟨a3, cap3, rfl⟩ := own_shape hown'
          go_roundw
          case rel =>
            refine ⟨k + 1, x3, acc ++ [x1], by go_num, by omega, by rw [ints_snoc]; exact hown', by rw [List.length_append, hacc]; rfl, TT3.out, R2.out.below B3.out HW, hx3, PT2.out.below B3.out (Nat.le_trans HB.out (by omega)), ?_⟩
            exact Lib.hid (HST.out.symm.trans HR.out)
          case measure => simp [intOf]; omega
        · have E := Lib.hid h0
          rw [if_neg h0] at hst
          have RR := Lib.hid (HR.out.symm.trans hst)
          have hne : (x2 == 0) = false := by rw [beq_eq_false_iff_ne]; exact h0
          clear hst h0
          go_wp2_with fail
          go_ret2
          refine ⟨TT2.out, ?_⟩
          rw [RR.out]
          exact ⟨rfl, E.out, R2.out⟩
      · have hpos : (0 : Int) < (k : Int) := by omega
        rw [if_neg hk0] at hu
        have GG := Lib.hid (G.out p wr HRD.out hp HPT.out)
        rw [hgn] at GG
        clear G hH
        by_cases hF : ks[k].toNat = 70 ∧ p + gn = p
        · rw [if_pos hF] at hu
          have hz : gn = 0 := by omega
          have h70 : ((ks[k].toNat : Int) == 70) = true := by rw [beq_iff_eq]; omega
          subst hu
          rw [if_neg (show ¬ (3 : Int) = 0 by decide)] at hst
          have RR := Lib.hid (HR.out.symm.trans hst)
          rw [show decide (0 < gn) = false from by simp [hz], hz] at GG
          clear hst hF A hz
          go_wp2_with fail
          refine GG.out.mono ?_
          rintro e w1 ⟨rfl, t1, r1⟩
          have TT1 := Lib.hid (HTT.out.trans t1)
          have R1 := Lib.hid r1
          clear t1 r1
          go_wp2_with fail
          go_ret2
          refine ⟨TT1.out, ?_⟩
          rw [RR.out]
          exact ⟨rfl, by decide, R1.out⟩
        · rw [if_neg hF] at hu
          have AT := Lib.hid (fun W H T => A.out (p + gn) ks[k].toNat W H hgl T)
          rw [← hu] at AT
          obtain ⟨x1, x2, x3⟩ := x
          have hdis : (((ks[k].toNat : Int) == 70) && !decide (0 < gn)) = false := by
            cases h7 : ((ks[k].toNat : Int) == 70) with
            | false => rfl
            | true =>
              have : ks[k].toNat = 70 := by have := beq_iff_eq.1 h7; omega
              have : 0 < gn := by omega
              simp [this]
          clear hu hF A
          generalize decide (0 < gn) = ap at *
          generalize h70 : ((ks[k].toNat : Int) == 70) = is70 at *
          cases is70 <;> cases ap <;> simp at hdis
          all_goals
            clear hdis
            go_wp2_with fail
            refine GG.out.mono ?_
            rintro e w1 ⟨rfl, t1, r1⟩
            have TT1 := Lib.hid (HTT.out.trans t1)
            have PT1 := Lib.hid (HPT.out.turned t1 HB.out)
            have OW1 := Lib.hid (own_turned HOW.out t1 HW)
            have R1 := Lib.hid r1
            clear t1 r1
            go_wp2_with fail
            refine (AT.out _ R1.out PT1.out).mono ?_
            rintro e w2 ⟨rfl, t2, r2⟩
            have TT2 := Lib.hid (TT1.out.trans t2)
            have PT2 := Lib.hid (PT1.out.turned t2 HB.out)
            have OW2 := Lib.hid (own_turned OW1.out t2 HW)
            have R2 := Lib.hid r2
            have sz2 : w.heap.size ≤ w2.heap.size := TT2.out.size
            clear t2 r2
            by_cases h0 : x2 = 0
            · subst h0
              rw [if_pos rfl] at hst
              have HST := Lib.hid hst
              clear hst
              go_wp2_with (first | (at_builtin; refine append_i64 _ rfl (.tmp 41) (.tmp 43) rfl _ OW2.out rfl rfl (by omega) sz2 ?_; intro v' w3 hown' hg3))
              have TT3 := Lib.hid (TT2.out.grown hg3 (fun q hq => (OW2.out.lt q hq).1))
              have B3 := Lib.hid (owni_below OW2.out hg3 sz2)
              obtain ⟨a3, cap3, rfl⟩ := own_shape hown'
              go_roundw
              case rel =>
                refine ⟨k + 1, x3, acc ++ [x1], by go_num, by omega, by rw [ints_snoc]; exact hown', by rw [List.length_append, hacc]; rfl, TT3.out, R2.out.below B3.out HW, hx3, PT2.out.below B3.out (Nat.le_trans HB.out (by omega)), ?_⟩
                exact Lib.hid (HST.out.symm.trans HR.out)
              case measure => simp [intOf]; omega
            · have E := Lib.hid h0
              rw [if_neg h0] at hst
              have RR := Lib.hid (HR.out.symm.trans hst)
              have hne : (x2 == 0) = false := by rw [beq_eq_false_iff_ne]; exact h0
              clear hst h0
              go_wp2_with fail
              go_ret2
              refine ⟨TT2.out, ?_⟩
              rw [RR.out]
              exact ⟨rfl, E.out, R2.out⟩
    · have hk' : k = ks.size := by omega
      have hR' := hR.out
      rw [hk', Nat.sub_self] at hR'
      have HR := Lib.hid (show RES = .inl (acc, p) from hR'.symm)
      have HOW := Lib.hid hown
      have HA := Lib.hid hacc
      have hnl : ¬ (k : Int) < (ks.size : Int) := by omega
      clear hk' hR' hown hR hacc
      go_wp2_with fail
      go_ret2
      refine ⟨ht, ?_⟩
      rw [HR.out]
      exact ⟨⟨_, rfl, by rw [HA.out]; exact HOW.out⟩, hr⟩
end Go.Proofs.YtgiibcnakiggaaaDoor
