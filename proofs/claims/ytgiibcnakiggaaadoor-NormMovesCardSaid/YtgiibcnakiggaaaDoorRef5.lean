/-
  The document's answers of layer 5: Blank, Blanks, Gap, Flag, Number.
-/
import Derived.Test.YtgiibcnakiggaaaDoorJScan
import Derived.Test.YtgiibcnakiggaaaDoorRef4Parse
namespace Go.Proofs.YtgiibcnakiggaaaDoor
open Go.RowKit Go.Shelf

set_option maxRecDepth 100000 in
theorem rblank_any (s : ByteArray) (i : Nat) (w : World) (hs : s.size ≤ maxLen) :
    Calls Tryd.prog 29 #[.string s, .int .i64 (i : Int)] w fun e w' => e = .returned (.bool (headIs isBl (s.data.toList.drop i))) ∧ w = w' := by
  have H := Lib.hid (head_at s i isBl)
  have hs' : s.size ≤ 9223372036854775807 := hs
  clear hs
  by_cases hi : i < s.size
  · have HH := Lib.hid (show headIs isBl (s.data.toList.drop i) = isBlN s[i].toNat by rw [H.out, dif_pos hi]; rfl)
    clear H
    rw [HH.out]
    unfold isBlN
    generalize hc : s[i].toNat = c
    by_cases h1 : c = 9
    · subst h1
      go_enter Tryd.func29, Tryd.ntmps29
      go_wp2_with fail
      go_ret
      exact ⟨by simp, rfl⟩
    · have e1 : ((c : Int) == 9) = false := by rw [beq_eq_false_iff_ne]; omega
      by_cases h2 : c = 10
      · subst h2
        go_enter Tryd.func29, Tryd.ntmps29
        go_wp2_with fail
        go_ret
        exact ⟨by simp, rfl⟩
      · have e2 : ((c : Int) == 10) = false := by rw [beq_eq_false_iff_ne]; omega
        by_cases h3 : c = 13
        · subst h3
          go_enter Tryd.func29, Tryd.ntmps29
          go_wp2_with fail
          go_ret
          exact ⟨by simp, rfl⟩
        · have e3 : ((c : Int) == 13) = false := by rw [beq_eq_false_iff_ne]; omega
          by_cases h4 : c = 32
          · subst h4
            go_enter Tryd.func29, Tryd.ntmps29
            go_wp2_with fail
            go_ret
            exact ⟨by simp, rfl⟩
          · have e4 : ((c : Int) == 32) = false := by rw [beq_eq_false_iff_ne]; omega
            go_enter Tryd.func29, Tryd.ntmps29
            go_wp2_with fail
            go_ret
            exact ⟨by simp [h1, h2, h3, h4], rfl⟩
  · rw [show headIs isBl (s.data.toList.drop i) = false by rw [H.out, dif_neg hi]]
    clear H
    have h1 : ¬ (i : Int) < (s.size : Int) := by omega
    go_enter Tryd.func29, Tryd.ntmps29
    go_wp2_with fail
    go_ret
    exact ⟨by simp, rfl⟩

theorem rblanks_any (s : ByteArray) (i : Nat) (w : World) (hs : s.size ≤ maxLen) (hi : i ≤ s.size) :
    Calls Tryd.prog 16 #[.string s, .int .i64 (i : Int)] w fun e w' => e = .returned (.int .i64 ((i + blk (s.data.toList.drop i) : Nat) : Int)) ∧ w = w' := by
  have D := Lib.hid (fun j w => rblank_any s j w hs)
  have hs' : s.size ≤ 9223372036854775807 := hs
  clear hs
  go_enter Tryd.func16, Tryd.ntmps16
  go_wp2_with fail
  go_loop [1] (fun v => ∃ k : Nat, k ≤ s.size ∧ v = .int .i64 (k : Int) ∧ Hid (i + blk (s.data.toList.drop i) = k + blk (s.data.toList.drop k))) (fun v => s.size - (intOf v).toNat)
  case atStart => exact ⟨i, hi, rfl, Lib.hid rfl⟩
  case round =>
    obtain ⟨k, hk, rfl, hr⟩ := hrel
    go_wp2_with fail
    refine (D.out k _).mono ?_
    rintro e w1 ⟨rfl, rfl⟩
    cases hd : headIs isBl (s.data.toList.drop k) with
    | true =>
      have hlt := head_lt s k isBl hd
      have HD := Lib.hid (blk_pos _ hd)
      rw [List.drop_drop] at HD
      clear hd
      have e1 : IntKind.i64.wrap ((k : Int) + 1) = ((k + 1 : Nat) : Int) := by rw [IntWalk.i64_in _ (by omega)]; omega
      go_wp2_with fail
      go_round
      case rel => exact ⟨k + 1, by omega, by go_num, Lib.hid (by rw [hr.out, HD.out]; omega)⟩
      case measure => simp [intOf]; omega
    | false =>
      have HD := Lib.hid (blk_zero _ hd)
      clear hd
      go_wp2_with fail
      go_ret
      exact ⟨by rw [hr.out, HD.out]; rfl, rfl⟩
theorem blk_drop_le (s : ByteArray) (i : Nat) (hi : i ≤ s.size) : i + blk (s.data.toList.drop i) ≤ s.size := by
  have := blk_le (s.data.toList.drop i)
  rw [List.length_drop, Array.length_toList] at this
  have e : s.data.size = s.size := rfl
  omega
theorem gap_drop_le (s : ByteArray) (c i : Nat) (hi : i ≤ s.size) : i + gap c (s.data.toList.drop i) ≤ s.size := by
  have := gap_le (s.data.toList.drop i) c
  rw [List.length_drop, Array.length_toList] at this
  have e : s.data.size = s.size := rfl
  omega
theorem rgap_any (s : ByteArray) (i : Nat) (w : World) (hs : s.size ≤ maxLen) (hi : i ≤ s.size) :
    Calls Tryd.prog 21 #[.string s, .int .i64 (i : Int)] w fun e w' => e = .returned (.int .i64 ((i + gap 0 (s.data.toList.drop i) : Nat) : Int)) ∧ w = w' := by
  have D := Lib.hid (fun j w h => rblanks_any s j w hs h)
  have hs' : s.size ≤ 9223372036854775807 := hs
  have hk := blk_drop_le s i hi
  have hg := gap_zero (s.data.toList.drop i)
  rw [List.drop_drop, List.drop_drop] at hg
  have hh := head_at s (i + blk (s.data.toList.drop i)) isCm
  clear hs
  have D1 := Lib.hid (D.out i w hi)
  rw [show i + (blk (s.data.toList.drop i) + 1) = i + blk (s.data.toList.drop i) + 1 from by omega] at hg
  generalize hb : i + blk (s.data.toList.drop i) = k at *
  by_cases hlt : k < s.size
  · rw [dif_pos hlt] at hh
    rw [show isCm s[k] = (s[k].toNat == 44) from rfl] at hh
    have e1 : IntKind.i64.wrap ((k : Int) + 1) = ((k + 1 : Nat) : Int) := by rw [IntWalk.i64_in _ (by omega)]; omega
    by_cases h44 : s[k].toNat = 44
    · rw [h44] at hh
      rw [if_pos (by exact hh)] at hg
      have D2 := Lib.hid (D.out (k + 1) w (by omega))
      have HG := Lib.hid (show i + gap 0 (s.data.toList.drop i) = k + 1 + blk (s.data.toList.drop (k + 1)) by rw [hg]; omega)
      clear hh hg
      go_enter Tryd.func21, Tryd.ntmps21
      go_wp2_with fail
      refine D1.out.mono ?_
      rintro e w1 ⟨rfl, rfl⟩
      go_wp2_with fail
      refine D2.out.mono ?_
      rintro e w1 ⟨rfl, rfl⟩
      go_wp2_with fail
      go_ret
      exact ⟨by rw [HG.out]; rfl, rfl⟩
    · have e2 : ((s[k].toNat : Int) == 44) = false := by rw [beq_eq_false_iff_ne]; omega
      have e3 : (s[k].toNat == 44) = false := by rw [beq_eq_false_iff_ne]; exact h44
      rw [e3] at hh
      rw [hh] at hg
      have HG := Lib.hid (show i + gap 0 (s.data.toList.drop i) = k by rw [hg]; exact hb)
      clear hh hg
      go_enter Tryd.func21, Tryd.ntmps21
      go_wp2_with fail
      refine D1.out.mono ?_
      rintro e w1 ⟨rfl, rfl⟩
      go_wp2_with fail
      go_ret
      exact ⟨by rw [HG.out]; rfl, rfl⟩
  · rw [dif_neg hlt] at hh
    rw [hh] at hg
    have HG := Lib.hid (show i + gap 0 (s.data.toList.drop i) = k by rw [hg]; exact hb)
    have h1 : ¬ (k : Int) < (s.size : Int) := by omega
    clear hh hg
    go_enter Tryd.func21, Tryd.ntmps21
    go_wp2_with fail
    refine D1.out.mono ?_
    rintro e w1 ⟨rfl, rfl⟩
    go_wp2_with fail
    go_ret
    exact ⟨by rw [HG.out]; rfl, rfl⟩
/-- What the document's Flag and Number answer. -/
def Got (x : Int × Int × Nat) : Value := .agg #[.int .i64 x.1, .int .i64 x.2.1, .int .i64 (x.2.2 : Int)]
/-- Block q holds such an answer. -/
def GotAt (q : Nat) (x : Int × Int × Nat) (w : World) : Prop := w.heap[q]? = some (.cells #[.int .i64 x.1, .int .i64 x.2.1, .int .i64 (x.2.2 : Int)] 52)
theorem GotAt.c0 {q : Nat} {x : Int × Int × Nat} {w : World} (h : GotAt q x w) : w.cell? ⟨q, 0, none⟩ = some (.int .i64 x.1) := by unfold GotAt at h; simp [World.cell?, h]
theorem GotAt.c1 {q : Nat} {x : Int × Int × Nat} {w : World} (h : GotAt q x w) : w.cell? ⟨q, 1, none⟩ = some (.int .i64 x.2.1) := by unfold GotAt at h; simp [World.cell?, h]
theorem GotAt.c2 {q : Nat} {x : Int × Int × Nat} {w : World} (h : GotAt q x w) : w.cell? ⟨q, 2, none⟩ = some (.int .i64 (x.2.2 : Int)) := by unfold GotAt at h; simp [World.cell?, h]
theorem GotAt.z {q : Nat} {x : Int × Int × Nat} {w : World} (h : GotAt q x w) (o : Nat) : w.frozen? ⟨q, o, none⟩ = false := by unfold GotAt at h; simp [World.frozen?, h]
theorem GotAt.new (w : World) (x : Int × Int × Nat) : GotAt w.heap.size x (w.alloc (.cells #[.int .i64 x.1, .int .i64 x.2.1, .int .i64 (x.2.2 : Int)] 52)) := by
  show (w.heap.push _)[w.heap.size]? = _
  rw [Array.getElem?_push, if_pos rfl]
theorem GotAt.lt {q : Nat} {x : Int × Int × Nat} {w : World} (h : GotAt q x w) : q < w.heap.size := by
  unfold GotAt at h; exact (Array.getElem?_eq_some_iff.1 h).1
theorem GotAt.next {q : Nat} {x : Int × Int × Nat} {w w' : World} (h : GotAt q x w) (t : Below w.heap.size w w') : GotAt q x w' := by
  have := h.lt
  unfold GotAt at *
  rw [t.block q this]; exact h
theorem GotAt.set {q : Nat} {x : Int × Int × Nat} {w : World} (h : GotAt q x w) (y : Int × Int × Nat) : GotAt q y (((w.setCell ⟨q, 0, none⟩ (.int .i64 y.1)).setCell ⟨q, 1, none⟩ (.int .i64 y.2.1)).setCell ⟨q, 2, none⟩ (.int .i64 (y.2.2 : Int))) := by
  unfold GotAt at *
  simp only [World.setCell, Array.getElem?_modify, h]
  simp
theorem got_close {f : Func} {n : Nat} (hres : f.results = #[ResultVar.cell n 52]) {w wf : World} {q : Nat} {x : Int × Int × Nat} {ts : Array Value} (hg : GotAt q x wf) (hb : Below w.heap.size w wf) (hts : ts[n]? = some (.pointer (some ⟨q, 0, none⟩))) :
    bodyPost Tryd.prog f (fun e w' => e = .returned (Got x) ∧ Below w.heap.size w w') .ret { tmps := ts, defers := [] } wf := by
  have c0 := hg.c0
  have c1 := hg.c1
  have c2 := hg.c2
  refine bodyPost_ret (v := Got x) (by simp [results, hres, go_sem, c0, c1, c2, hts, Got]) rfl ⟨rfl, hb⟩

theorem rflag_any (s : ByteArray) (i : Nat) (w : World) (hs : s.size ≤ maxLen) (hi : i ≤ s.size) :
    Calls Tryd.prog 31 #[.string s, .int .i64 (i : Int)] w fun e w' => e = .returned (Got (flg s i)) ∧ Below w.heap.size w w' := by
  have hs' : s.size ≤ 9223372036854775807 := hs
  clear hs
  have b0 := Lib.hid (fun o => (Below.refl w.heap.size w).alloc (Nat.le_refl _) o)
  have G := Lib.hid (GotAt.new w (flg s i))
  obtain ⟨x, hx⟩ : ∃ x, flg s i = x := ⟨_, rfl⟩
  have hf := hx
  rw [hx] at G ⊢
  unfold flg at hf
  by_cases hlt : i < s.size
  · rw [pk_in hlt] at hf
    have e1 : IntKind.i64.wrap ((i : Int) + 1) = ((i + 1 : Nat) : Int) := by rw [IntWalk.i64_in _ (by omega)]; omega
    by_cases h0 : s[i].toNat = 48
    · rw [if_pos h0] at hf
      subst hf
      clear hx
      go_enter Tryd.func31, Tryd.ntmps31
      go_wp2_with fail
      exact got_close Tryd.results31 G.out (b0.out _) rfl
    · rw [if_neg h0] at hf
      by_cases h1 : s[i].toNat = 49
      · rw [if_pos h1] at hf
        subst hf
        clear hx
        go_enter Tryd.func31, Tryd.ntmps31
        go_wp2_with fail
        exact got_close Tryd.results31 G.out (b0.out _) rfl
      · rw [if_neg h1] at hf
        subst hf
        clear hx
        have e2 : ((s[i].toNat : Int) == 48) = false := by rw [beq_eq_false_iff_ne]; omega
        have e3 : ((s[i].toNat : Int) == 49) = false := by rw [beq_eq_false_iff_ne]; omega
        go_enter Tryd.func31, Tryd.ntmps31
        go_wp2_with fail
        exact got_close Tryd.results31 G.out (b0.out _) rfl
  · rw [pk_out hlt, if_neg (by decide), if_neg (by decide)] at hf
    subst hf
    clear hx
    have h1 : ¬ (i : Int) < (s.size : Int) := by omega
    go_enter Tryd.func31, Tryd.ntmps31
    go_wp2_with fail
    exact got_close Tryd.results31 G.out (b0.out _) rfl

/-- The document's end of a number is the table's. -/
theorem scanAt_nm (s : ByteArray) (k : Nat) (signed : Bool) : scanAt s.data.toList k signed = (nmE s k signed, nmW s k signed) := by
  rw [scan_at, scan_eq]; rfl
theorem rnumber_bad (s : ByteArray) (k : Nat) (signed : Bool) (w : World) (hs : s.size ≤ 100000) (hk : k ≤ s.size) (h : nmW s k signed = false) :
    Calls Tryd.prog 30 #[.string s, .int .i64 (k : Int), .bool signed] w fun e w' => e = .returned (Got (0, 3, nmE s k signed)) ∧ Below w.heap.size w w' := by
  have A := Lib.hid (fun w => rscan_any s k signed w hs hk)
  unfold ScanPost at A
  rw [scanAt_nm, h] at A
  have b0 := Lib.hid (fun o => (Below.refl w.heap.size w).alloc (Nat.le_refl _) o)
  have G := Lib.hid (GotAt.new w (0, 3, nmE s k signed))
  clear h
  generalize nmE s k signed = n at *
  go_enter Tryd.func30, Tryd.ntmps30
  go_wp2_with fail
  refine (A.out _).mono ?_
  rintro e w1 ⟨rfl, rfl⟩
  go_wp2_with fail
  exact got_close Tryd.results30 G.out (b0.out _) rfl
theorem rnumber_ok (s : ByteArray) (k : Nat) (signed : Bool) (an : Int × Int) (w : World) (hs : s.size ≤ 100000) (hk : k ≤ s.size) (h : nmW s k signed = true) (h0 : an.2 = 0 ∨ an.1 = 0)
    (hP : ∀ w, Calls Tryd.prog 48 #[.string (s.extract k (nmE s k signed))] w (Tells an w)) :
    Calls Tryd.prog 30 #[.string s, .int .i64 (k : Int), .bool signed] w fun e w' => e = .returned (Got (an.1, an.2, if an.2 = 0 then nmE s k signed else k)) ∧ Below w.heap.size w w' := by
  have A := Lib.hid (fun w => rscan_any s k signed w hs hk)
  unfold ScanPost at A
  rw [scanAt_nm, h] at A
  have P := Lib.hid hP
  unfold Tells at P
  have b0 := Lib.hid ((Below.refl w.heap.size w).alloc (Nat.le_refl _) (.cells #[.int .i64 0, .int .i64 0, .int .i64 0] 52))
  have G := Lib.hid (GotAt.new w (0, 0, 0))
  have hE := nmE_le s k signed hk
  clear h hP
  generalize nmE s k signed = n at *
  obtain ⟨v, er⟩ := an
  go_enter Tryd.func30, Tryd.ntmps30
  go_wp2_with fail
  refine (A.out _).mono ?_
  rintro e w1 ⟨rfl, rfl⟩
  go_wp2_with fail
  refine (P.out _).mono ?_
  rintro e w2 ⟨rfl, b2⟩
  have G2 := Lib.hid (G.out.next b2)
  have B2 := Lib.hid (b0.out.trans (b2.mono (by exact b0.out.size)))
  have z0 := G2.out.z 0
  have z1 := G2.out.z 1
  have z2 := G2.out.z 2
  have c0 := G2.out.c0
  have c1 := G2.out.c1
  have c2 := G2.out.c2
  clear b2 G b0
  by_cases he : er = 0
  · subst he
    go_wp2_with fail
    exact got_close Tryd.results30 (G2.out.set (v, 0, n)) (Below.setCell (Below.setCell (Below.setCell B2.out (Nat.le_refl _) _) (Nat.le_refl _) _) (Nat.le_refl _) _) rfl
  · have e0 : (er != 0) = true := by rw [bne_iff_ne]; exact he
    obtain rfl : v = 0 := by
      rcases h0 with h0 | h0
      · exact absurd h0 he
      · exact h0
    go_wp2_with fail
    exact got_close Tryd.results30 (G2.out.set (0, er, k)) (Below.setCell (Below.setCell (Below.setCell B2.out (Nat.le_refl _) _) (Nat.le_refl _) _) (Nat.le_refl _) _) rfl

/-- Both answer one and the same. -/
theorem number_both (s : ByteArray) (k : Nat) (signed : Bool) (hs : s.size ≤ 100) (hk : k ≤ s.size) : ∃ x : Int × Int × Nat, NumOk s k x ∧
    (∀ b w, Rdr b s k w → STabs w → Calls Tryd.prog 86 #[.pointer (some ⟨b, 0, none⟩), .bool signed] w (NumPost b s x w)) ∧
    (∀ w, Calls Tryd.prog 30 #[.string s, .int .i64 (k : Int), .bool signed] w fun e w' => e = .returned (Got x) ∧ Below w.heap.size w w') := by
  have hE := nmE_le s k signed hk
  have hz : (s.extract k (nmE s k signed)).size ≤ 100 := by simp; omega
  have hm : s.size ≤ maxLen := by unfold maxLen; omega
  obtain ⟨an, h1, h2, h3⟩ : ∃ an : Int × Int, (an.2 = 0 ∨ (an.1 = 0 ∧ (an.2 = 2 ∨ an.2 = 3))) ∧ (∀ w, Tabs w → Calls Tryd.prog 95 #[.string (s.extract k (nmE s k signed))] w (Tells an w)) ∧ (∀ w, Calls Tryd.prog 48 #[.string (s.extract k (nmE s k signed))] w (Tells an w)) := by
    generalize s.extract k (nmE s k signed) = u at *
    by_cases h : Acc u.data.toList 1
    · obtain ⟨sg', a, pt, b, x, hn⟩ := acc1 _ h
      exact ⟨ansF sg' a b x, ansF_ok _ _ _ _, fun w T => Parse_num u sg' a pt b x w (by omega) T hn, fun w => rparse_num u sg' a pt b x w (by omega) hn⟩
    · exact ⟨(0, 3), Or.inr ⟨rfl, Or.inr rfl⟩, fun w T => Parse_bad u w (by omega) T h, fun w => rparse_bad u w (by omega) h⟩
  refine ⟨numX s k signed an, numX_ok s k signed an hk h1, fun b w H T => number_x b s k signed an w H hm hk T h2, fun w => ?_⟩
  unfold numX
  by_cases hW : nmW s k signed = true
  · rw [if_pos hW]
    exact rnumber_ok s k signed an w (by omega) hk hW (by
      rcases h1 with h1 | h1
      · exact Or.inl h1
      · exact Or.inr h1.1) h3
  · rw [if_neg hW]
    exact rnumber_bad s k signed w (by omega) hk (by simpa using hW)
end Go.Proofs.YtgiibcnakiggaaaDoor
