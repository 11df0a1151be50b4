/-
  The contracts of package path's appendCommand and Print.
-/
import Derived.Test.YtchngbdkgfjpcaaDoorPathRight
import Derived.Test.YtchngbdkgfjpcaaDoorDecPrint
import Derived.Lib.AppendStr
namespace Go.Proofs.YtchngbdkgfjpcaaDoor
open Go.RowKit Go.Shelf

/-- What printing asks of memory, beside. -/
structure PTabs8 (w : World) : Prop where
  pt : PTabs w
  tab : Lib.TabIs Tryd.prog w "internal/strconv.uint64pow10" .u64 Lib.pow10Tab
theorem PTabs8.below {w w' : World} {B : Nat} (h : PTabs8 w) (t : Below B w w') (hB : gN ≤ B) : PTabs8 w' := ⟨h.pt.below t hB, tab_below h.tab t (Nat.lt_of_lt_of_le gN_pow hB)⟩
theorem PTabs8.next {w w' : World} (h : PTabs8 w) (t : Below w.heap.size w w') : PTabs8 w' := h.below t h.pt.size
/-- A row of bytes of the call's own. -/
def Txt (B : Nat) (t : List UInt8) (v : Value) (w : World) : Prop := w.ownsRow B 5 1 v t.length (Lib.byteCells t)
theorem append_u8 {ops : Array Oper} {rest : List Oper} {o : Oper} {a : Act} {Q : Exit → Act → World → Prop} (w : World) (hgd : o.guard = none) (s x : Operand)
    (ho : o.op = .call { callee := .builtin .append, args := #[s, x], argTypes := #[44, 44] }) {B : Nat} {v : Value} {t : List UInt8} (u : UInt8) {d : Int} (hd : d = (u.toNat : Int)) (hown : Txt B t v w) (hs : a.eval s = v)
    (hx : a.eval x = .slice (some ⟨w.heap.size, 0, none⟩) 1 1) (hk : t.length ≤ 1000000000) (hB : B ≤ w.heap.size)
    (h : ∀ v' w', Txt B (t ++ [u]) v' w' → w.grownBy w' v.ownBlock → wpList Tryd.prog ops Q rest (a.put o.dst v') w') :
    wpList Tryd.prog ops Q (o :: rest) a (w.alloc (.cells #[.int .u8 d] 5)) := by
  subst hd
  obtain ⟨i0, hi, hz0, hz1, hz2⟩ := info_parts info_u8
  refine wpList_append_own _ hgd s x 44 ho B 5 i0 (.int .u8 0) 1 1 Tryd.underlying44 hi hz0 hz1 hz2 rfl (by decide) v t.length _ hs (hown.alloc _) ⟨w.heap.size, 0, none⟩ 1 1 [.int .u8 (u.toNat : Int)] hx rfl ?_ ?_ ?_ ?_ ?_ ?_
  · intro j y hj
    match j, hj with
    | 0, hj => simp at hj; subst hj; simp [Addr.add]
  · intro y hy; simp at hy; subst hy; rfl
  · unfold maxLen; omega
  · omega
  · simp; omega
  · intro v' w' hown' hg _
    refine h v' w' ?_ ⟨hg.os, hg.tape, hg.output, Nat.le_trans (by simp) hg.size, fun k hk hne => (hg.block k (by simp; omega) hne).trans (Below.heap_alloc _ _ _ hk)⟩
    unfold Txt
    rw [bytes_snoc, List.length_append]
    exact hown'
theorem heap_grown {w w' : World} {q R sz k : Nat} {e e' : TypeId} {cs : Array Value} {v : Value} {xs : List Value} (h : w.heap[q]? = some (.cells cs e' (0, 0))) (hrow : w.ownsRow R e sz v k xs) (he : e ≠ e') (hg : w.grownBy w' v.ownBlock) : w'.heap[q]? = some (.cells cs e' (0, 0)) := by
  refine (hg.block q (Array.getElem?_eq_some_iff.1 h).1 (fun e2 => ?_)).trans h
  obtain ⟨_, _, cur, hc⟩ := own_type hrow q e2.symm
  rw [h] at hc
  injection hc with hc
  injection hc with _ hc
  exact he hc.symm
theorem grown_below {w w' : World} {B sz k : Nat} {e : TypeId} {v : Value} {xs : List Value} (hrow : w.ownsRow B e sz v k xs) (hB : B ≤ w.heap.size) (hg : w.grownBy w' v.ownBlock) : Below B w w' :=
  (Below.refl B w).grown hg hB fun q hq => (own_type hrow q hq).2.1
theorem append_str {ops : Array Oper} {rest : List Oper} {o : Oper} {a : Act} {Q : Exit → Act → World → Prop} (w : World) (hgd : o.guard = none) (s x : Operand)
    (ho : o.op = .call { callee := .builtin .append, args := #[s, x], argTypes := #[44, 9] }) {B : Nat} {v : Value} {t : List UInt8} (u : List UInt8) (hown : Txt B t v w) (hs : a.eval s = v)
    (hx : a.eval x = .string ⟨u.toArray⟩) (hk : t.length + u.length ≤ 1000000000) (hB : B ≤ w.heap.size)
    (h : ∀ v' w', Txt B (t ++ u) v' w' → w.grownBy w' v.ownBlock → wpList Tryd.prog ops Q rest (a.put o.dst v') w') :
    wpList Tryd.prog ops Q (o :: rest) a w := by
  obtain ⟨i0, hi, hz0, hz1, hz2⟩ := info_parts info_u8
  have hsz : (⟨u.toArray⟩ : ByteArray).size = u.length := by show u.toArray.size = _; simp
  refine Lib.wpList_append_own_string w hgd s x 44 9 ho B 5 i0 Tryd.underlying44 (by kernel_rfl) hi hz0 hz1 hz2 v t.length _ hs hown ⟨u.toArray⟩ hx (by rw [hsz]; unfold maxLen; omega) (by rw [hsz]; omega) hB ?_
  intro v' w' hown' hg _
  refine h v' w' ?_ hg
  unfold Txt
  rw [bytes_append, List.length_append]
  rw [hsz] at hown'
  have e : Lib.strCells ⟨u.toArray⟩ = Lib.byteCells u := by simp [Lib.strCells, Lib.byteCells]
  rw [e] at hown'
  exact hown'
theorem flag_arc {c : Nat} (hc : c < 256) (k : Nat) (hk : k < (kinL c).size) : flagK (kinL c)[k].toNat = decide (isArc c = true ∧ (k = 3 ∨ k = 4)) := by
  cases h : isArc c with
  | false => rw [kin_plain hc h hk]; simp; decide
  | true =>
    have e := kin_arc hc h
    have hs : (kinL c).size = 7 := by rw [e]; rfl
    have hk' : k = 0 ∨ k = 1 ∨ k = 2 ∨ k = 3 ∨ k = 4 ∨ k = 5 ∨ k = 6 := by omega
    have K : ∀ j (hj : j < 7) , (kinL c)[j]'(by omega) = (⟨#[114, 114, 110, 70, 102, 110, 110]⟩ : ByteArray)[j]'hj := fun j hj => by simp only [e]
    rcases hk' with rfl | rfl | rfl | rfl | rfl | rfl | rfl
    · rw [K 0 (by decide)]; decide
    · rw [K 1 (by decide)]; decide
    · rw [K 2 (by decide)]; decide
    · rw [K 3 (by decide)]; decide
    · rw [K 4 (by decide)]; decide
    · rw [K 5 (by decide)]; decide
    · rw [K 6 (by decide)]; decide
theorem argsOk_drop {c : Nat} : ∀ (zs : List Int) (j : Nat), ArgsOk c j zs → ∀ k, k < zs.length → ArgOk c (j + k) (zs.getD k 0) := by
  intro zs
  induction zs with
  | nil => intro j _ k hk; simp at hk
  | cons z t ih =>
    intro j h k hk
    cases k with
    | zero => simpa using h.1
    | succ k =>
      have := ih (j + 1) h.2 k (by simpa using hk)
      rw [show j + (k + 1) = j + 1 + k from by omega]
      simpa using this
theorem argT_drop (c k : Nat) (zs : List Int) (h : k < zs.length) : argT c k (zs.drop k) = 32 :: (pr (argV c k (zs.getD k 0)) ++ argT c (k + 1) (zs.drop (k + 1))) := by
  rw [drop_getD h]; rfl

set_option maxRecDepth 100000 in
set_option maxHeartbeats 2000000 in
theorem appendCommand_any (c : Nat) (a : Option Addr) (zs : List Int) (cap B : Nat) (t : List UInt8) (tv : Value) (w0 w : World) (hok : CmdOk ⟨c, zs⟩) (hB : B = w0.heap.size) (hb : Below B w0 w) (hI : IntsK .i64 a zs w0) (ht : Txt B t tv w) (hl : t.length ≤ 1000000) (T : PTabs8 w) (hBg : gN ≤ B) :
    Calls Tryd.prog 34 #[tv, .agg #[.int .u8 (c : Int), .slice a zs.length cap]] w fun e w' => ∃ v', e = .returned v' ∧ Txt B (t ++ cmdT ⟨c, zs⟩) v' w' ∧ Below B w w' := by
  have hc : c < 256 := (letter_lt hok.2.1).1
  have hsz := kin_size hc hok.2.1
  have hlen : cntL c = zs.length := hok.1
  have h9 : cntL c ≠ 99 := hok.2.1
  have h7 : zs.length ≤ 7 := by have := cnt_le c; omega
  have hks : (kinL c).size = zs.length := hsz.trans hlen
  have L := Lib.hid (fun w (T : PTabs w) => lookUp_any c hc w T.rows)
  have IF := Lib.hid (fun kd w => isFlag_any kd w)
  have FA := Lib.hid (fun k hk => flag_arc hc k hk)
  have PR := Lib.hid (fun v hv w (T : PTabs8 w) => print_any v hv w T.pt.size T.tab)
  have AO := Lib.hid (argsOk_drop zs 0 hok.2.2)
  have hbs := hb.size
  have hwB : B ≤ w.heap.size := by omega
  have HHB := Lib.hid hB
  have bal := (Below.refl w.heap.size w).alloc (Nat.le_refl _) (.cells #[.int .u8 (c : Int), .slice a zs.length cap] 36)
  have n0 : (w.alloc (.cells #[.int .u8 (c : Int), .slice a zs.length cap] 36)).heap[w.heap.size]? = some (.cells #[.int .u8 (c : Int), .slice a zs.length cap] 36 (0, 0)) := World.alloc_heap_new w _
  have N0 := Lib.hid n0
  have T0 := Lib.hid (T.next bal)
  have BA := Lib.hid (bal.mono (show B ≤ w.heap.size from by omega))
  have HB0 := Lib.hid hb
  have HI0 := Lib.hid hI
  have HT := Lib.hid (own_next ht bal)
  obtain ⟨ta, tc, rfl⟩ := own_shape ht
  have HL := Lib.hid hl
  have TT := Lib.hid (show t ++ cmdT ⟨c, zs⟩ = t ++ [UInt8.ofNat c] ++ argT c 0 (zs.drop 0) from by simp [cmdT])
  have hcc : ((UInt8.ofNat c).toNat : Int) = (c : Int) := by simp; omega
  generalize t ++ cmdT ⟨c, zs⟩ = OUT at *
  clear hok hsz hlen T bal n0 hb hI ht hl hbs hB
  generalize kinL c = ks at *
  go_enter Tryd.func34, Tryd.ntmps34
  go_wp2_with fail
  refine (L.out _ T0.out.pt).mono ?_
  rintro e w1 ⟨rfl, b1⟩
  have hltw : w.heap.size < (w.alloc (.cells #[.int .u8 (c : Int), .slice a zs.length cap] 36)).heap.size := by simp
  have n1 : w1.heap[w.heap.size]? = some (.cells #[.int .u8 (c : Int), .slice a zs.length cap] 36 (0, 0)) := (b1.block _ hltw).trans N0.out
  have c0 : w1.cell? ⟨w.heap.size, 0, none⟩ = some (.int .u8 (c : Int)) := by unfold World.cell?; rw [n1]; rfl
  have BX1 := Lib.hid n1
  have T1 := Lib.hid (T0.out.next b1)
  have HT1 := Lib.hid (show Txt B t _ w1 from own_next HT.out b1)
  have B1 := Lib.hid (BA.out.trans (b1.mono (by simp; omega)))
  have hs1 : B ≤ w1.heap.size := by have := b1.size; simp at this; omega
  clear b1 n1 N0 HT BA T0 L hltw
  go_wp2_with (first | (at_builtin; refine append_u8 _ rfl (.tmp 15) (.tmp 18) rfl (UInt8.ofNat c) hcc.symm HT1.out rfl rfl (by have := HL.out; omega) hs1 ?_; intro v2 w2 hown2 hg2; obtain ⟨ta2, tc2, rfl⟩ := own_shape hown2; have n2 := heap_grown BX1.out HT1.out (by decide) hg2; have c1 : w2.cell? ⟨w.heap.size, 1, none⟩ = some (.slice a zs.length cap) := by unfold World.cell?; rw [n2]; rfl))
  have bb2 := grown_below HT1.out hs1 hg2
  have B2 := Lib.hid (B1.out.trans bb2)
  have T2 := Lib.hid (T1.out.below bb2 hBg)
  have HT2 := Lib.hid hown2
  have hs2 : B ≤ w2.heap.size := Nat.le_trans hs1 bb2.size
  clear hown2 hg2 n2 bb2 B1 T1 HT1 BX1
  go_loopw [23, 0] (fun u23 u0 wr => ∃ (k : Nat) (x : List UInt8), u23 = .int .i64 (k : Int) ∧ k ≤ zs.length ∧ Txt B x u0 wr ∧ x.length ≤ 1000001 + 40 * k ∧ Below B w wr ∧ PTabs8 wr ∧ Hid (OUT = x ++ argT c k (zs.drop k))) (fun u23 _ _ => zs.length - (intOf u23).toNat)
  case atStart => exact ⟨0, t ++ [UInt8.ofNat c], rfl, Nat.zero_le _, by simpa using HT2.out, by have := HL.out; simp; omega, B2.out, T2.out, TT⟩
  case round =>
    obtain ⟨k, x, rfl, hk, htx, hxl, hbel, hT, hO⟩ := hrel
    obtain ⟨xa, xc, rfl⟩ := own_shape htx
    have HX := Lib.hid htx
    have HXL := Lib.hid hxl
    have HBL := Lib.hid hbel
    have HTT := Lib.hid hT
    have hsz : B ≤ wr.heap.size := by have := hbel.size; omega
    by_cases hlt : k < zs.length
    · have hIr : IntsK .i64 a zs wr := HI0.out.below (HHB.out ▸ (HB0.out.trans hbel)) (Nat.le_refl _)
      obtain ⟨b, off, rfl, hb, hc2⟩ := hIr.pos hlt
      have ck := hc2 k hlt
      have hlk : k < ks.size := by omega
      have hf := FA.out k hlk
      have hA := AO.out k hlt
      rw [Nat.zero_add] at hA
      have hO' := hO.out
      rw [argT_drop c k zs hlt] at hO'
      generalize zs.getD k 0 = z at *
      have IFk := Lib.hid (fun w => IF.out ks[k].toNat w)
      rw [hf] at IFk
      have hav : argV c k z = if decide (isArc c = true ∧ (k = 3 ∨ k = 4)) = true then z * 65536 else z := by unfold argV; simp
      have hz : I64 (argV c k z) ∧ (pr (argV c k z)).length ≤ 28 := by
        have h1 := hA.1
        have h2 := hA.2.1
        have hb : -4294967296 < argV c k z ∧ argV c k z < 4294967296 := by
          unfold argV
          split
          · rename_i h
            have := (hA.2.2 h.1).2 h.2
            omega
          · exact ⟨h1, h2⟩
        exact ⟨⟨by omega, by omega⟩, pr_len _ hb.1 hb.2⟩
      have PRk := Lib.hid (fun w T => PR.out _ hz.1 w T)
      have hpl := hz.2
      have hpr : printL (decide (argV c k z < 0)) (argV c k z).natAbs = pr (argV c k z) := rfl
      rw [hpr] at PRk
      have h65 : decide (isArc c = true ∧ (k = 3 ∨ k = 4)) = true → IntKind.i64.wrap (z * 65536) = argV c k z := by
        intro h
        have h' := of_decide_eq_true h
        rw [hav, if_pos h]
        have := (hA.2.2 h'.1).2 h'.2
        exact IntWalk.i64_in _ (by omega)
      have h0 : decide (isArc c = true ∧ (k = 3 ∨ k = 4)) = false → argV c k z = z := by
        intro h; rw [hav, if_neg (by rw [h]; decide)]
      have HO := Lib.hid hO'
      have HH65 := Lib.hid h65
      have HH0 := Lib.hid h0
      clear hO hO' hA hf hc2 FA AO hz hpr hav h65 h0 IF PR htx hxl hbel hT hIr
      generalize pr (argV c k z) = P at *
      generalize argV c k z = y at *
      generalize decide (isArc c = true ∧ (k = 3 ∨ k = 4)) = fl at *
      cases fl with
      | true =>
        have hy := HH65.out rfl
        go_wp2_with fail
        refine (IFk.out _).mono ?_
        rintro e w3 ⟨rfl, rfl⟩
        go_wp2_with (first | (at_builtin; refine append_u8 _ rfl (.tmp 34) (.tmp 35) rfl 32 rfl HX.out rfl rfl (by have := HXL.out; omega) hsz ?_; intro v3 w3 hown3 hg3; obtain ⟨xa3, xc3, rfl⟩ := own_shape hown3))
        have bb3 := grown_below HX.out hsz hg3
        have HB3 := Lib.hid (HBL.out.trans bb3)
        have HT3 := Lib.hid (HTT.out.below bb3 hBg)
        have HX3 := Lib.hid hown3
        have hsz3 : B ≤ w3.heap.size := Nat.le_trans hsz bb3.size
        clear bb3 hown3 hg3
        refine (PRk.out _ HT3.out).mono ?_
        rintro e w4 ⟨rfl, b4⟩
        have HB4 := Lib.hid (HB3.out.trans (b4.mono hsz3))
        have HT4 := Lib.hid (HT3.out.next b4)
        have HX4 := Lib.hid (show Txt B (x ++ [32]) (.slice xa3 (x.length + 1) xc3) w4 from by have h := (show Txt B (x ++ [32]) _ w4 from own_next HX3.out b4); simpa using h)
        have hsz4 : B ≤ w4.heap.size := Nat.le_trans hsz3 b4.size
        clear b4
        go_wp2_with (first | (at_builtin; refine append_str _ rfl (.tmp 37) (.tmp 39) rfl P HX4.out rfl rfl (by have := HXL.out; simp; omega) hsz4 ?_; intro v5 w5 hown5 hg5; obtain ⟨xa5, xc5, rfl⟩ := own_shape hown5))
        have bb5 := grown_below HX4.out hsz4 hg5
        go_roundw
        case rel => exact ⟨k + 1, x ++ [32] ++ P, by go_num, by omega, by simpa using hown5, by have := HXL.out; simp; omega, HB4.out.trans bb5, HT4.out.below bb5 hBg, Lib.hid (by rw [HO.out]; simp)⟩
        case measure => simp [intOf]; omega
      | false =>
        have hy := HH0.out rfl
        subst hy
        go_wp2_with fail
        refine (IFk.out _).mono ?_
        rintro e w3 ⟨rfl, rfl⟩
        go_wp2_with (first | (at_builtin; refine append_u8 _ rfl (.tmp 34) (.tmp 35) rfl 32 rfl HX.out rfl rfl (by have := HXL.out; omega) hsz ?_; intro v3 w3 hown3 hg3; obtain ⟨xa3, xc3, rfl⟩ := own_shape hown3))
        have bb3 := grown_below HX.out hsz hg3
        have HB3 := Lib.hid (HBL.out.trans bb3)
        have HT3 := Lib.hid (HTT.out.below bb3 hBg)
        have HX3 := Lib.hid hown3
        have hsz3 : B ≤ w3.heap.size := Nat.le_trans hsz bb3.size
        clear bb3 hown3 hg3
        refine (PRk.out _ HT3.out).mono ?_
        rintro e w4 ⟨rfl, b4⟩
        have HB4 := Lib.hid (HB3.out.trans (b4.mono hsz3))
        have HT4 := Lib.hid (HT3.out.next b4)
        have HX4 := Lib.hid (show Txt B (x ++ [32]) (.slice xa3 (x.length + 1) xc3) w4 from by have h := (show Txt B (x ++ [32]) _ w4 from own_next HX3.out b4); simpa using h)
        have hsz4 : B ≤ w4.heap.size := Nat.le_trans hsz3 b4.size
        clear b4
        go_wp2_with (first | (at_builtin; refine append_str _ rfl (.tmp 37) (.tmp 39) rfl P HX4.out rfl rfl (by have := HXL.out; simp; omega) hsz4 ?_; intro v5 w5 hown5 hg5; obtain ⟨xa5, xc5, rfl⟩ := own_shape hown5))
        have bb5 := grown_below HX4.out hsz4 hg5
        go_roundw
        case rel => exact ⟨k + 1, x ++ [32] ++ P, by go_num, by omega, by simpa using hown5, by have := HXL.out; simp; omega, HB4.out.trans bb5, HT4.out.below bb5 hBg, Lib.hid (by rw [HO.out]; simp)⟩
        case measure => simp [intOf]; omega
    · have hnl : ¬ (k : Int) < (zs.length : Int) := by omega
      have hO' := hO.out
      rw [List.drop_of_length_le (by omega), show argT c k [] = [] from by cases k <;> rfl, List.append_nil] at hO'
      subst hO'
      clear hO
      go_wp2_with fail
      go_ret
      exact ⟨_, rfl, HX.out, HBL.out⟩
end Go.Proofs.YtchngbdkgfjpcaaDoor
