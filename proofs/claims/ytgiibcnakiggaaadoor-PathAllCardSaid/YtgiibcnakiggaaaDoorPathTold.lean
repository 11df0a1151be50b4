/-
  The law's told of path.All: as many commands as are wanted, if the iterator keeps its contract (FeedsR).
-/
import Derived.Test.YtgiibcnakiggaaaDoorPathToldJ
import Derived.Test.YtgiibcnakiggaaaDoorPathTooLong
namespace Go.Proofs.YtgiibcnakiggaaaDoor
open Go.RowKit Go.Shelf
attribute [local go_sem] Oper.semAt_some

theorem append_cmd_in {F : Fence} {N : Nat} {ops : Array Oper} {rest : List Oper} {o : Oper} {a : Act} {Q : Exit → Act → World → Prop} (w : World) (hgd : o.guard = none) (s x : Operand)
    (ho : o.op = .call { callee := .builtin .append, args := #[s, x], argTypes := #[23, 23] }) {B k : Nat} {v : Value} {os : List Value} {n : Nat} (hn : w.heap.size = n) (c : Int) (aa : Option Addr) (al ac : Nat) (hown : w.ownsRow B 34 2 v k os) (hs : a.eval s = v)
    (hx : a.eval x = .slice (some ⟨n, 0, none⟩) 1 1) (hk : k ≤ 1000000000) (hB : B ≤ w.heap.size)
    (h : ∀ v' w', w'.ownsRow B 34 2 v' (k + 1) (os ++ [.int .u8 c, .slice aa al ac]) → w.grownBy w' v.ownBlock → wpListIn F N Tryd.prog ops Q rest (a.put o.dst v') w') :
    wpListIn F N Tryd.prog ops Q (o :: rest) a (w.alloc (.cells #[.int .u8 c, .slice aa al ac] 34)) := by
  subst hn
  obtain ⟨i0, hi, hz0, hz1, hz2⟩ := info_parts info_cmd
  refine wpListIn_append_own _ hgd s x 23 ho B 34 i0 (.agg #[.int .u8 0, .slice none 0 0]) 2 32 Tryd.underlying23 hi hz0 hz1 hz2 rfl (by decide) v k os hs (hown.alloc _) ⟨w.heap.size, 0, none⟩ 1 1 [.int .u8 c, .slice aa al ac] hx rfl ?_ ?_ ?_ ?_ ?_ ?_
  · intro j u hj
    match j, hj with
    | 0, hj => simp at hj; subst hj; simp [Addr.add]
    | 1, hj =>
      simp at hj; subst hj
      have hn : (w.alloc (.cells #[.int .u8 c, .slice aa al ac] 34)).heap[w.heap.size]? = some (.cells #[.int .u8 c, .slice aa al ac] 34 (0, 0)) := World.alloc_heap_new w _
      show World.cell? _ ⟨w.heap.size, 0 + 1, none⟩ = _
      unfold World.cell?
      rw [hn]; rfl
  · intro u hu; simp at hu; rcases hu with rfl | rfl <;> rfl
  · unfold maxLen; omega
  · omega
  · simp; omega
  · intro v' w' hown' hg _
    refine h v' w' hown' ?_
    exact ⟨hg.os, hg.tape, hg.output, Nat.le_trans (by simp) hg.size, fun k hk hne => (hg.block k (by simp; omega) hne).trans (Below.heap_alloc _ _ _ hk)⟩

theorem kep_set' {W w1 : World} {B : Nat} {row : Option Nat} (hg : W.grownBy w1 row) (v' : Value) : Kep B row W (w1.setCell ⟨B, 0, none⟩ v') :=
  ⟨hg.os, hg.tape, hg.output, by have := hg.size; simp [World.setCell] at this ⊢; omega, fun q hq hB hr => (Below.heap_setCell _ _ _ _ (by exact hB)).trans (hg.block q hq hr)⟩
theorem told_snoc {R B cap' : Nat} {a' : Option Addr} {pre : List Cmd} {x : Cmd} {avs : List Value} {v v' : Value} {W W' : World} (hv : Go.Boxed W B 23 v) (h1 : avs.length = pre.length)
    (h2 : W.ownsRow R 34 2 v pre.length (flatC pre avs)) (h3 : ∀ (i : Nat) x av, pre[i]? = some x → avs[i]? = some av → W.ownsRow R 2 1 av x.args.length (ints x.args) ∧ x.letter < 256)
    (hx : W.ownsRow R 2 1 (.slice a' x.args.length cap') x.args.length (ints x.args)) (hc : x.letter < 256)
    (ho' : W'.ownsRow R 34 2 v' (pre.length + 1) (flatC pre avs ++ [.int .u8 (x.letter : Int), .slice a' x.args.length cap'])) (K : Kep B v.ownBlock W W') : Cmds R v' (pre ++ [x]) W' := by
  refine ⟨avs ++ [.slice a' x.args.length cap'], by simp [h1], ?_, ?_⟩
  · rw [flatC_snoc _ _ _ _ h1, List.length_append]; exact ho'
  · intro i y a hy ha
    by_cases hi : i < pre.length
    · rw [List.getElem?_append_left hi] at hy
      rw [List.getElem?_append_left (by omega)] at ha
      exact ⟨own_kep (h3 i y a hy ha).1 hv (by decide) h2 (by decide) K, (h3 i y a hy ha).2⟩
    · have hi' : i = pre.length := by
        have := (List.getElem?_eq_some_iff.1 hy).1
        simp at this; omega
      subst hi'
      rw [List.getElem?_append_right (Nat.le_refl _), Nat.sub_self] at hy
      rw [List.getElem?_append_right (by omega), h1, Nat.sub_self] at ha
      obtain rfl : x = y := by simpa using hy
      obtain rfl : Value.slice a' x.args.length cap' = a := by simpa using ha
      exact ⟨own_kep hx hv (by decide) h2 (by decide) K, hc⟩

set_option maxRecDepth 100000 in
set_option maxHeartbeats 2000000 in
theorem told_feeds (s : ByteArray) (RES : List Cmd) (m : Nat) (w : World) (hgn : gN ≤ w.heap.size)
    (hf : ∀ B W0, w.heap.size ≤ B → Go.Boxed W0 B 9 (.string s) → Below w.heap.size w W0 → FeedsR s RES Fence.wide (6 - 1) 32 #[.pointer (some ⟨B, 0, none⟩)] W0) :
    Calls Tryd.prog 9 #[.string s, .int .i64 (m : Int)] w fun e w' => ∃ v, e = .returned v ∧ Cmds w.heap.size v (RES.take m) w' ∧ Below w.heap.size w w' := by
  refine (callsIn_wide (n := 6)).1 ?_
  have C := Lib.hid (fun w => (callsIn_wide (n := 6 - 1)).2 (All_any s w))
  refine callsIn_of_wp_marks Tryd.func9 rfl trivial ?_ rfl
  simp only [Tryd.ntmps9, List.size_toArray, List.length_cons, List.length_nil, Nat.reduceAdd, Nat.reduceSub, Array.replicate_succ, Array.replicate_zero, List.push_toArray, List.append_toArray, List.nil_append, List.cons_append]
  gi_wp2_with fail
  refine ⟨trivial, (C.out _).mono ?_⟩
  have b1 := Go.Boxed.new w 3 (.int .i64 (m : Int))
  have b2 := Go.Boxed.new (w.alloc (.cells #[.int .i64 (m : Int)] 3)) 23 (.slice none 0 0)
  rw [World.size_alloc] at b2
  have b1' := b1.alloc (.cells #[.slice none 0 0] 23)
  clear b1
  have hB1 : Below w.heap.size w ((w.alloc (.cells #[.int .i64 (m : Int)] 3)).alloc (.cells #[.slice none 0 0] 23)) := ((Below.refl _ w).alloc (Nat.le_refl _) _).alloc (by simp) _
  have hsz : ((w.alloc (.cells #[.int .i64 (m : Int)] 3)).alloc (.cells #[.slice none 0 0] 23)).heap.size = w.heap.size + 1 + 1 := by simp
  generalize (w.alloc (.cells #[.int .i64 (m : Int)] 3)).alloc (.cells #[.slice none 0 0] 23) = W1 at *
  rintro e W0 ⟨rfl, hx, hb⟩
  rw [hsz] at hx hb
  have c2 : Go.Boxed W0 (w.heap.size + 1) 23 (.slice none 0 0) := (hb.block _ (by omega)).trans b2
  have hB0 : Below w.heap.size w W0 := hB1.trans (hb.mono (by omega))
  have hge : w.heap.size + 1 + 1 ≤ W0.heap.size := by have := hx.lt; omega
  have c1 : Go.Boxed W0 w.heap.size 3 (.int .i64 (m : Int)) := (hb.block _ (by omega)).trans b1'
  have hq := hf (w.heap.size + 1 + 1) W0 (by omega) hx hB0
  rw [hsz]
  clear hb b2 b1' hB1 hsz hf
  have hrun : Sem.run Tryd.prog (binOp BinOp.neq 57 (Value.func (.func 32) #[] #[.pointer (some ⟨w.heap.size + 1 + 1, 0, none⟩)]) Value.nilFunc) W0 = .ok (.bool true) W0 := by kernel_rfl
  gi_wp2
  refine wpIn_feeds (j := 0) rfl (by decide) (gf := 32) (lb := #[.pointer (some ⟨w.heap.size + 1 + 1, 0, none⟩)]) rfl trivial (enters_of Tryd.func32 (by kernel_rfl) rfl)
    hq (Below.refl _ _) (by omega)
    (fun pre W => TJ w.heap.size m W0 (id pre) W ∧ pre.length ≤ m) (fun pre W => TJ w.heap.size m W0 (pre.take m) W ∧ m ≤ pre.length)
    (TJ.own _ _ _ (by omega) id _) (TJ.own _ _ _ (by omega) (·.take m) _) (TJ.abide s _ _ _ (by omega) id _) (TJ.abide s _ _ _ (by omega) (·.take m) _)
    ⟨⟨⟨⟨_, c2, Cmds.nil _ _⟩, c1⟩, Below.refl _ _⟩, Nat.zero_le _⟩
    (fun x av a' W => TA W0 x av (fun Bx => { tmps := #[.string s, .int .i64 (m : Int), undef, .pointer (some ⟨w.heap.size, 0, none⟩), .slice none 0 0, .pointer (some ⟨w.heap.size + 1, 0, none⟩), .func (.func 32) #[] #[.pointer (some ⟨w.heap.size + 1 + 1, 0, none⟩)], .pointer (some ⟨Bx, 0, none⟩), .string s, .func (.func 32) #[] #[.pointer (some ⟨w.heap.size + 1 + 1, 0, none⟩)], .func (.func 32) #[] #[.pointer (some ⟨w.heap.size + 1 + 1, 0, none⟩)], .bool true, .func (.func 32) #[] #[.pointer (some ⟨w.heap.size + 1 + 1, 0, none⟩)], .agg #[.int .u8 (x.letter : Int), av], undef, undef, undef, undef, undef, undef, undef, undef, undef], defers := [] }) a' W) (fun x av a' => TA.own W0 x av _ a') ?assign ?body ?done ?stop
  case assign =>
    rintro l pre x av W K ⟨⟨⟨⟨v, hv, hc⟩, hm⟩, hB⟩, hpl⟩ hws _ _ hrow hK
    obtain ⟨aa, ac, rfl⟩ := own_shape hrow
    have hal := (Below.refl W.heap.size W).alloc (Nat.le_refl _) (.cells #[.int .u8 (x.letter : Int), .slice aa x.args.length ac] 34)
    have hnew := World.alloc_heap_new W (.cells #[.int .u8 (x.letter : Int), .slice aa x.args.length ac] 34)
    have HR := Lib.hid (own_next hrow hal)
    have HC := Lib.hid (hc.next hal)
    clear hrow hc
    gi_wp2
    refine hK _ _ ((KeepsOthers.alloc _ _).from _) ⟨hal.mono (by omega), fun b k _ hr => (hal.block b hr.lt).trans hr⟩ ⟨⟨⟨⟨v, hv.alloc _, HC.out⟩, hm.alloc _⟩, hB.trans (hal.mono (by omega))⟩, hpl⟩ ⟨W.heap.size, hws, hnew, HR.out, rfl⟩
  case body =>
    rintro l pre x av a' W ⟨⟨⟨⟨v, hv, hcm⟩, hm⟩, hB⟩, hpl⟩ ⟨Bx, hBx, hbx, hrow, rfl⟩ hws hlen hxl
    obtain ⟨aa, ac, rfl⟩ := own_shape hrow
    replace hcm : Cmds W0.heap.size v pre W := hcm
    obtain ⟨a2, cap2, rfl⟩ := hcm.shape
    have e0 : W.cell? ⟨Bx, 0, none⟩ = some (.int .u8 (x.letter : Int)) := by simp [World.cell?, hbx]
    have e1 : W.cell? ⟨Bx, 1, none⟩ = some (.slice aa x.args.length ac) := by simp [World.cell?, hbx]
    have hmc := hm.cell
    have hvc := hv.cell
    have hvf := hv.frozen
    by_cases hlt : pre.length < m
    · have d1 : decide ((m : Int) ≤ (pre.length : Int)) = false := by simp; omega
      obtain ⟨avs, h1, h2, h3⟩ := id hcm
      have hne := boxed_not hv h2 (by decide)
      have H := Lib.hid (And.intro h2 (And.intro hws (And.intro hne (And.intro hv (And.intro h2 (And.intro h3 (And.intro hrow (And.intro hm (And.intro hB hcm)))))))))
      clear hne hv h2 h3 hrow hm hB hcm hbx
      gi_wp2_with (gi_at_builtin; refine append_cmd_in _ rfl (.tmp 18) (.tmp 20) rfl rfl _ _ _ _ H.out.1 rfl rfl (by omega) H.out.2.1 ?_; intro v' w1 hown' hg1; obtain ⟨a3, cap3, rfl⟩ := own_shape hown'; have hv1 : Go.Boxed w1 (w.heap.size + 1) 23 _ := (hg1.block _ H.out.2.2.2.1.lt H.out.2.2.1).trans H.out.2.2.2.1; have hc1 := hv1.cell; have hf1 := hv1.frozen)
      obtain ⟨-, -, hne, hv, h2, h3, hrow, hm, hB, hcm⟩ := H.out
      have K := kep_set' (B := w.heap.size + 1) hg1 (.slice a3 (pre.length + 1) cap3)
      have hin : ∀ q, some q = (Value.slice a2 pre.length cap2).ownBlock → W0.heap.size ≤ q := fun q e => (own_type h2 q e.symm).2.1
      have hbl : ∀ n, n ≤ w.heap.size → Below n W (w1.setCell ⟨w.heap.size + 1, 0, none⟩ (.slice a3 (pre.length + 1) cap3)) := fun n hn =>
        ⟨K.os, K.tape, K.output, K.size, fun q hq => K.block q (by omega) (by omega) (fun e => by have := hin q e; omega)⟩
      refine ⟨⟨K.size, fun k o hk ho hnc => (K.block k (Array.getElem?_eq_some_iff.1 ho).1 (by omega) (fun e => ?_)).trans ho⟩, ⟨hbl _ hgn, fun b k hb hr => ?_⟩, ⟨⟨⟨_, hv1.set _, ?_⟩, (K.block _ hm.lt (by omega) (boxed_not hm h2 (by decide))).trans hm⟩, hB.trans (hbl _ (Nat.le_refl _))⟩, by simp; omega⟩
      · obtain ⟨_, _, cur, hc2⟩ := own_type h2 k e.symm
        rw [hc2] at ho
        cases ho
        cases hnc
      · unfold Rdr at *
        refine (K.block b (Array.getElem?_eq_some_iff.1 hr).1 (by omega) (fun e => ?_)).trans hr
        obtain ⟨_, _, cur2, hc2⟩ := own_type h2 b e.symm
        rw [hc2] at hr
        injection hr with hr
        injection hr with _ hr
        exact absurd hr (by decide)
      · refine told_snoc hv h1 h2 h3 hrow hxl ?_ K
        exact own_stay hown' fun q hq => Below.heap_setCell _ _ _ _ (fun e => boxed_not hv1 hown' (by decide) (by have e' : q = w.heap.size + 1 := e; rw [← e']; exact hq.symm))
    · have d1 : decide ((m : Int) ≤ (pre.length : Int)) = true := by simp; omega
      have ee : (pre ++ [x]).take m = pre := by rw [show m = pre.length from by omega]; simp
      have HE := Lib.hid ee
      clear ee hbx
      gi_wp2
      refine ⟨rfl, (KeepsOthers.refl _).from _, ?_, by simp; omega⟩
      rw [HE.out]
      exact ⟨⟨⟨_, hv, hcm⟩, hm⟩, hB⟩
  case done =>
    rintro D W hD ⟨⟨⟨⟨v, hv, hcm⟩, hm⟩, hB⟩, hpl⟩ hK
    have hcl := hv.cell
    have HC := Lib.hid hcm
    clear hcm
    gi_wp2
    refine ⟨by simp, .inl ⟨_, _, rfl, run_takeDeferred hK, ?_⟩⟩
    refine ⟨_, results_tmp rfl _ _ _, v, rfl, ?_, (hB0.trans hB).trans (belowK_b (w := W0) (by omega) W D _ _ hD hK rfl rfl)⟩
    rw [List.take_of_length_le hpl]
    exact (HC.out.lower (by omega)).free (grownBy_putObj' W D _) (fun r e => by cases e; exact ⟨_, hK, rfl⟩)
  case stop =>
    rintro D pre W hD hpre ⟨⟨⟨⟨v, hv, hcm⟩, hm⟩, hB⟩, hpl⟩ hK
    have hcl := hv.cell
    have HC := Lib.hid hcm
    clear hcm
    gi_wp2
    refine ⟨by simp, .inl ⟨_, _, rfl, run_takeDeferred hK, ?_⟩⟩
    refine ⟨_, results_tmp rfl _ _ _, v, rfl, ?_, (hB0.trans hB).trans (belowK_b (w := W0) (by omega) W D _ _ hD hK rfl rfl)⟩
    obtain ⟨rest, hr⟩ := hpre
    rw [← hr, List.take_append_of_le_length hpl]
    exact (HC.out.lower (by omega)).free (grownBy_putObj' W D _) (fun r e => by cases e; exact ⟨_, hK, rfl⟩)
end Go.Proofs.YtgiibcnakiggaaaDoor
