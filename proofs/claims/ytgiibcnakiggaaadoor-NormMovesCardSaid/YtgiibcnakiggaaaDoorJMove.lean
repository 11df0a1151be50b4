/-
  Joined texts: PathCat, Ref6Right, NormRightM, NormRightN, NormMovesM, NormMovesN, NormMovesD, TwoTrod, NormMovesH.
-/
import Derived.Test.YtgiibcnakiggaaaDoorPathRd
import Derived.Test.YtgiibcnakiggaaaDoorPathTrod
import Derived.BigFrame
import Derived.Test.YtgiibcnakiggaaaDoorPathRight
import Derived.Test.YtgiibcnakiggaaaDoorNormMath
import Derived.Test.YtgiibcnakiggaaaDoorNormNormal
import Derived.Test.YtgiibcnakiggaaaDoorNormBring
import Derived.ChangeSame
namespace Go.Proofs.YtgiibcnakiggaaaDoor
open Go.RowKit Go.Shelf

/-- The cells of commands whose arguments lie elsewhere. -/
def Elem (l : List Cmd) (avs : List Value) (w : World) : Prop := avs.length = l.length ∧ ∀ (i : Nat) x av, l[i]? = some x → avs[i]? = some av → ∃ (aa : Option Addr) (ac : Nat), av = .slice aa x.args.length ac ∧ IntsK .i64 aa x.args w ∧ x.letter < 256 ∧ x.args.length ≤ maxLen
theorem Elem.next {l : List Cmd} {avs : List Value} {w w' : World} (h : Elem l avs w) (t : Below w.heap.size w w') : Elem l avs w' :=
  ⟨h.1, fun i x av hx ha => by obtain ⟨aa, ac, e, hI, h1, h2⟩ := h.2 i x av hx ha; exact ⟨aa, ac, e, hI.below t (Nat.le_refl _), h1, h2⟩⟩
theorem flatC_append : ∀ (a : List Cmd) (avs : List Value) (b : List Cmd) (bvs : List Value), avs.length = a.length → flatC (a ++ b) (avs ++ bvs) = flatC a avs ++ flatC b bvs := by
  intro a
  induction a with
  | nil => intro avs b bvs h; obtain rfl : avs = [] := List.length_eq_zero_iff.1 h; rfl
  | cons x t ih =>
    intro avs b bvs h
    cases avs with
    | nil => simp at h
    | cons v vs => simp only [List.cons_append, flatC]; rw [ih vs b bvs (by simpa using h)]
theorem flatC_len : ∀ (a : List Cmd) (avs : List Value), avs.length = a.length → (flatC a avs).length = a.length * 2 := by
  intro a
  induction a with
  | nil => intro avs _; cases avs <;> rfl
  | cons x t ih =>
    intro avs h
    cases avs with
    | nil => simp at h
    | cons v vs => simp only [flatC, List.length_cons]; rw [ih vs (by simpa using h)]; omega
theorem Elem.append {a b : List Cmd} {avs bvs : List Value} {w : World} (h : Elem a avs w) (k : Elem b bvs w) : Elem (a ++ b) (avs ++ bvs) w := by
  refine ⟨by rw [List.length_append, List.length_append, h.1, k.1], fun i x av hx ha => ?_⟩
  by_cases hi : i < a.length
  · rw [List.getElem?_append_left hi] at hx
    rw [List.getElem?_append_left (by rw [h.1]; exact hi)] at ha
    exact h.2 i x av hx ha
  · rw [List.getElem?_append_right (by omega)] at hx
    rw [List.getElem?_append_right (by rw [h.1]; omega), h.1] at ha
    exact k.2 _ x av hx ha
/-- What came in, as such cells. -/
theorem RdC.elem {a : Option Addr} {l : List Cmd} {w : World} (h : RdC a l w) : ∃ avs, Elem l avs w ∧ (∀ b off, a = some ⟨b, off, none⟩ → ∀ j u, (flatC l avs)[j]? = some u → w.cell? ⟨b, off + j, none⟩ = some u) ∧ (l ≠ [] → ∃ b off, a = some ⟨b, off, none⟩) := by
  rcases h with rfl | ⟨b, off, rfl, hb, hc⟩
  · refine ⟨[], ⟨rfl, fun i x av hx => by simp at hx⟩, fun b off _ j u hu => ?_, fun h => absurd rfl h⟩
    simp [flatC] at hu
  · obtain ⟨F, hF⟩ : ∃ F : Nat → Option Addr × Nat, ∀ i, i < l.length → CmdAt b (off + i * 2) l i (F i).1 (F i).2 w :=
      ⟨fun i => if h : i < l.length then ((hc i h).choose, (hc i h).choose_spec.choose) else (none, 0), fun i hi => by simp only [hi, dif_pos]; exact (hc i hi).choose_spec.choose_spec⟩
    have hlen : ((List.range l.length).map fun i => Value.slice (F i).1 (ars l i).length (F i).2).length = l.length := by simp
    have hat : ∀ i, i < l.length → ((List.range l.length).map fun i => Value.slice (F i).1 (ars l i).length (F i).2)[i]? = some (.slice (F i).1 (ars l i).length (F i).2) := fun i hi => by
      rw [List.getElem?_map, List.getElem?_range hi]; rfl
    refine ⟨(List.range l.length).map fun i => Value.slice (F i).1 (ars l i).length (F i).2, ⟨hlen, fun i x av hx ha => ?_⟩, fun b' off' e j u hu => ?_, fun _ => ⟨b, off, rfl⟩⟩
    · have hi := (List.getElem?_eq_some_iff.1 hx).1
      have h1 := at_some l hi
      rw [hx] at h1
      have e1 := Option.some.inj h1
      rw [hat i hi] at ha
      have e2 := Option.some.inj ha
      have A := hF i hi
      subst e1
      exact ⟨_, _, e2.symm, A.row, A.lt, A.len⟩
    · cases e
      have hj : j < l.length * 2 := by have := (List.getElem?_eq_some_iff.1 hu).1; rw [flatC_len _ _ hlen] at this; exact this
      have hi : j / 2 < l.length := by omega
      obtain ⟨f0, f1⟩ := flatC_at l _ hlen (j / 2) _ _ (at_some l hi) (hat (j / 2) hi)
      have A := hF (j / 2) hi
      rcases (show j = j / 2 * 2 ∨ j = j / 2 * 2 + 1 from by omega) with e | e
      · rw [e] at hu
        rw [f0] at hu
        rw [e, ← Option.some.inj hu]; exact A.c0
      · rw [e] at hu
        rw [f1] at hu
        rw [e, ← Option.some.inj hu]; exact A.c1
/-- A row of the call's own, read. -/
theorem rdC_own {R n cap : Nat} {a : Option Addr} {k : Nat} {l : List Cmd} {avs : List Value} {w : World} (h : w.ownsRow R 34 2 (.slice a n cap) k (flatC l avs)) (hE : Elem l avs w) : RdC a l w := by
  by_cases hz : l = []
  · exact .inl hz
  · have hl := h.1
    rw [flatC_len _ _ hE.1] at hl
    have hpos : 0 < l.length := List.length_pos_iff.2 hz
    obtain ⟨b, off, rfl, hb⟩ : ∃ b off, a = some ⟨b, off, none⟩ ∧ b < w.heap.size := by
      rcases h.2 with ⟨_, h0⟩ | ⟨g, cap', cur, hv, hR, hg, _⟩
      · omega
      · cases hv; exact ⟨g, 0, rfl, (Array.getElem?_eq_some_iff.1 hg).1⟩
    refine .inr ⟨b, off, rfl, hb, fun i hi => ?_⟩
    have hx := at_some l hi
    have hil : i < avs.length := by rw [hE.1]; exact hi
    have ha : avs[i]? = some avs[i] := List.getElem?_eq_getElem hil
    obtain ⟨e0, e1⟩ := flatC_at l avs hE.1 i _ _ hx ha
    obtain ⟨aa, ac, hs, hI, h1, h2⟩ := hE.2 i _ _ hx ha
    rw [hs] at e1
    exact ⟨aa, ac, own_cell h e0, by rw [Nat.add_assoc]; exact own_cell h e1, hI, h1, h2⟩
/-- One slice behind the other, in a row of the call's own. -/
theorem append_cmds {ops : Array Oper} {rest : List Oper} {o : Oper} {a : Act} {Q : Exit → Act → World → Prop} (w : World) (hw : Region.wanted o (yielded ops a.tmps) = true) (s x : Operand)
    (ho : o.op = .call { callee := .builtin .append, args := #[s, x], argTypes := #[23, 23] }) {B k : Nat} {v : Value} {os : List Value} (b off m c : Nat) (news : List Value) (hown : w.ownsRow B 34 2 v k os) (hs : a.eval s = v)
    (hx : a.eval x = .slice (some ⟨b, off, none⟩) m c) (hl : news.length = m * 2) (hn : ∀ j u, news[j]? = some u → w.cell? ⟨b, off + j, none⟩ = some u) (h1 : ∀ u ∈ news, u.oneCell' = true) (hk : k + m ≤ 1000000000) (hB : B ≤ w.heap.size)
    (h : ∀ v' w', w'.ownsRow B 34 2 v' (k + m) (os ++ news) → w.grownBy w' v.ownBlock → wpList Tryd.prog ops Q rest (a.put o.dst v') w') :
    wpList Tryd.prog ops Q (o :: rest) a w := by
  obtain ⟨i0, hi, hz0, hz1, hz2⟩ := info_parts info_cmd
  refine Go.BigFrame.wpList_want hw fun K hK => ?_
  refine wp_append_own _ s x 23 ho B 34 i0 (.agg #[.int .u8 0, .slice none 0 0]) 2 32 Tryd.underlying23 hi hz0 hz1 hz2 rfl (by decide) v k os hs hown ⟨b, off, none⟩ m c news hx hl ?_ h1 ?_ ?_ hB ?_
  · intro j u hj; rw [add_none]; exact hn j u hj
  · unfold maxLen; omega
  · omega
  · intro v' w' hown' hg _
    exact hK _ _ (h v' w' hown' hg)
theorem flat_one {l : List Cmd} {avs : List Value} {w : World} (h : Elem l avs w) : ∀ u ∈ flatC l avs, u.oneCell' = true := by
  intro u hu
  obtain ⟨j, hj⟩ := List.getElem?_of_mem hu
  have hlt := (List.getElem?_eq_some_iff.1 hj).1
  rw [flatC_len _ _ h.1] at hlt
  have hi : j / 2 < l.length := by omega
  have hil : j / 2 < avs.length := by rw [h.1]; exact hi
  have ha : avs[j / 2]? = some avs[j / 2] := List.getElem?_eq_getElem hil
  obtain ⟨f0, f1⟩ := flatC_at l avs h.1 (j / 2) _ _ (at_some l hi) ha
  obtain ⟨aa, ac, e, _⟩ := h.2 _ _ _ (at_some l hi) ha
  rcases (show j = j / 2 * 2 ∨ j = j / 2 * 2 + 1 from by omega) with e2 | e2
  · rw [e2, f0] at hj; rw [← Option.some.inj hj]; rfl
  · rw [e2, f1] at hj; rw [← Option.some.inj hj, e]; rfl
end Go.Proofs.YtgiibcnakiggaaaDoor
namespace Go.Proofs.YtgiibcnakiggaaaDoor
open Go.RowKit Go.Shelf

set_option maxRecDepth 100000 in
set_option maxHeartbeats 4000000 in
theorem rright_any (c : Nat) (a : Option Addr) (zs : List Int) (cap : Nat) (w : World) (_hc : c < 256) (hz : zs.length ≤ 1000000000) (hI : IntsK .i64 a zs w) :
    Calls Tryd.prog 12 #[.agg #[.int .u8 (c : Int), .slice a zs.length cap]] w fun e w' => e = .returned (.bool (okB ⟨c, zs⟩)) ∧ Below w.heap.size w w' := by
  have L := Lib.hid (fun w => rcount_any c w)
  have RA := Lib.hid (fun w => rarc_any c w)
  have b0 := (Below.refl w.heap.size w).alloc (Nat.le_refl _) (.cells #[.int .u8 (c : Int), .slice a zs.length cap] 34)
  have HI1 := Lib.hid (hI.below b0 (Nat.le_refl _))
  have B0 := Lib.hid b0
  have n0 : (w.alloc (.cells #[.int .u8 (c : Int), .slice a zs.length cap] 34)).heap[w.heap.size]? = some (.cells #[.int .u8 (c : Int), .slice a zs.length cap] 34 (0, 0)) := World.alloc_heap_new w _
  have c0 : (w.alloc (.cells #[.int .u8 (c : Int), .slice a zs.length cap] 34)).cell? ⟨w.heap.size, 0, none⟩ = some (.int .u8 (c : Int)) := by unfold World.cell?; rw [n0]; rfl
  have c1 : (w.alloc (.cells #[.int .u8 (c : Int), .slice a zs.length cap] 34)).cell? ⟨w.heap.size, 1, none⟩ = some (.slice a zs.length cap) := by unfold World.cell?; rw [n0]; rfl
  clear b0 hI n0
  by_cases hk : cntL c ≠ 99 ∧ cntL c = zs.length
  · have hcn : cntI c = (zs.length : Int) := by unfold cntI; rw [if_neg hk.1, hk.2]
    have hne : ((zs.length : Int) != (zs.length : Int)) = false := by simp
    rw [hcn] at L
    have HZ := Lib.hid hz
    have H7 := Lib.hid (show isArc c = true → zs.length = 7 from fun h => by rw [← hk.2]; exact arc_cnt h)
    have HOK := Lib.hid (show okB ⟨c, zs⟩ = true ↔ ArgsOk c 0 (zs.drop 0) from by
      rw [okB_iff, List.drop_zero]
      exact ⟨fun h => h.2.2, fun h => ⟨hk.2, hk.1, h⟩⟩)
    clear hk hcn hz
    go_enter Tryd.func12, Tryd.ntmps12
    go_wp2_with fail
    go_quiet (first | (go_at_call 17; exact Calls.quiet_of_same ((L.out _).mono (fun e w2 h => ⟨h.1, h.2.symm⟩))))
    have d := drewq (w.alloc (.cells #[.int .u8 (c : Int), .slice a zs.length cap] 34)) nq
    have c0' := (d.cell (p := ⟨w.heap.size, 0, none⟩) (by simp)).trans c0
    have c1' := (d.cell (p := ⟨w.heap.size, 1, none⟩) (by simp)).trans c1
    have B1 := Lib.hid (B0.out.trans (d.mono (by simp)))
    have HI2 := Lib.hid (HI1.out.below d (Nat.le_refl _))
    clear c0 c1 d HI1 B0
    generalize (w.alloc (.cells #[.int .u8 (c : Int), .slice a zs.length cap] 34)).drewN nq = w1 at *
    go_wp2_with fail
    go_loop [3] (fun v => ∃ k : Nat, v = .int .i64 (k : Int) ∧ k ≤ zs.length ∧ Hid (okB ⟨c, zs⟩ = true ↔ ArgsOk c k (zs.drop k))) (fun v => zs.length - (intOf v).toNat)
    case atStart => exact ⟨0, rfl, Nat.zero_le _, HOK⟩
    case round =>
      obtain ⟨k, rfl, hk, hr⟩ := hrel
      have hz := HZ.out
      by_cases hlt : k < zs.length
      · obtain ⟨b, off, rfl, hb, hc2⟩ := HI2.out.pos hlt
        have ck := hc2 k hlt
        have hcs := drop_getD hlt
        have HR := Lib.hid hr.out
        rw [hcs] at HR
        have HR' : Hid (okB ⟨c, zs⟩ = true ↔ (ArgOk c k (zs.getD k 0) ∧ ArgsOk c (k + 1) (zs.drop (k + 1)))) := HR
        clear HR
        have HR := HR'
        clear HR'
        generalize zs.getD k 0 = v at *
        clear hr hcs hc2 HOK
        by_cases hv1 : v ≤ -4294967296
        · have NOARG := Lib.hid (show ¬ ArgOk c k v from fun h => by have := h.1; omega)
          have hno : okB ⟨c, zs⟩ = false := by
            cases hh : okB ⟨c, zs⟩ with
            | false => rfl
            | true => exact absurd (HR.out.1 hh).1 NOARG.out
          have HN := Lib.hid hno
          clear HR NOARG hno
          go_wp2_with fail
          go_ret
          exact ⟨by rw [HN.out]; rfl, B1.out⟩
        by_cases hv2 : 4294967296 ≤ v
        · have NOARG := Lib.hid (show ¬ ArgOk c k v from fun h => by have := h.2.1; omega)
          have hno : okB ⟨c, zs⟩ = false := by
            cases hh : okB ⟨c, zs⟩ with
            | false => rfl
            | true => exact absurd (HR.out.1 hh).1 NOARG.out
          have HN := Lib.hid hno
          clear HR NOARG hno
          go_wp2_with fail
          go_ret
          exact ⟨by rw [HN.out]; rfl, B1.out⟩
        cases harc : isArc c with
        | false =>
          have ARG := Lib.hid (show ArgOk c k v from ⟨by omega, by omega, fun h => by rw [harc] at h; cases h⟩)
          rw [harc] at RA
          clear harc
          have HA := Lib.hid (show okB ⟨c, zs⟩ = true ↔ ArgsOk c (k + 1) (zs.drop (k + 1)) from ⟨fun h => (HR.out.1 h).2, fun h => HR.out.2 ⟨ARG.out, h⟩⟩)
          clear HR ARG
          go_wp2_with fail
          refine (RA.out _).mono ?_
          rintro e wA ⟨rfl, rfl⟩
          go_wp2_with fail
          go_round
          case rel => exact ⟨k + 1, by go_num, by omega, HA⟩
          case measure => simp [intOf]; omega
        | true =>
          rw [harc] at RA
          by_cases k2 : k < 2
          · have i2 : (k : Int) < 2 := by omega
            have e3 : ((k : Int) == 3) = false := by rw [beq_eq_false_iff_ne]; omega
            have e4 : ((k : Int) == 4) = false := by rw [beq_eq_false_iff_ne]; omega
            by_cases v0 : v < 0
            · have NOARG := Lib.hid (show ¬ ArgOk c k v from fun h => by have := (h.2.2 harc).1 k2; omega)
              clear harc
              have hno : okB ⟨c, zs⟩ = false := by
                cases hh : okB ⟨c, zs⟩ with
                | false => rfl
                | true => exact absurd (HR.out.1 hh).1 NOARG.out
              have HN := Lib.hid hno
              clear HR NOARG hno
              go_wp2_with fail
              refine (RA.out _).mono ?_
              rintro e wA ⟨rfl, rfl⟩
              go_wp2_with fail
              go_ret
              exact ⟨by rw [HN.out]; rfl, B1.out⟩
            · have ARG := Lib.hid (show ArgOk c k v from ⟨by omega, by omega, fun _ => ⟨fun _ => by omega, fun h => by omega⟩⟩)
              clear harc
              have HA := Lib.hid (show okB ⟨c, zs⟩ = true ↔ ArgsOk c (k + 1) (zs.drop (k + 1)) from ⟨fun h => (HR.out.1 h).2, fun h => HR.out.2 ⟨ARG.out, h⟩⟩)
              clear HR ARG
              go_wp2_with fail
              refine (RA.out _).mono ?_
              rintro e wA ⟨rfl, rfl⟩
              go_wp2_with fail
              go_round
              case rel => exact ⟨k + 1, by go_num, by omega, HA⟩
              case measure => simp [intOf]; omega
          · have i2 : ¬ (k : Int) < 2 := by omega
            by_cases k3 : k = 3
            · subst k3
              by_cases v0 : v = 0
              · have ARG := Lib.hid (show ArgOk c 3 v from ⟨by omega, by omega, fun _ => ⟨fun h => by omega, fun _ => Or.inl v0⟩⟩)
                clear harc
                subst v0
                have HA := Lib.hid (show okB ⟨c, zs⟩ = true ↔ ArgsOk c (3 + 1) (zs.drop (3 + 1)) from ⟨fun h => (HR.out.1 h).2, fun h => HR.out.2 ⟨ARG.out, h⟩⟩)
                clear HR ARG
                go_wp2_with fail
                refine (RA.out _).mono ?_
                rintro e wA ⟨rfl, rfl⟩
                go_wp2_with fail
                go_round
                case rel => exact ⟨3 + 1, by go_num, by omega, HA⟩
                case measure => simp [intOf]; omega
              · have f0 : (v == 0) = false := by rw [beq_eq_false_iff_ne]; exact v0
                have g0 : (v != 0) = true := by rw [bne, f0]; rfl
                by_cases v1 : v = 1
                · have ARG := Lib.hid (show ArgOk c 3 v from ⟨by omega, by omega, fun _ => ⟨fun h => by omega, fun _ => Or.inr v1⟩⟩)
                  clear harc
                  subst v1
                  have HA := Lib.hid (show okB ⟨c, zs⟩ = true ↔ ArgsOk c (3 + 1) (zs.drop (3 + 1)) from ⟨fun h => (HR.out.1 h).2, fun h => HR.out.2 ⟨ARG.out, h⟩⟩)
                  clear HR ARG
                  go_wp2_with fail
                  refine (RA.out _).mono ?_
                  rintro e wA ⟨rfl, rfl⟩
                  go_wp2_with fail
                  go_round
                  case rel => exact ⟨3 + 1, by go_num, by omega, HA⟩
                  case measure => simp [intOf]; omega
                · have f1 : (v == 1) = false := by rw [beq_eq_false_iff_ne]; exact v1
                  have g1 : (v != 1) = true := by rw [bne, f1]; rfl
                  have NOARG := Lib.hid (show ¬ ArgOk c 3 v from fun h => by have := (h.2.2 harc).2 (Or.inl rfl); omega)
                  clear harc
                  have hno : okB ⟨c, zs⟩ = false := by
                    cases hh : okB ⟨c, zs⟩ with
                    | false => rfl
                    | true => exact absurd (HR.out.1 hh).1 NOARG.out
                  have HN := Lib.hid hno
                  clear HR NOARG hno
                  go_wp2_with fail
                  refine (RA.out _).mono ?_
                  rintro e wA ⟨rfl, rfl⟩
                  go_wp2_with fail
                  go_ret
                  exact ⟨by rw [HN.out]; rfl, B1.out⟩
            · have e3 : ((k : Int) == 3) = false := by rw [beq_eq_false_iff_ne]; omega
              by_cases k4 : k = 4
              · subst k4
                by_cases v0 : v = 0
                · have ARG := Lib.hid (show ArgOk c 4 v from ⟨by omega, by omega, fun _ => ⟨fun h => by omega, fun _ => Or.inl v0⟩⟩)
                  clear harc
                  subst v0
                  have HA := Lib.hid (show okB ⟨c, zs⟩ = true ↔ ArgsOk c (4 + 1) (zs.drop (4 + 1)) from ⟨fun h => (HR.out.1 h).2, fun h => HR.out.2 ⟨ARG.out, h⟩⟩)
                  clear HR ARG
                  go_wp2_with fail
                  refine (RA.out _).mono ?_
                  rintro e wA ⟨rfl, rfl⟩
                  go_wp2_with fail
                  go_round
                  case rel => exact ⟨4 + 1, by go_num, by omega, HA⟩
                  case measure => simp [intOf]; omega
                · have f0 : (v == 0) = false := by rw [beq_eq_false_iff_ne]; exact v0
                  have g0 : (v != 0) = true := by rw [bne, f0]; rfl
                  by_cases v1 : v = 1
                  · have ARG := Lib.hid (show ArgOk c 4 v from ⟨by omega, by omega, fun _ => ⟨fun h => by omega, fun _ => Or.inr v1⟩⟩)
                    clear harc
                    subst v1
                    have HA := Lib.hid (show okB ⟨c, zs⟩ = true ↔ ArgsOk c (4 + 1) (zs.drop (4 + 1)) from ⟨fun h => (HR.out.1 h).2, fun h => HR.out.2 ⟨ARG.out, h⟩⟩)
                    clear HR ARG
                    go_wp2_with fail
                    refine (RA.out _).mono ?_
                    rintro e wA ⟨rfl, rfl⟩
                    go_wp2_with fail
                    go_round
                    case rel => exact ⟨4 + 1, by go_num, by omega, HA⟩
                    case measure => simp [intOf]; omega
                  · have f1 : (v == 1) = false := by rw [beq_eq_false_iff_ne]; exact v1
                    have g1 : (v != 1) = true := by rw [bne, f1]; rfl
                    have NOARG := Lib.hid (show ¬ ArgOk c 4 v from fun h => by have := (h.2.2 harc).2 (Or.inr rfl); omega)
                    clear harc
                    have hno : okB ⟨c, zs⟩ = false := by
                      cases hh : okB ⟨c, zs⟩ with
                      | false => rfl
                      | true => exact absurd (HR.out.1 hh).1 NOARG.out
                    have HN := Lib.hid hno
                    clear HR NOARG hno
                    go_wp2_with fail
                    refine (RA.out _).mono ?_
                    rintro e wA ⟨rfl, rfl⟩
                    go_wp2_with fail
                    go_ret
                    exact ⟨by rw [HN.out]; rfl, B1.out⟩
              · have e4 : ((k : Int) == 4) = false := by rw [beq_eq_false_iff_ne]; omega
                have ARG := Lib.hid (show ArgOk c k v from ⟨by omega, by omega, fun _ => ⟨fun h => by omega, fun h => by omega⟩⟩)
                clear harc
                have HA := Lib.hid (show okB ⟨c, zs⟩ = true ↔ ArgsOk c (k + 1) (zs.drop (k + 1)) from ⟨fun h => (HR.out.1 h).2, fun h => HR.out.2 ⟨ARG.out, h⟩⟩)
                clear HR ARG
                go_wp2_with fail
                refine (RA.out _).mono ?_
                rintro e wA ⟨rfl, rfl⟩
                go_wp2_with fail
                go_round
                case rel => exact ⟨k + 1, by go_num, by omega, HA⟩
                case measure => simp [intOf]; omega
      · have hyes : okB ⟨c, zs⟩ = true := hr.out.2 (by rw [List.drop_of_length_le (by omega)]; trivial)
        have hnl : ¬ (k : Int) < (zs.length : Int) := by omega
        have HY := Lib.hid hyes
        clear hr hyes
        go_wp2_with fail
        go_ret
        exact ⟨by rw [HY.out]; rfl, B1.out⟩
  · have hno : okB ⟨c, zs⟩ = false := okB_false fun h => hk ⟨h.2.1, h.1⟩
    have HN := Lib.hid hno
    have hne : (cntI c != (zs.length : Int)) = true := by
      rw [bne, Bool.not_eq_true', beq_eq_false_iff_ne]
      unfold cntI
      split
      · omega
      · rename_i h9; intro e; exact hk ⟨h9, by omega⟩
    clear hk hno
    generalize cntI c = z at *
    go_enter Tryd.func12, Tryd.ntmps12
    go_wp2_with fail
    go_quiet (first | (go_at_call 17; exact Calls.quiet_of_same ((L.out _).mono (fun e w2 h => ⟨h.1, h.2.symm⟩))))
    have d := drewq (w.alloc (.cells #[.int .u8 (c : Int), .slice a zs.length cap] 34)) nq
    have c0' := (d.cell (p := ⟨w.heap.size, 0, none⟩) (by simp)).trans c0
    have c1' := (d.cell (p := ⟨w.heap.size, 1, none⟩) (by simp)).trans c1
    have B1 := Lib.hid (B0.out.trans (d.mono (by simp)))
    have HI2 := Lib.hid (HI1.out.below d (Nat.le_refl _))
    clear c0 c1 d HI1 B0
    generalize (w.alloc (.cells #[.int .u8 (c : Int), .slice a zs.length cap] 34)).drewN nq = w1 at *
    go_wp2_with fail
    go_ret
    exact ⟨by rw [HN.out]; rfl, B1.out⟩
end Go.Proofs.YtgiibcnakiggaaaDoor
namespace Go.Proofs.YtgiibcnakiggaaaDoor

instance : Inhabited Seg := ⟨zeroS⟩
/-- The segment without what its kind doesn't have. -/
def keptS (g : Seg) : Seg :=
  if g.kind = 3 then ⟨g.kind, g.tx, g.ty, g.ax, g.ay, g.cx, g.cy, 0, 0, 0, false, false⟩
  else if g.kind = 4 then ⟨g.kind, g.tx, g.ty, g.ax, g.ay, 0, 0, 0, 0, 0, false, false⟩
  else if g.kind = 5 then ⟨g.kind, g.tx, g.ty, 0, 0, 0, 0, g.rx, g.ry, g.turn, g.lg, g.sw⟩
  else ⟨g.kind, g.tx, g.ty, 0, 0, 0, 0, 0, 0, 0, false, false⟩
def aloneP (g : Seg) : Prop := 1 ≤ g.kind ∧ g.kind ≤ 6 ∧ g = keptS g ∧ inB g ∧ 0 ≤ g.rx ∧ 0 ≤ g.ry
/-- Going along: the last Move's point, and whether a subpath is open. -/
def rightP : List Seg → Int → Int → Bool → Prop
  | [], _, _, _ => True
  | g :: t, bx, by', op => aloneP g ∧ (if g.kind = 1 then rightP t g.tx g.ty true else if op = false then False else if g.kind = 6 then (g.tx = bx ∧ g.ty = by' ∧ rightP t bx by' false) else rightP t bx by' op)
/-- The document's words, of one segment behind others. -/
def docA (x : Seg) : Prop := ¬ x.kind < 1 ∧ ¬ 6 < x.kind ∧ (In32 x.tx ∧ In32 x.ty) ∧ (In32 x.ax ∧ In32 x.ay) ∧ (In32 x.cx ∧ In32 x.cy) ∧ In32 x.rx ∧ In32 x.ry ∧ In32 x.turn ∧ ¬ x.rx < 0 ∧ ¬ x.ry < 0
def docB (x : Seg) : Prop := (x.kind ≠ 3 → x.cx = 0 ∧ x.cy = 0) ∧ (x.kind ≠ 3 → x.kind ≠ 4 → x.ax = 0 ∧ x.ay = 0)
def docC (x : Seg) : Prop := x.kind ≠ 5 → x.rx = 0 ∧ x.ry = 0 ∧ x.turn = 0 ∧ x.lg = false ∧ x.sw = false
def docD (l : List Seg) (x : Seg) : Prop := (x.kind ≠ 1 → ¬ shutL l) ∧ (x.kind = 6 → x.tx = (begL l).1 ∧ x.ty = (begL l).2)
def docP (l : List Seg) (x : Seg) : Prop := docA x ∧ docB x ∧ docC x ∧ docD l x
def RightR (l : List Seg) : Prop := ∀ i, i < l.length → docP (l.take i) (l.getD i zeroS)
theorem alone_doc (x : Seg) : aloneP x ↔ docA x ∧ docB x ∧ docC x := by
  obtain ⟨k, tx, ty, ax, ay, cx, cy, rx, ry, tu, lg, sw⟩ := x
  unfold aloneP docA docB docC keptS inB
  dsimp only
  constructor
  · rintro ⟨h1, h2, h3, ⟨i1, i2, i3, i4, i5, i6, i7, i8, i9⟩, h5, h6⟩
    refine ⟨⟨by omega, by omega, ⟨i1, i2⟩, ⟨i3, i4⟩, ⟨i5, i6⟩, i7, i8, i9, by omega, by omega⟩, ?_, ?_⟩
    · split at h3
      · rename_i h; exact ⟨fun k => absurd h k, fun k => absurd h k⟩
      · split at h3
        · rename_i h; simp only [Seg.mk.injEq] at h3; exact ⟨fun _ => ⟨h3.2.2.2.2.2.1, h3.2.2.2.2.2.2.1⟩, fun _ k => absurd h k⟩
        · split at h3
          · simp only [Seg.mk.injEq] at h3; exact ⟨fun _ => ⟨h3.2.2.2.2.2.1, h3.2.2.2.2.2.2.1⟩, fun _ _ => ⟨h3.2.2.2.1, h3.2.2.2.2.1⟩⟩
          · simp only [Seg.mk.injEq] at h3; exact ⟨fun _ => ⟨h3.2.2.2.2.2.1, h3.2.2.2.2.2.2.1⟩, fun _ _ => ⟨h3.2.2.2.1, h3.2.2.2.2.1⟩⟩
    · intro h5'
      split at h3
      · simp only [Seg.mk.injEq] at h3; exact h3.2.2.2.2.2.2.2
      · split at h3
        · simp only [Seg.mk.injEq] at h3; exact h3.2.2.2.2.2.2.2
        · simp only [Seg.mk.injEq] at h3; exact h3.2.2.2.2.2.2.2
  · rintro ⟨⟨h1, h2, ⟨i1, i2⟩, ⟨i3, i4⟩, ⟨i5, i6⟩, i7, i8, i9, h5, h6⟩, ⟨b1, b2⟩, c⟩
    refine ⟨by omega, by omega, ?_, ⟨i1, i2, i3, i4, i5, i6, i7, i8, i9⟩, by omega, by omega⟩
    split
    · rename_i h; obtain ⟨c1, c2, c3, c4, c5⟩ := c (by omega); subst c1 c2 c3 c4 c5; rfl
    · rename_i n3
      obtain ⟨e1, e2⟩ := b1 n3
      split
      · rename_i h; obtain ⟨c1, c2, c3, c4, c5⟩ := c (by omega); subst c1 c2 c3 c4 c5 e1 e2; rfl
      · rename_i n4
        obtain ⟨e3, e4⟩ := b2 n3 n4
        split
        · subst e1 e2 e3 e4; rfl
        · rename_i n5; obtain ⟨c1, c2, c3, c4, c5⟩ := c n5; subst c1 c2 c3 c4 c5 e1 e2 e3 e4; rfl
/-- From a beginning on. -/
def RightFrom (pre t : List Seg) : Prop := ∀ i, i < t.length → docP (pre ++ t.take i) (t.getD i zeroS)
theorem from_cons (pre : List Seg) (g : Seg) (t : List Seg) : RightFrom pre (g :: t) ↔ docP pre g ∧ RightFrom (pre ++ [g]) t := by
  constructor
  · intro h
    refine ⟨by have := h 0 (by simp); simpa using this, fun i hi => ?_⟩
    have := h (i + 1) (by simp; omega)
    simpa using this
  · rintro ⟨h0, h1⟩ i hi
    cases i with
    | zero => simpa using h0
    | succ i =>
      have := h1 i (by simpa using hi)
      simpa using this
theorem from_nil (l : List Seg) : RightFrom [] l ↔ RightR l := by unfold RightFrom RightR; simp
theorem right_from : ∀ (t pre : List Seg) (op : Bool), (op = true ↔ ¬ shutL pre) → (rightP t (begL pre).1 (begL pre).2 op ↔ RightFrom pre t) := by
  intro t
  induction t with
  | nil => intro pre op _; exact ⟨fun _ i hi => absurd hi (Nat.not_lt_zero _), fun _ => trivial⟩
  | cons g t ih =>
    intro pre op hop
    rw [from_cons]
    unfold rightP docP docD
    rw [alone_doc]
    have hb := begL_snoc pre g
    have hs := shut_snoc pre g
    by_cases h1 : g.kind = 1
    · have I := ih (pre ++ [g]) true ⟨fun _ => by rw [hs]; omega, fun _ => rfl⟩
      rw [hb, if_pos h1] at I
      rw [if_pos h1, I]
      constructor
      · rintro ⟨⟨a, b, c⟩, d⟩; exact ⟨⟨a, b, c, fun k => absurd h1 k, fun k => absurd k (by omega)⟩, d⟩
      · rintro ⟨⟨a, b, c, _⟩, d⟩; exact ⟨⟨a, b, c⟩, d⟩
    · rw [if_neg h1]
      rw [if_neg h1] at hb
      cases op with
      | false =>
        have hsh : shutL pre := Decidable.byContradiction fun k => by have := hop.2 k; cases this
        rw [if_pos rfl]
        exact ⟨fun k => k.2.elim, fun k => absurd hsh (k.1.2.2.2.1 h1)⟩
      | true =>
        have hns := hop.1 rfl
        rw [if_neg (by decide)]
        by_cases h6 : g.kind = 6
        · have I := ih (pre ++ [g]) false ⟨fun k => (by cases k), fun k => absurd (hs.2 h6) k⟩
          rw [hb] at I
          rw [if_pos h6, I]
          constructor
          · rintro ⟨⟨a, b, c⟩, e1, e2, d⟩; exact ⟨⟨a, b, c, fun _ => hns, fun _ => ⟨e1, e2⟩⟩, d⟩
          · rintro ⟨⟨a, b, c, _, e⟩, d⟩; exact ⟨⟨a, b, c⟩, (e h6).1, (e h6).2, d⟩
        · have I := ih (pre ++ [g]) true ⟨fun _ => by rw [hs]; exact h6, fun _ => rfl⟩
          rw [hb] at I
          rw [if_neg h6, I]
          constructor
          · rintro ⟨⟨a, b, c⟩, d⟩; exact ⟨⟨a, b, c, fun _ => hns, fun k => absurd k h6⟩, d⟩
          · rintro ⟨⟨a, b, c, _, e⟩, d⟩; exact ⟨⟨a, b, c⟩, d⟩
/-- Both ways are one. -/
theorem right_same (l : List Seg) : rightP l 0 0 false ↔ RightR l := by
  rw [← from_nil]
  exact right_from l [] false ⟨fun k => (by cases k), fun k => absurd (Or.inl rfl) k⟩
theorem right_snoc (l : List Seg) (g : Seg) : RightR (l ++ [g]) ↔ RightR l ∧ docP l g := by
  unfold RightR
  constructor
  · intro h
    refine ⟨fun i hi => ?_, ?_⟩
    · have := h i (by simp; omega)
      rw [List.take_append_of_le_length (by omega)] at this
      simpa [List.getD, List.getElem?_append_left hi] using this
    · have := h l.length (by simp)
      simpa [List.getD] using this
  · rintro ⟨h1, h2⟩ i hi
    rw [List.length_append, List.length_singleton] at hi
    by_cases h : i < l.length
    · rw [List.take_append_of_le_length (by omega)]
      have := h1 i h
      simpa [List.getD, List.getElem?_append_left h] using this
    · have e : i = l.length := by omega
      subst e
      simpa [List.getD] using h2
theorem beg_in {l : List Seg} (h : RightR l) : In32 (begL l).1 ∧ In32 (begL l).2 := by
  have key : ∀ n, n ≤ l.length → In32 (begL (l.take n)).1 ∧ In32 (begL (l.take n)).2 := by
    intro n
    induction n with
    | zero => intro _; rw [List.take_zero]; exact ⟨in_zero, in_zero⟩
    | succ n ih =>
      intro hn
      rw [List.take_succ_eq_append_getElem (by omega), begL_snoc]
      split
      · have := (h n (by omega)).1.2.2.1
        simpa [List.getD, List.getElem?_eq_getElem (show n < l.length by omega)] using this
      · exact ih (by omega)
  have := key l.length (Nat.le_refl _)
  rwa [List.take_length] at this
theorem pt_in {l : List Seg} (h : RightR l) : In32 (ptL7 l).1 ∧ In32 (ptL7 l).2 := by
  unfold ptL7
  rcases List.eq_nil_or_concat l with rfl | ⟨m, g, rfl⟩
  · exact ⟨in_zero, in_zero⟩
  · rw [List.concat_eq_append] at *
    rw [last_snoc]
    exact ((right_snoc m g).1 h).2.1.2.2.1
theorem doc_move (l : List Seg) (x y : Int) (hx : In32 x) (hy : In32 y) : docP l (segS 1 x y 0 0 0 0) := by
  have z := in_zero
  refine ⟨⟨by show ¬ (1 : Int) < 1; omega, by show ¬ (6 : Int) < 1; omega, ⟨hx, hy⟩, ⟨z, z⟩, ⟨z, z⟩, z, z, z, by show ¬ (0 : Int) < 0; omega, by show ¬ (0 : Int) < 0; omega⟩, ⟨fun _ => ⟨rfl, rfl⟩, fun _ _ => ⟨rfl, rfl⟩⟩, fun _ => ⟨rfl, rfl, rfl, rfl, rfl⟩, fun k => absurd rfl k, fun k => absurd k (by show ¬ (1 : Int) = 6; omega)⟩
theorem right_open {l : List Seg} (h : RightR l) (c : Cmd) : RightR (openL l c) := by
  unfold openL
  split
  · exact (right_snoc _ _).2 ⟨h, doc_move _ _ _ (pt_in h).1 (pt_in h).2⟩
  · exact h
theorem open_shut {l : List Seg} {c : Cmd} (hc : capL c.letter ≠ 77) : ¬ shutL (openL l c) := by
  unfold openL
  split
  · rw [shut_snoc]; show ¬ (1 : Int) = 6; omega
  · rename_i h; exact fun k => h ⟨k, hc⟩
/-- A command's radii. -/
theorem doc_one (c : Cmd) (hc : CmdW c) (hr : capL c.letter = 65 → 0 ≤ nA c.args 0 ∧ 0 ≤ nA c.args 1) (l : List Seg) (p : Int × Int) (was : Nat) (hi : inR (oneS c p l was)) (hs : capL c.letter ≠ 77 → ¬ shutL l) : docP l (oneS c p l was) := by
  have hk := kind_one c p l was hc.2.1
  have hB := (one_in c hc p l was).2 hi
  obtain ⟨ten, _⟩ := cap_ten hc.2.1
  have hA : docB (oneS c p l was) ∧ docC (oneS c p l was) ∧ (0 ≤ (oneS c p l was).rx ∧ 0 ≤ (oneS c p l was).ry) ∧ ((oneS c p l was).kind = 6 → (oneS c p l was).tx = (begL l).1 ∧ (oneS c p l was).ty = (begL l).2) := by
    clear hB hi hk
    have z : (0 : Int) ≤ 0 := by omega
    unfold oneS docB docC
    rcases ten with h | h | h | h | h | h | h | h | h | h <;> rw [h]
    · exact ⟨⟨fun _ => ⟨rfl, rfl⟩, fun _ _ => ⟨rfl, rfl⟩⟩, fun _ => ⟨rfl, rfl, rfl, rfl, rfl⟩, ⟨z, z⟩, fun k => absurd k (by show ¬ (1 : Int) = 6; omega)⟩
    · exact ⟨⟨fun _ => ⟨rfl, rfl⟩, fun _ _ => ⟨rfl, rfl⟩⟩, fun _ => ⟨rfl, rfl, rfl, rfl, rfl⟩, ⟨z, z⟩, fun k => absurd k (by show ¬ (2 : Int) = 6; omega)⟩
    · exact ⟨⟨fun _ => ⟨rfl, rfl⟩, fun _ _ => ⟨rfl, rfl⟩⟩, fun _ => ⟨rfl, rfl, rfl, rfl, rfl⟩, ⟨z, z⟩, fun k => absurd k (by show ¬ (2 : Int) = 6; omega)⟩
    · exact ⟨⟨fun _ => ⟨rfl, rfl⟩, fun _ _ => ⟨rfl, rfl⟩⟩, fun _ => ⟨rfl, rfl, rfl, rfl, rfl⟩, ⟨z, z⟩, fun k => absurd k (by show ¬ (2 : Int) = 6; omega)⟩
    · exact ⟨⟨fun k => absurd rfl k, fun k => absurd rfl k⟩, fun _ => ⟨rfl, rfl, rfl, rfl, rfl⟩, ⟨z, z⟩, fun k => absurd k (by show ¬ (3 : Int) = 6; omega)⟩
    · by_cases hw : was = 67 ∨ was = 83
      · simp only [if_pos hw]
        exact ⟨⟨fun k => absurd rfl k, fun k => absurd rfl k⟩, fun _ => ⟨rfl, rfl, rfl, rfl, rfl⟩, ⟨z, z⟩, fun k => absurd k (by show ¬ (3 : Int) = 6; omega)⟩
      · simp only [if_neg hw]
        exact ⟨⟨fun k => absurd rfl k, fun k => absurd rfl k⟩, fun _ => ⟨rfl, rfl, rfl, rfl, rfl⟩, ⟨z, z⟩, fun k => absurd k (by show ¬ (3 : Int) = 6; omega)⟩
    · exact ⟨⟨fun _ => ⟨rfl, rfl⟩, fun _ k => absurd rfl k⟩, fun _ => ⟨rfl, rfl, rfl, rfl, rfl⟩, ⟨z, z⟩, fun k => absurd k (by show ¬ (4 : Int) = 6; omega)⟩
    · by_cases hw : was = 81 ∨ was = 84
      · simp only [if_pos hw]
        exact ⟨⟨fun _ => ⟨rfl, rfl⟩, fun _ k => absurd rfl k⟩, fun _ => ⟨rfl, rfl, rfl, rfl, rfl⟩, ⟨z, z⟩, fun k => absurd k (by show ¬ (4 : Int) = 6; omega)⟩
      · simp only [if_neg hw]
        exact ⟨⟨fun _ => ⟨rfl, rfl⟩, fun _ k => absurd rfl k⟩, fun _ => ⟨rfl, rfl, rfl, rfl, rfl⟩, ⟨z, z⟩, fun k => absurd k (by show ¬ (4 : Int) = 6; omega)⟩
    · exact ⟨⟨fun _ => ⟨rfl, rfl⟩, fun _ _ => ⟨rfl, rfl⟩⟩, fun k => absurd rfl k, hr h, fun k => absurd k (by show ¬ (5 : Int) = 6; omega)⟩
    · exact ⟨⟨fun _ => ⟨rfl, rfl⟩, fun _ _ => ⟨rfl, rfl⟩⟩, fun _ => ⟨rfl, rfl, rfl, rfl, rfl⟩, ⟨z, z⟩, fun _ => ⟨rfl, rfl⟩⟩
  obtain ⟨a1, a2, ⟨a3, a4⟩, a5⟩ := hA
  have hkb : 1 ≤ (oneS c p l was).kind ∧ (oneS c p l was).kind ≤ 6 ∧ ((oneS c p l was).kind ≠ 1 → capL c.letter ≠ 77) := by
    rw [hk]
    rcases ten with h | h | h | h | h | h | h | h | h | h <;> rw [h] <;> exact ⟨by decide, by decide, by decide⟩
  generalize oneS c p l was = g at *
  obtain ⟨i1, i2, i3, i4, i5, i6, i7, i8, i9⟩ := hB
  exact ⟨⟨by omega, by omega, ⟨i1, i2⟩, ⟨i3, i4⟩, ⟨i5, i6⟩, i7, i8, i9, by omega, by omega⟩, a1, a2, fun k => hs (hkb.2.2 k), a5⟩
/-- What commands come to is right. -/
theorem walk_right : ∀ (t : List Cmd) (l : List Seg) (was i : Nat), RightR l → (∀ x ∈ t, CmdW x ∧ (capL x.letter = 65 → 0 ≤ nA x.args 0 ∧ 0 ≤ nA x.args 1)) → RightR (walkR l was t i).1 := by
  intro t
  induction t with
  | nil => intro l was i h _; exact h
  | cons c t ih =>
    intro l was i h hc
    unfold walkR
    split
    · rename_i hin
      obtain ⟨c1, c2⟩ := hc c (List.mem_cons_self ..)
      refine ih _ _ _ ((right_snoc _ _).2 ⟨right_open h c, ?_⟩) (fun x hx => hc x (List.mem_cons_of_mem _ hx))
      exact doc_one c c1 c2 _ _ _ hin (fun k => open_shut k)
    · exact h
end Go.Proofs.YtgiibcnakiggaaaDoor
namespace Go.Proofs.YtgiibcnakiggaaaDoor

theorem cap_arc {c : Nat} (h : capL c = 65) : isArc c = true := by
  unfold capL at h
  have : c = 65 ∨ c = 97 := by split at h <;> omega
  rcases this with rfl | rfl <;> rfl
theorem radii_ok {x : Cmd} (h : CmdOk x) (hc : capL x.letter = 65) : 0 ≤ nA x.args 0 ∧ 0 ≤ nA x.args 1 := by
  obtain ⟨c, args⟩ := x
  obtain ⟨h1, h2, h3⟩ := h
  have ha := cap_arc hc
  have hn : args.length = 7 := by
    rw [← show cntL c = args.length from h1]
    have : c = 65 ∨ c = 97 := by simpa [isArc] using ha
    rcases this with rfl | rfl <;> decide
  match args, hn with
  | a :: b :: t, _ =>
    obtain ⟨g0, g1, _⟩ := h3
    exact ⟨(g0.2.2 ha).1 (by decide), (g1.2.2 ha).1 (by decide)⟩
theorem norm_right (l : List Cmd) (h : (normS l).2.2 = 0) : RightR (normS l).1 := by
  unfold normS at *
  split at h
  · exact absurd h (by show ¬ (1 : Int) = 0; decide)
  · rename_i h1
    split at h
    · exact absurd h (by show ¬ (2 : Int) = 0; decide)
    · rename_i h2
      rw [if_neg h1, if_neg h2]
      obtain ⟨m1, m2⟩ := wrong_may l 0 h1
      have e := bring_walk l NS.zero [] 0 0 rel_zero (fun x hx => (m1 x hx).w) (fun _ => m2 rfl)
      show RightR (bringL NS.zero l 0).1
      rw [e]
      exact walk_right l [] 0 0 (fun i hi => absurd hi (Nat.not_lt_zero _)) (fun x hx => ⟨(m1 x hx).w, fun k => radii_ok (m1 x hx) k⟩)
theorem doc_i {l : List Seg} {g : Seg} (h : docP l g) : SegI g := by
  obtain ⟨⟨h1, h2, h3, h4, h5, h6, h7, h8, _⟩, _⟩ := h
  exact ⟨⟨by omega, by omega⟩, h3.1.w.i64, h3.2.w.i64, h4.1.w.i64, h4.2.w.i64, h5.1.w.i64, h5.2.w.i64, h6.w.i64, h7.w.i64, h8.w.i64⟩
theorem right_i {l : List Seg} (h : RightR l) : ∀ g ∈ l, SegI g := by
  intro g hg
  obtain ⟨i, hi, rfl⟩ := List.mem_iff_getElem.1 hg
  have := doc_i (h i hi)
  simpa [List.getD, List.getElem?_eq_getElem hi] using this
end Go.Proofs.YtgiibcnakiggaaaDoor
namespace Go.Proofs.YtgiibcnakiggaaaDoor

/-- A segment, moved. -/
def mvS (bx by' : Int) (g : Seg) : Seg := ⟨g.kind, g.tx + bx, g.ty + by', if g.kind = 3 ∨ g.kind = 4 then g.ax + bx else g.ax, if g.kind = 3 ∨ g.kind = 4 then g.ay + by' else g.ay, if g.kind = 3 then g.cx + bx else g.cx, if g.kind = 3 then g.cy + by' else g.cy, g.rx, g.ry, g.turn, g.lg, g.sw⟩
theorem mv_eq {bx by' : Int} {g h : Seg} (e1 : h.kind = g.kind) (e2 : h.tx = g.tx + bx) (e3 : h.ty = g.ty + by') (e4 : h.ax = if g.kind = 3 ∨ g.kind = 4 then g.ax + bx else g.ax) (e5 : h.ay = if g.kind = 3 ∨ g.kind = 4 then g.ay + by' else g.ay) (e6 : h.cx = if g.kind = 3 then g.cx + bx else g.cx) (e7 : h.cy = if g.kind = 3 then g.cy + by' else g.cy) (e8 : h.rx = g.rx) (e9 : h.ry = g.ry) (e10 : h.turn = g.turn) (e11 : h.lg = g.lg) (e12 : h.sw = g.sw) : h = mvS bx by' g := by
  obtain ⟨k, tx, ty, ax, ay, cx, cy, rx, ry, tu, lg, sw⟩ := h
  unfold mvS
  simp only [Seg.mk.injEq]
  exact ⟨e1, e2, e3, e4, e5, e6, e7, e8, e9, e10, e11, e12⟩
theorem last_map {bx by' : Int} {l : List Seg} (h : l ≠ []) : (l.map (mvS bx by')).getLastD zeroS = mvS bx by' (l.getLastD zeroS) := by
  rcases List.eq_nil_or_concat l with rfl | ⟨m, g, rfl⟩
  · exact absurd rfl h
  · rw [List.concat_eq_append, List.map_append, List.map_singleton, last_snoc, last_snoc]
theorem pt_map {bx by' : Int} {l : List Seg} (h : l ≠ []) : ptL7 (l.map (mvS bx by')) = ((ptL7 l).1 + bx, (ptL7 l).2 + by') := by
  unfold ptL7; rw [last_map h]; rfl
theorem shut_map {bx by' : Int} {l : List Seg} (h : l ≠ []) : shutL (l.map (mvS bx by')) ↔ shutL l := by
  unfold shutL
  rw [last_map h]
  constructor
  · rintro (k | k)
    · exact absurd (by simpa using k) h
    · exact Or.inr k
  · rintro (k | k)
    · exact absurd k h
    · exact Or.inr k
/-- The first one is a Move. -/
def FirstM (l : List Seg) : Prop := ∃ x r, l = x :: r ∧ x.kind = 1
theorem FirstM.ne {l : List Seg} (h : FirstM l) : l ≠ [] := by obtain ⟨x, r, rfl, _⟩ := h; simp
theorem FirstM.app {l : List Seg} (h : FirstM l) (m : List Seg) : FirstM (l ++ m) := by obtain ⟨x, r, rfl, hk⟩ := h; exact ⟨x, r ++ m, rfl, hk⟩
theorem beg_map {bx by' : Int} {l : List Seg} (h : FirstM l) : begL (l.map (mvS bx by')) = ((begL l).1 + bx, (begL l).2 + by') := by
  obtain ⟨x, r, rfl, hk⟩ := h
  have key : ∀ (r : List Seg) (b : Int × Int), (r.map (mvS bx by')).foldl (fun b g => if g.kind = 1 then (g.tx, g.ty) else b) (b.1 + bx, b.2 + by') = ((r.foldl (fun b g => if g.kind = 1 then (g.tx, g.ty) else b) b).1 + bx, (r.foldl (fun b g => if g.kind = 1 then (g.tx, g.ty) else b) b).2 + by') := by
    intro r
    induction r with
    | nil => intro b; rfl
    | cons g t ih =>
      intro b
      rw [List.map_cons, List.foldl_cons, List.foldl_cons]
      by_cases hg : g.kind = 1
      · rw [if_pos (show (mvS bx by' g).kind = 1 from hg), if_pos hg]
        exact ih (g.tx, g.ty)
      · rw [if_neg (show ¬ (mvS bx by' g).kind = 1 from hg), if_neg hg]
        exact ih b
  unfold begL
  rw [List.map_cons, List.foldl_cons, List.foldl_cons, if_pos (show (mvS bx by' x).kind = 1 from hk), if_pos hk]
  exact key r (x.tx, x.ty)
theorem open_map {bx by' : Int} {l : List Seg} (h : FirstM l) (c : Cmd) : openL (l.map (mvS bx by')) c = (openL l c).map (mvS bx by') := by
  unfold openL
  by_cases hs : shutL l ∧ capL c.letter ≠ 77
  · rw [if_pos hs, if_pos ⟨(shut_map h.ne).2 hs.1, hs.2⟩, List.map_append, List.map_singleton, pt_map h.ne]
    rfl
  · rw [if_neg hs, if_neg (fun k => hs ⟨(shut_map h.ne).1 k.1, k.2⟩)]
theorem FirstM.open {l : List Seg} (h : FirstM l) (c : Cmd) : FirstM (openL l c) := by
  unfold openL
  split
  · exact h.app _
  · exact h
/-- What the command ahead tells of the last segment. -/
def LastK (l : List Seg) (was : Nat) : Prop := ((was = 67 ∨ was = 83) → (l.getLastD zeroS).kind = 3) ∧ ((was = 81 ∨ was = 84) → (l.getLastD zeroS).kind = 4)
theorem open_last {l : List Seg} (c : Cmd) (hne : l ≠ []) (hk : (l.getLastD zeroS).kind ≠ 6) : openL l c = l := by
  unfold openL
  rw [if_neg]
  rintro ⟨h1, _⟩
  rcases h1 with h1 | h1
  · exact hne h1
  · exact hk h1
theorem one_moved {bx by' : Int} {l : List Seg} {was : Nat} (hF : FirstM l) (hL : LastK l was) (c : Cmd) (hc : CmdW c) (hs : 97 ≤ c.letter) :
    oneS c (ptL7 (l.map (mvS bx by'))) (openL (l.map (mvS bx by')) c) was = mvS bx by' (oneS c (ptL7 l) (openL l c) was) := by
  rw [open_map hF c]
  have hb := beg_map (bx := bx) (by' := by') (hF.open c)
  have hl := last_map (bx := bx) (by' := by') (hF.open c).ne
  have hp := pt_map (bx := bx) (by' := by') hF.ne
  have hcub : (was = 67 ∨ was = 83) → ((openL l c).getLastD zeroS).kind = 3 := fun h => by
    have := hL.1 h; rw [open_last c hF.ne (by omega)]; exact this
  have hqua : (was = 81 ∨ was = 84) → ((openL l c).getLastD zeroS).kind = 4 := fun h => by
    have := hL.2 h; rw [open_last c hF.ne (by omega)]; exact this
  have f1 : fromL c (ptL7 (l.map (mvS bx by'))) = ((ptL7 l).1 + bx, (ptL7 l).2 + by') := by unfold fromL; rw [if_pos hs, hp]
  have f2 : fromL c (ptL7 l) = ptL7 l := by unfold fromL; rw [if_pos hs]
  obtain ⟨ten, _⟩ := cap_ten hc.2.1
  unfold oneS
  rw [f1, f2, hl, hb, hp]
  generalize (openL l c).getLastD zeroS = g at *
  generalize begL (openL l c) = b at *
  generalize ptL7 l = p at *
  clear f1 f2 hl hb hp hF hL hs hc
  unfold pairL
  rcases ten with h | h | h | h | h | h | h | h | h | h <;> rw [h]
  case inr.inr.inr.inr.inr.inl =>
    by_cases hw : was = 67 ∨ was = 83
    · simp only [if_pos hw]
      have k := hcub hw
      refine mv_eq rfl (show p.1 + bx + _ = p.1 + _ + bx by omega) (show p.2 + by' + _ = p.2 + _ + by' by omega) ?_ ?_ ?_ ?_ rfl rfl rfl rfl rfl
      · show 2 * (p.1 + bx) - (if g.kind = 3 then g.cx + bx else g.cx) = 2 * p.1 - g.cx + bx
        rw [if_pos k]; omega
      · show 2 * (p.2 + by') - (if g.kind = 3 then g.cy + by' else g.cy) = 2 * p.2 - g.cy + by'
        rw [if_pos k]; omega
      · show p.1 + bx + _ = p.1 + _ + bx; omega
      · show p.2 + by' + _ = p.2 + _ + by'; omega
    · simp only [if_neg hw]
      exact mv_eq rfl (show p.1 + bx + _ = p.1 + _ + bx by omega) (show p.2 + by' + _ = p.2 + _ + by' by omega) rfl rfl (show p.1 + bx + _ = p.1 + _ + bx by omega) (show p.2 + by' + _ = p.2 + _ + by' by omega) rfl rfl rfl rfl rfl
  case inr.inr.inr.inr.inr.inr.inr.inl =>
    by_cases hw : was = 81 ∨ was = 84
    · simp only [if_pos hw]
      have k := hqua hw
      refine mv_eq rfl (show p.1 + bx + _ = p.1 + _ + bx by omega) (show p.2 + by' + _ = p.2 + _ + by' by omega) ?_ ?_ rfl rfl rfl rfl rfl rfl rfl
      · show 2 * (p.1 + bx) - (if g.kind = 3 ∨ g.kind = 4 then g.ax + bx else g.ax) = 2 * p.1 - g.ax + bx
        rw [if_pos (Or.inr k)]; omega
      · show 2 * (p.2 + by') - (if g.kind = 3 ∨ g.kind = 4 then g.ay + by' else g.ay) = 2 * p.2 - g.ay + by'
        rw [if_pos (Or.inr k)]; omega
    · simp only [if_neg hw]
      exact mv_eq rfl (show p.1 + bx + _ = p.1 + _ + bx by omega) (show p.2 + by' + _ = p.2 + _ + by' by omega) rfl rfl rfl rfl rfl rfl rfl rfl rfl
  case inl => exact mv_eq rfl (show p.1 + bx + _ = p.1 + _ + bx by omega) (show p.2 + by' + _ = p.2 + _ + by' by omega) rfl rfl rfl rfl rfl rfl rfl rfl rfl
  case inr.inl => exact mv_eq rfl (show p.1 + bx + _ = p.1 + _ + bx by omega) (show p.2 + by' + _ = p.2 + _ + by' by omega) rfl rfl rfl rfl rfl rfl rfl rfl rfl
  case inr.inr.inl => exact mv_eq rfl (show p.1 + bx + _ = p.1 + _ + bx by omega) rfl rfl rfl rfl rfl rfl rfl rfl rfl rfl
  case inr.inr.inr.inl => exact mv_eq rfl rfl (show p.2 + by' + _ = p.2 + _ + by' by omega) rfl rfl rfl rfl rfl rfl rfl rfl rfl
  case inr.inr.inr.inr.inl => exact mv_eq rfl (show p.1 + bx + _ = p.1 + _ + bx by omega) (show p.2 + by' + _ = p.2 + _ + by' by omega) (show p.1 + bx + _ = p.1 + _ + bx by omega) (show p.2 + by' + _ = p.2 + _ + by' by omega) (show p.1 + bx + _ = p.1 + _ + bx by omega) (show p.2 + by' + _ = p.2 + _ + by' by omega) rfl rfl rfl rfl rfl
  case inr.inr.inr.inr.inr.inr.inl => exact mv_eq rfl (show p.1 + bx + _ = p.1 + _ + bx by omega) (show p.2 + by' + _ = p.2 + _ + by' by omega) (show p.1 + bx + _ = p.1 + _ + bx by omega) (show p.2 + by' + _ = p.2 + _ + by' by omega) rfl rfl rfl rfl rfl rfl rfl
  case inr.inr.inr.inr.inr.inr.inr.inr.inl => exact mv_eq rfl (show p.1 + bx + _ = p.1 + _ + bx by omega) (show p.2 + by' + _ = p.2 + _ + by' by omega) rfl rfl rfl rfl rfl rfl rfl rfl rfl
  case inr.inr.inr.inr.inr.inr.inr.inr.inr => exact mv_eq rfl rfl rfl rfl rfl rfl rfl rfl rfl rfl rfl rfl
theorem one_lastK (c : Cmd) (hc : CmdW c) (l : List Seg) (p : Int × Int) (m : List Seg) (was : Nat) : LastK (l ++ [oneS c p m was]) (capL c.letter) := by
  have hk := kind_one c p m was hc.2.1
  unfold LastK
  rw [last_snoc, hk]
  obtain ⟨ten, _⟩ := cap_ten hc.2.1
  rcases ten with h | h | h | h | h | h | h | h | h | h <;> rw [h] <;> decide
/-- The commands behind the first one. -/
theorem walk_moved {bx by' : Int} : ∀ (t : List Cmd) (l : List Seg) (was i : Nat), FirstM l → LastK l was → (∀ x ∈ t, CmdW x ∧ 97 ≤ x.letter) → ¬ 0 ≤ (walkR l was t i).2 → ¬ 0 ≤ (walkR (l.map (mvS bx by')) was t i).2 → (walkR (l.map (mvS bx by')) was t i).1 = ((walkR l was t i).1).map (mvS bx by') := by
  intro t
  induction t with
  | nil => intro l was i _ _ _ _ _; rfl
  | cons c t ih =>
    intro l was i hF hL hc h1 h2
    obtain ⟨c1, c2⟩ := hc c (List.mem_cons_self ..)
    have e := one_moved (bx := bx) (by' := by') hF hL c c1 c2
    have eo := open_map (bx := bx) (by' := by') hF c
    unfold walkR at h1 h2 ⊢
    rw [e, eo] at h2 ⊢
    split at h1
    · rename_i k1
      split at h2
      · rename_i k2
        rw [if_pos k1, if_pos k2]
        rw [show (openL l c).map (mvS bx by') ++ [mvS bx by' (oneS c (ptL7 l) (openL l c) was)] = (openL l c ++ [oneS c (ptL7 l) (openL l c) was]).map (mvS bx by') by rw [List.map_append, List.map_singleton]] at h2 ⊢
        exact ih _ _ _ ((hF.open c).app _) (one_lastK c c1 _ _ _ _) (fun x hx => hc x (List.mem_cons_of_mem _ hx)) h1 h2
      · exact absurd (Int.natCast_nonneg i) h2
    · exact absurd (Int.natCast_nonneg i) h1
/-- The whole path. -/
theorem path_moved {bx by' a0 a1 : Int} {t : List Cmd} (hc : ∀ x ∈ t, CmdW x ∧ 97 ≤ x.letter) (h1 : ¬ 0 ≤ (walkR [] 0 (⟨77, [a0, a1]⟩ :: t) 0).2) (h2 : ¬ 0 ≤ (walkR [] 0 (⟨77, [a0 + bx, a1 + by']⟩ :: t) 0).2) :
    (walkR [] 0 (⟨77, [a0 + bx, a1 + by']⟩ :: t) 0).1 = ((walkR [] 0 (⟨77, [a0, a1]⟩ :: t) 0).1).map (mvS bx by') := by
  have s : ∀ u v : Int, walkR [] 0 (⟨77, [u, v]⟩ :: t) 0 = if inR (segS 1 (0 + u) (0 + v) 0 0 0 0) then walkR [segS 1 (0 + u) (0 + v) 0 0 0 0] 77 t 1 else ([], 0) := fun u v => rfl
  rw [s] at h1 h2 ⊢
  rw [s]
  split at h1
  · rename_i k1
    split at h2
    · rename_i k2
      rw [if_pos k1, if_pos k2]
      have e : [segS 1 (0 + (a0 + bx)) (0 + (a1 + by')) 0 0 0 0] = [segS 1 (0 + a0) (0 + a1) 0 0 0 0].map (mvS bx by') := by
        rw [List.map_singleton]
        congr 1
        exact mv_eq rfl (show 0 + (a0 + bx) = 0 + a0 + bx by omega) (show 0 + (a1 + by') = 0 + a1 + by' by omega) rfl rfl rfl rfl rfl rfl rfl rfl rfl
      rw [e] at h2 ⊢
      exact walk_moved t _ _ _ ⟨_, [], rfl, rfl⟩ ⟨fun k => absurd k (by decide), fun k => absurd k (by decide)⟩ hc h1 h2
    · exact absurd (Int.le_refl 0) h2
  · exact absurd (Int.le_refl 0) h1
end Go.Proofs.YtgiibcnakiggaaaDoor
namespace Go.Proofs.YtgiibcnakiggaaaDoor

theorem norm_walk (l : List Cmd) (h : (normS l).2.2 = 0) : (normS l).1 = (walkR [] 0 l 0).1 ∧ ¬ 0 ≤ (walkR [] 0 l 0).2 ∧ ∀ x ∈ l, CmdW x := by
  unfold normS at *
  split at h
  · exact absurd h (by show ¬ (1 : Int) = 0; decide)
  · rename_i h1
    split at h
    · exact absurd h (by show ¬ (2 : Int) = 0; decide)
    · rename_i h2
      rw [if_neg h1, if_neg h2]
      obtain ⟨m1, m2⟩ := wrong_may l 0 h1
      have e := bring_walk l NS.zero [] 0 0 rel_zero (fun x hx => (m1 x hx).w) (fun _ => m2 rfl)
      rw [e] at h2
      exact ⟨by rw [e], h2, fun x hx => (m1 x hx).w⟩
theorem norm_moved {t : List Cmd} {a0 a1 bx by' : Int} (hs : ∀ x ∈ t, 97 ≤ x.letter) (h1 : (normS (⟨77, [a0, a1]⟩ :: t)).2.2 = 0) (h2 : (normS (⟨77, [a0 + bx, a1 + by']⟩ :: t)).2.2 = 0) :
    (normS (⟨77, [a0 + bx, a1 + by']⟩ :: t)).1 = ((normS (⟨77, [a0, a1]⟩ :: t)).1).map (mvS bx by') := by
  obtain ⟨e1, n1, w1⟩ := norm_walk _ h1
  obtain ⟨e2, n2, _⟩ := norm_walk _ h2
  rw [e1, e2]
  exact path_moved (fun x hx => ⟨w1 x (List.mem_cons_of_mem _ hx), hs x hx⟩) n1 n2
theorem map_at {bx by' : Int} {l : List Seg} {i : Nat} (h : i < l.length) : (l.map (mvS bx by')).getD i zeroS = mvS bx by' (l.getD i zeroS) := by
  simp [List.getD, List.getElem?_eq_getElem h]
theorem bring_len2 (l : List Cmd) : ∀ (s : NS) (i : Nat), (bringL s l i).1.length ≤ s.out.length + 2 * l.length := by
  have add_len : ∀ (s : NS) (g : Seg), (addM s g).out.length ≤ s.out.length + 2 := fun s g => by
    obtain ⟨⟨x, h, _, h2⟩, _⟩ := addM_out s g
    rw [h, List.length_append]; omega
  have step_len : ∀ (L : Nat) (s : NS) (a : List Int), (stepM L s a).out.length ≤ s.out.length + 2 := fun L s a => by
    unfold stepM
    split
    · show (s.out ++ [_]).length ≤ _; simp
    repeat (split; exact add_len _ _)
    exact add_len _ _
  induction l with
  | nil => intro s i; exact Nat.le_add_right _ _
  | cons c t ih =>
    intro s i
    unfold bringL
    split
    · have h1 := ih (takeM s c) (i + 1)
      have h2 : (takeM s c).out.length ≤ s.out.length + 2 := step_len _ (orgM s c.letter) c.args
      rw [List.length_cons]; omega
    · exact Nat.le_add_right _ _
theorem norm_len2 (l : List Cmd) : (normS l).1.length ≤ 2 * l.length := by
  unfold normS
  split
  · exact Nat.zero_le _
  · split
    · exact Nat.zero_le _
    · have := bring_len2 l NS.zero 0
      have e : NS.zero.out.length = 0 := rfl
      show (bringL NS.zero l 0).1.length ≤ _
      omega
end Go.Proofs.YtgiibcnakiggaaaDoor
namespace Go.Proofs.YtgiibcnakiggaaaDoor
open Go.RowKit Go.Shelf

theorem caps_of {a : Option Addr} {l : List Cmd} {avs : List Value} {w : World} (hC : CapC a l w) (hD : ∀ b off, a = some ⟨b, off, none⟩ → ∀ j u, (flatC l avs)[j]? = some u → w.cell? ⟨b, off + j, none⟩ = some u) (ha : ∃ b off, a = some ⟨b, off, none⟩) (hE : avs.length = l.length) :
    ∀ (i : Nat) (aa : Option Addr) (n ac : Nat), avs[i]? = some (.slice aa n ac) → n ≤ ac := by
  intro i aa n ac h
  obtain ⟨b, off, rfl⟩ := ha
  have hi : i < l.length := by rw [← hE]; exact (List.getElem?_eq_some_iff.1 h).1
  obtain ⟨_, f1⟩ := flatC_at l avs hE i _ _ (at_some l hi) h
  have := hD b off rfl _ _ f1
  rw [← Nat.add_assoc] at this
  exact hC b off rfl i hi aa n ac this
theorem capC_own {R k g n : Nat} {l : List Cmd} {avs : List Value} {w : World} (h : w.ownsRow R 34 2 (.slice (some ⟨g, 0, none⟩) n k) n (flatC l avs)) (hn : n = l.length) (hE : avs.length = l.length) (hc : ∀ (i : Nat) (aa : Option Addr) (n ac : Nat), avs[i]? = some (.slice aa n ac) → n ≤ ac) :
    CapC (some ⟨g, 0, none⟩) l w := by
  intro b off e i hi aa n ac hcell
  cases e
  have hil : i < avs.length := by rw [hE]; exact hi
  have ha : avs[i]? = some avs[i] := List.getElem?_eq_getElem hil
  obtain ⟨_, e1⟩ := flatC_at l avs hE i _ _ (at_some l hi) ha
  have h2 := h.cellAt (i * 2 + 1) (by rw [hn]; omega)
  rw [e1] at h2
  rw [show 0 + i * 2 + 1 = i * 2 + 1 by omega] at hcell
  rw [hcell] at h2
  exact hc i aa n ac (ha.trans h2.symm)
theorem moved_row {R g k : Nat} {t : List Cmd} {z0 z1 : List Int} {v0 v1 : Value} {vs : List Value} {n : Nat} {W : World} (hO : W.ownsRow R 34 2 (.slice (some ⟨g, 0, none⟩) n k) n (flatC (⟨77, z0⟩ :: t) (v0 :: vs))) :
    (W.setCell ⟨g, 1, none⟩ v1).ownsRow R 34 2 (.slice (some ⟨g, 0, none⟩) n k) n (flatC (⟨77, z1⟩ :: t) (v1 :: vs)) := (hO.stored 1 v1).1
theorem Elem.moved {t : List Cmd} {z0 z1 : List Int} {v0 : Value} {vs : List Value} {W : World} (h : Elem (⟨77, z0⟩ :: t) (v0 :: vs) W) {aa : Option Addr} {ac : Nat} (hz : IntsK .i64 aa z1 W) (hl : z1.length ≤ maxLen) : Elem (⟨77, z1⟩ :: t) (.slice aa z1.length ac :: vs) W := by
  refine ⟨h.1, fun i x av hx ha => ?_⟩
  cases i with
  | zero =>
    obtain rfl : (⟨77, z1⟩ : Cmd) = x := by simpa using hx
    obtain rfl : Value.slice aa z1.length ac = av := by simpa using ha
    exact ⟨aa, ac, rfl, hz, by show 77 < 256; omega, hl⟩
  | succ i => exact h.2 (i + 1) x av hx ha
/-- The world behind the store of the first one's numbers. -/
def movedW (W : World) (g : Nat) (s0 s1 : Int) : World := ((W.setCell ⟨g, 1, none⟩ (.slice (some ⟨W.heap.size, 0, none⟩) 2 2)).alloc (.cells #[.int .i64 s0, .int .i64 s1] 2)).drew
theorem moved_drow {wr W : World} {g k n : Nat} {t : List Cmd} {z0 z1 s0 s1 : Int} {v0 : Value} {vs : List Value} (hB : Below wr.heap.size wr W) (hO : W.ownsRow wr.heap.size 34 2 (.slice (some ⟨g, 0, none⟩) n k) n (flatC (⟨77, [z0, z1]⟩ :: t) (v0 :: vs))) (hn : n = t.length + 1)
    (hE : Elem (⟨77, [z0, z1]⟩ :: t) (v0 :: vs) wr) (hc : ∀ (i : Nat) (aa : Option Addr) (m ac : Nat), (v0 :: vs)[i]? = some (.slice aa m ac) → m ≤ ac) :
    RdC (some ⟨g, 0, none⟩) (⟨77, [s0, s1]⟩ :: t) (movedW W g s0 s1) ∧ CapC (some ⟨g, 0, none⟩) (⟨77, [s0, s1]⟩ :: t) (movedW W g s0 s1) ∧ Below wr.heap.size wr (movedW W g s0 s1) := by
  obtain ⟨hg1, hg2, _⟩ := own_type hO g rfl
  have B1 : Below wr.heap.size wr (W.setCell ⟨g, 1, none⟩ (.slice (some ⟨W.heap.size, 0, none⟩) 2 2)) := Below.setCell hB (by exact hg2) _
  have B3 : Below wr.heap.size wr (movedW W g s0 s1) := (B1.alloc B1.size _).drew
  have O1 := moved_row (z1 := [s0, s1]) (v1 := .slice (some ⟨W.heap.size, 0, none⟩) 2 2) hO
  have O3 : (movedW W g s0 s1).ownsRow wr.heap.size 34 2 (.slice (some ⟨g, 0, none⟩) n k) n (flatC (⟨77, [s0, s1]⟩ :: t) (.slice (some ⟨W.heap.size, 0, none⟩) 2 2 :: vs)) := own_next O1 (((Below.refl _ _).alloc (Nat.le_refl _) _).drew)
  have hsz : (W.setCell ⟨g, 1, none⟩ (.slice (some ⟨W.heap.size, 0, none⟩) 2 2)).heap.size = W.heap.size := by simp
  have hn0 : (movedW W g s0 s1).heap[W.heap.size]? = some (.cells #[.int .i64 s0, .int .i64 s1] 2 (0, 0)) := by
    have := World.alloc_heap_new (W.setCell ⟨g, 1, none⟩ (.slice (some ⟨W.heap.size, 0, none⟩) 2 2)) (.cells #[.int .i64 s0, .int .i64 s1] 2)
    rw [hsz] at this
    exact this
  have hz : IntsK .i64 (some ⟨W.heap.size, 0, none⟩) [s0, s1] (movedW W g s0 s1) := by
    refine Or.inr ⟨W.heap.size, 0, rfl, (Array.getElem?_eq_some_iff.1 hn0).1, fun i hi => ?_⟩
    match i, hi with
    | 0, _ => unfold World.cell?; rw [hn0]; rfl
    | 1, _ => unfold World.cell?; rw [hn0]; rfl
  have E3 := (hE.next B3).moved (ac := 2) hz (by simp [maxLen])
  refine ⟨rdC_own O3 E3, capC_own O3 hn E3.1 (fun i aa m ac h => ?_), B3⟩
  cases i with
  | zero => simp at h; omega
  | succ i => exact hc (i + 1) aa m ac h
end Go.Proofs.YtgiibcnakiggaaaDoor
namespace Go.Proofs.YtgiibcnakiggaaaDoor
open Go.ChangeShapes Go.WideShapes Go.ChangeAt Go.RowKit

theorem trod_array2 {H : Type} {enc : TypeId × Value → H} {P : Program} {w : World} {base : Nat} {spare : Nat → Bool} {held : Bool} {t e : TypeId} {fuel : Nat} {c0 c1 : Value} {x : DataW H × List MemPlace} (ht : P.underlying t = some (.array 2 e)) (hce : P.cellsOf e = 1)
    (h : DataW.trod enc P w base spare held fuel t [c0, c1] = some x) :
    ∃ y0 y1 n, DataW.trod enc P w base spare held n e [c0] = some y0 ∧ DataW.trod enc P w base spare held n e [c1] = some y1 := by
  cases fuel with
  | zero => simp [DataW.trod] at h
  | succ n =>
    unfold DataW.trod at h
    rw [ht] at h
    have r2 : List.range 2 = [0, 1] := rfl
    simp [r2, hce] at h
    obtain ⟨_, h⟩ := h
    cases h0 : DataW.trod enc P w base spare held n e [c0] with
    | none => simp [h0] at h
    | some y0 =>
      cases h1 : DataW.trod enc P w base spare held n e [c1] with
      | none => simp [h0, h1] at h
      | some y1 => exact ⟨y0, y1, n, h0, h1⟩
theorem cells_two : Tryd.prog.cellsOf 30 = 2 := by kernel_rfl
theorem cells_i32 : Tryd.prog.cellsOf 21 = 1 := by kernel_rfl
theorem i32_wf {a : Int} (h : (Lit.int .i32 a).wf = true) : -2147483648 ≤ a ∧ a ≤ 2147483647 := by
  simpa [Lit.wf, IntKind.min, IntKind.max, IntKind.signed, IntKind.bits] using h
set_option maxRecDepth 100000 in
theorem two_of_trod {H : Type} {enc : TypeId × Value → H} {W : World} {base : Nat} {v : Value} {d : DataW H} {p : List MemPlace}
    (hok : Value.okWide Tryd.prog W .any base 30 v) (h : DataW.Trod enc Tryd.prog W 0 (fun _ => true) true 30 v d p) :
    ∃ a b : Int, v = .agg #[.int .i32 a, .int .i32 b] ∧ (-2147483648 ≤ a ∧ a ≤ 2147483647) ∧ (-2147483648 ≤ b ∧ b ≤ 2147483647) := by
  simp only [Value.okWide, Tryd.underlying30] at hok
  obtain ⟨cs, rfl, h2, _⟩ := hok
  rw [cells_two] at h2
  obtain ⟨l⟩ := cs
  match l, h2 with
  | [c0, c1], _ =>
    obtain ⟨fuel, hf⟩ := h
    have hf' : DataW.trod enc Tryd.prog W 0 (fun _ => true) true fuel 30 [c0, c1] = some (d, p) := by simpa [Value.cells] using hf
    obtain ⟨y0, y1, n, t0, t1⟩ := trod_array2 Tryd.underlying30 cells_i32 hf'
    obtain ⟨a, ea, _, wa⟩ := DataW.trod_int Tryd.underlying21 t0
    obtain ⟨b, eb, _, wb⟩ := DataW.trod_int Tryd.underlying21 t1
    simp at ea eb
    subst ea eb
    exact ⟨a, b, rfl, i32_wf wa, i32_wf wb⟩
end Go.Proofs.YtgiibcnakiggaaaDoor
namespace Go.Proofs.YtgiibcnakiggaaaDoor.normMoves
open Go.RowKit Go.Shelf

theorem capC_next {a : Option Addr} {l : List Cmd} {w w' : World} (hI : RdC a l w) (hC : CapC a l w) (b : Below w.heap.size w w') : CapC a l w' := by
  rcases hI with h | ⟨b0, o0, rfl, hlt, _⟩
  · subst h; intro _ _ _ i hi; exact absurd hi (by simp)
  · intro b1 o1 e i hi aa n ac hc
    cases e
    exact hC b0 o0 rfl i hi aa n ac ((b.cell (p := ⟨b0, o0 + i * 2 + 1, none⟩) (by exact hlt)).symm.trans hc)
theorem head_of {l : List Cmd} (h : 0 < l.length) : l = ⟨ltr l 0, ars l 0⟩ :: l.tail := by
  cases l with
  | nil => simp at h
  | cons c t => rfl
theorem tail_small {l : List Cmd} (h : ∀ j, j < l.length - 1 → 97 ≤ ltr l (j + 1)) : ∀ x ∈ l.tail, 97 ≤ x.letter := by
  intro x hx
  cases l with
  | nil => simp at hx
  | cons c t =>
    obtain ⟨j, hj, rfl⟩ := List.mem_iff_getElem.1 hx
    have hj' : j < t.length := hj
    have := h j (by simpa using hj')
    simpa [ltr, List.getD, List.getElem?_eq_getElem hj'] using this
theorem own_some {W : World} {R sz n : Nat} {e : TypeId} {v : Value} {xs : List Value} (h : W.ownsRow R e sz v n xs) (hn : 0 < n) : ∃ g cap, v = .slice (some ⟨g, 0, none⟩) n cap ∧ n ≤ cap := by
  rcases h.2 with ⟨_, h0⟩ | ⟨g, cap, cur, rfl, _, _, h1, _⟩
  · omega
  · exact ⟨g, cap, rfl, h1⟩
theorem grown_below {w w' : World} {B sz k : Nat} {e : TypeId} {v : Value} {xs : List Value} (hrow : w.ownsRow B e sz v k xs) (hB : B ≤ w.heap.size) (hg : w.grownBy w' v.ownBlock) : Below B w w' :=
  (Below.refl B w).grown hg hB fun q hq => (own_type hrow q hq).2.1
theorem ars_two {l : List Cmd} (h : (ars l 0).length = 2) : ∃ z0 z1, ars l 0 = [z0, z1] := by
  match ars l 0, h with
  | [a, b], _ => exact ⟨a, b, rfl⟩
theorem moves_ok {z0 z1 : Int} (h : CmdOk ⟨77, [z0, z1]⟩) : (-4294967296 < z0 ∧ z0 < 4294967296) ∧ (-4294967296 < z1 ∧ z1 < 4294967296) := by
  obtain ⟨_, _, g0, g1, _⟩ := h
  exact ⟨⟨g0.1, g0.2.1⟩, ⟨g1.1, g1.2.1⟩⟩
end Go.Proofs.YtgiibcnakiggaaaDoor.normMoves
