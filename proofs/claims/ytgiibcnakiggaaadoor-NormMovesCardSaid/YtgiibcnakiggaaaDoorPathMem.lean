/-
  Commands in memory: a row of the call's own, with the rows of its arguments; one more is appended to it. Package path's Parse.
-/
import Derived.Test.YtgiibcnakiggaaaDoorPathRead
namespace Go.Proofs.YtgiibcnakiggaaaDoor
open Go.RowKit Go.Shelf

/-- All blocks but B and o are vs they were. -/
structure Kep (B : Nat) (o : Option Nat) (W W' : World) : Prop where
  os : W'.os = W.os
  tape : W'.tape = W.tape
  output : W'.output = W.output
  size : W.heap.size ≤ W'.heap.size
  block : ∀ q, q < W.heap.size → q ≠ B → some q ≠ o → W'.heap[q]? = W.heap[q]?

theorem own_type {W : World} {R : Nat} {e : TypeId} {sz : Nat} {v : Value} {k : Nat} {xs : List Value} (h : W.ownsRow R e sz v k xs) : ∀ q, v.ownBlock = some q → q < W.heap.size ∧ R ≤ q ∧ ∃ cur, W.heap[q]? = some (.cells cur e (0, 0)) := by
  intro q hq
  rcases h.2 with ⟨rfl, _⟩ | ⟨g, cap, cur, rfl, hb, hg, _⟩
  · simp [Value.ownBlock] at hq
  · obtain rfl : g = q := by simpa [Value.ownBlock] using hq
    exact ⟨(Array.getElem?_eq_some_iff.1 hg).1, hb, cur, hg⟩
/-- A row stays, if its block does. -/
theorem own_stay {W W' : World} {R : Nat} {e : TypeId} {sz : Nat} {v : Value} {k : Nat} {xs : List Value} (h : W.ownsRow R e sz v k xs) (hb : ∀ q, v.ownBlock = some q → W'.heap[q]? = W.heap[q]?) : W'.ownsRow R e sz v k xs := by
  refine ⟨h.1, ?_⟩
  rcases h.2 with h | ⟨g, cap, cur, rfl, hR, hg, h1, h2, h3, h4⟩
  · exact .inl h
  · exact .inr ⟨g, cap, cur, rfl, hR, (hb g rfl).trans hg, h1, h2, h3, h4⟩
theorem own_next {W W' : World} {R : Nat} {e : TypeId} {sz : Nat} {v : Value} {k : Nat} {xs : List Value} (h : W.ownsRow R e sz v k xs) (t : Below W.heap.size W W') : W'.ownsRow R e sz v k xs :=
  own_stay h fun q hq => t.block q (own_type h q hq).1
theorem own_rdr {W W' : World} {R : Nat} {e : TypeId} {sz : Nat} {v : Value} {k : Nat} {xs : List Value} {b j : Nat} {s : ByteArray} (h : W.ownsRow R e sz v k xs) (he : e ≠ 98) (hr : Rdr b s j W) (t : Turned b W W') : W'.ownsRow R e sz v k xs :=
  own_stay h fun q hq => by
    obtain ⟨hlt, _, cur, hc⟩ := own_type h q hq
    refine t.block q hlt fun e2 => he ?_
    subst e2
    unfold Rdr at hr
    rw [hr] at hc
    injection hc with hc
    injection hc with _ hc
    exact hc.symm
theorem own_kep {W W' : World} {R R' : Nat} {e e' t : TypeId} {sz sz' : Nat} {v av : Value} {k k' : Nat} {xs ys : List Value} {B : Nat} (h : W.ownsRow R' e' sz' av k' ys) (hv : Go.Boxed W B t v) (ht : t ≠ e') (hrow : W.ownsRow R e sz v k xs) (he : e ≠ e') (K : Kep B v.ownBlock W W') : W'.ownsRow R' e' sz' av k' ys :=
  own_stay h fun q hq => by
    obtain ⟨hlt, _, cur, hc⟩ := own_type h q hq
    refine K.block q hlt (fun e2 => ht ?_) (fun e2 => he ?_)
    · subst e2
      have hv' : W.heap[q]? = some (.cells #[v] t (0, 0)) := hv
      rw [hv'] at hc
      injection hc with hc
      injection hc with _ hc
    · obtain ⟨_, _, cur2, hc2⟩ := own_type hrow q e2.symm
      rw [hc2] at hc
      injection hc with hc
      injection hc with _ hc

/-- The live cells of commands. -/
def flatC : List Cmd → List Value → List Value
  | x :: l, a :: vs => .int .u8 (x.letter : Int) :: a :: flatC l vs
  | _, _ => []
theorem flatC_snoc (x : Cmd) (a : Value) : ∀ (l : List Cmd) (vs : List Value), vs.length = l.length → flatC (l ++ [x]) (vs ++ [a]) = flatC l vs ++ [.int .u8 (x.letter : Int), a] := by
  intro l
  induction l with
  | nil => intro vs h; cases vs with
    | nil => rfl
    | cons y t => simp at h
  | cons z l ih => intro vs h; cases vs with
    | nil => simp at h
    | cons y t => simp only [List.cons_append, flatC]; rw [ih t (by simpa using h)]
/-- A row of the call's own that holds commands. -/
def Cmds (R : Nat) (v : Value) (l : List Cmd) (W : World) : Prop := ∃ avs : List Value, avs.length = l.length ∧ W.ownsRow R 34 2 v l.length (flatC l avs) ∧
  ∀ (i : Nat) x av, l[i]? = some x → avs[i]? = some av → W.ownsRow R 2 1 av x.args.length (ints x.args) ∧ x.letter < 256
theorem Cmds.nil (R : Nat) (W : World) : Cmds R (.slice none 0 0) [] W := ⟨[], rfl, World.ownsRow_nil _ _ _ _, fun i x av h => by simp at h⟩
theorem Cmds.next {R : Nat} {v : Value} {l : List Cmd} {W W' : World} (h : Cmds R v l W) (t : Below W.heap.size W W') : Cmds R v l W' := by
  obtain ⟨avs, h1, h2, h3⟩ := h
  exact ⟨avs, h1, own_next h2 t, fun i x av hx ha => ⟨own_next (h3 i x av hx ha).1 t, (h3 i x av hx ha).2⟩⟩
theorem Cmds.rdr {R : Nat} {v : Value} {l : List Cmd} {W W' : World} {b j : Nat} {s : ByteArray} (h : Cmds R v l W) (hr : Rdr b s j W) (t : Turned b W W') : Cmds R v l W' := by
  obtain ⟨avs, h1, h2, h3⟩ := h
  exact ⟨avs, h1, own_rdr h2 (by decide) hr t, fun i x av hx ha => ⟨own_rdr (h3 i x av hx ha).1 (by decide) hr t, (h3 i x av hx ha).2⟩⟩

theorem info_cmd : (Tryd.prog.info? 34).map (fun i => (i.zero, i.size, i.bytes)) = some (some (.agg #[.int .u8 0, .slice none 0 0]), 2, 32) := by kernel_rfl
theorem append_cmd {ops : Array Oper} {rest : List Oper} {o : Oper} {a : Act} {Q : Exit → Act → World → Prop} (w : World) (hgd : o.guard = none) (s x : Operand)
    (ho : o.op = .call { callee := .builtin .append, args := #[s, x], argTypes := #[23, 23] }) {B k : Nat} {v : Value} {os : List Value} {n : Nat} (hn : w.heap.size = n) (c : Int) (aa : Option Addr) (al ac : Nat) (hown : w.ownsRow B 34 2 v k os) (hs : a.eval s = v)
    (hx : a.eval x = .slice (some ⟨n, 0, none⟩) 1 1) (hk : k ≤ 1000000000) (hB : B ≤ w.heap.size)
    (h : ∀ v' w', w'.ownsRow B 34 2 v' (k + 1) (os ++ [.int .u8 c, .slice aa al ac]) → w.grownBy w' v.ownBlock → wpList Tryd.prog ops Q rest (a.put o.dst v') w') :
    wpList Tryd.prog ops Q (o :: rest) a (w.alloc (.cells #[.int .u8 c, .slice aa al ac] 34)) := by
  subst hn
  obtain ⟨i0, hi, hz0, hz1, hz2⟩ := info_parts info_cmd
  refine wpList_append_own _ hgd s x 23 ho B 34 i0 (.agg #[.int .u8 0, .slice none 0 0]) 2 32 Tryd.underlying23 hi hz0 hz1 hz2 rfl (by decide) v k os hs (hown.alloc _) ⟨w.heap.size, 0, none⟩ 1 1 [.int .u8 c, .slice aa al ac] hx rfl ?_ ?_ ?_ ?_ ?_ ?_
  · intro j u hj
    match j, hj with
    | 0, hj => simp at hj; subst hj; simp [Addr.add]
    | 1, hj =>
      simp at hj; subst hj
      have hn : (w.alloc (.cells #[.int .u8 c, .slice aa al ac] 34)).heap[w.heap.size]? = some (.cells #[.int .u8 c, .slice aa al ac] 34 (0, 0)) := World.alloc_heap_new w _
      show World.cell? _ ⟨w.heap.size, 0 + 1, none⟩ = _
      unfold World.cell?
      rw [hn]; rfl
  · intro u hu; simp at hu; rcases hu with rfl | rfl <;> rfl
  · unfold maxLen; omega
  · omega
  · simp; omega
  · intro v' w' hown' hg _
    refine h v' w' hown' ?_
    exact ⟨hg.os, hg.tape, hg.output, Nat.le_trans (by simp) hg.size, fun k hk hne => (hg.block k (by simp; omega) hne).trans (Below.heap_alloc _ _ _ hk)⟩

theorem boxed_not {W : World} {B R sz k : Nat} {t e : TypeId} {v u : Value} {xs : List Value} (hv : Go.Boxed W B t u) (hrow : W.ownsRow R e sz v k xs) (ht : t ≠ e) : some B ≠ v.ownBlock := by
  intro e2
  obtain ⟨_, _, cur, hc⟩ := own_type hrow B e2.symm
  have hv' : W.heap[B]? = some (.cells #[u] t (0, 0)) := hv
  rw [hv'] at hc
  injection hc with hc
  injection hc with _ hc
  exact ht hc
theorem boxed_grown {W w1 : World} {B : Nat} {t : TypeId} {u : Value} {o : Obj} {row : Option Nat} (hv : Go.Boxed W B t u) (hg : (W.alloc o).grownBy w1 row) (hne : some B ≠ row) : Go.Boxed w1 B t u :=
  (hg.block B (by simp; exact Nat.lt_succ_of_lt hv.lt) hne).trans ((Below.heap_alloc _ _ _ hv.lt).trans hv)
theorem kep_set {W w1 : World} {B : Nat} {o : Obj} {row : Option Nat} (hg : (W.alloc o).grownBy w1 row) (v' : Value) : Kep B row W (w1.setCell ⟨B, 0, none⟩ v') :=
  ⟨hg.os, hg.tape, hg.output, by have := hg.size; simp [World.setCell] at this ⊢; omega, fun q hq hB hr => (Below.heap_setCell _ _ _ _ (by exact hB)).trans ((hg.block q (by simp; exact Nat.lt_succ_of_lt hq) hr).trans (Below.heap_alloc _ _ _ hq))⟩
/-- Parse's collector. -/
theorem collect_any (B R c k al ac : Nat) (aa : Option Addr) (v : Value) (xs : List Value) (W : World) (hv : Go.Boxed W B 23 v) (hrow : W.ownsRow R 34 2 v k xs) (hR : R ≤ W.heap.size) (hk : k ≤ 100000) :
    Calls Tryd.prog 28 #[.agg #[.int .u8 (c : Int), .slice aa al ac], .pointer (some ⟨B, 0, none⟩)] W fun e W' => e = .returned (.bool true) ∧
      ∃ v', Go.Boxed W' B 23 v' ∧ W'.ownsRow R 34 2 v' (k + 1) (xs ++ [.int .u8 (c : Int), .slice aa al ac]) ∧ Kep B v.ownBlock W W' := by
  obtain ⟨a', cap', rfl⟩ := own_shape hrow
  have hc := hv.cell
  have hf := hv.frozen
  have HV := Lib.hid hv
  have HW := Lib.hid hrow
  have hlt := hv.lt
  clear hv hrow
  go_enter Tryd.func28, Tryd.ntmps28
  have HW1 := Lib.hid (own_next HW.out ((Below.refl W.heap.size W).alloc (Nat.le_refl _) (.cells #[.int .u8 (c : Int), .slice aa al ac] 34)))
  have hR1 : R ≤ (W.alloc (.cells #[.int .u8 (c : Int), .slice aa al ac] 34)).heap.size := by simp; omega
  have hne := boxed_not HV.out HW.out (by decide)
  go_wp2_with (first | (at_builtin; refine append_cmd _ rfl (.tmp 4) (.tmp 6) rfl (by simp) _ _ _ _ HW1.out rfl rfl (by omega) hR1 ?_; intro v' w1 hown' hg1; obtain ⟨a2, cap2, rfl⟩ := own_shape hown'; have hv1 := boxed_grown HV.out hg1 hne; have hc1 := hv1.cell; have hf1 := hv1.frozen))
  go_ret
  refine ⟨rfl, _, hv1.set _, ?_, kep_set hg1 _⟩
  exact own_stay hown' fun q hq => Below.heap_setCell _ _ _ _ (fun e => boxed_not hv1 hown' (by decide) (by have e' : q = B := e; rw [← e']; exact hq.symm))

/-- What Parse's collector keeps. -/
def PJ (B : Nat) (w0 : World) (l : List Cmd) (W : World) : Prop := (∃ v, Go.Boxed W B 23 v ∧ Cmds (B + 1) v l W) ∧ Below B w0 W
theorem PJ.abide (s : ByteArray) (B : Nat) (w0 : World) : Abide s (B + 1) (PJ B w0) where
  new := by
    rintro pre W W' ⟨⟨v, hv, hc⟩, hb⟩ t
    exact ⟨⟨v, (t.block B hv.lt).trans hv, hc.next t⟩, hb.trans (t.mono (Nat.le_of_lt hv.lt))⟩
  rdr := by
    rintro pre W W' b k ⟨⟨v, hv, hc⟩, hb⟩ hD hr t
    exact ⟨⟨v, (t.block B hv.lt (by omega)).trans hv, hc.rdr hr t⟩, hb.trans (t.below (by omega) (Nat.le_of_lt hv.lt))⟩
theorem PJ.tell (s : ByteArray) (B : Nat) (w0 : World) (hB : gN ≤ B) (pre : List Cmd) (x : Cmd) (av : Value) (W : World) (h : PJ B w0 pre W) (hl : pre.length ≤ 65536) (hc : x.letter < 256) (hx : W.ownsRow (B + 1) 2 1 av x.args.length (ints x.args)) :
    Calls Tryd.prog 28 #[.agg #[.int .u8 (x.letter : Int), av], .pointer (some ⟨B, 0, none⟩)] W (TellPost s (PJ B w0) (pre ++ [x]) W) := by
  obtain ⟨⟨v, hv, hcm⟩, hb⟩ := h
  obtain ⟨avs, h1, h2, h3⟩ := id hcm
  obtain ⟨a', cap', rfl⟩ := own_shape hx
  refine (collect_any B (B + 1) x.letter pre.length x.args.length cap' a' v (flatC pre avs) W hv h2 (Nat.succ_le_of_lt hv.lt) (by omega)).mono ?_
  rintro e W' ⟨rfl, v', hv', ho', K⟩
  have hbel : Below B W W' := ⟨K.os, K.tape, K.output, K.size, fun q hq => K.block q (Nat.lt_trans hq hv.lt) (Nat.ne_of_lt hq) (fun e => by have := (own_type h2 q e.symm).2.1; omega)⟩
  refine ⟨rfl, ⟨⟨v', hv', ?_⟩, hb.trans hbel⟩, hbel.mono hB, ?_⟩
  · refine ⟨avs ++ [.slice a' x.args.length cap'], by simp [h1], ?_, ?_⟩
    · rw [flatC_snoc _ _ _ _ h1, List.length_append]; exact ho'
    · intro i y a hy ha
      by_cases hi : i < pre.length
      · rw [List.getElem?_append_left hi] at hy
        rw [List.getElem?_append_left (by omega)] at ha
        exact ⟨own_kep (h3 i y a hy ha).1 hv (by decide) h2 (by decide) K, (h3 i y a hy ha).2⟩
      · have hi' : i = pre.length := by
          have := (List.getElem?_eq_some_iff.1 hy).1
          simp at this; omega
        subst hi'
        rw [List.getElem?_append_right (Nat.le_refl _), Nat.sub_self] at hy
        rw [List.getElem?_append_right (by omega), h1, Nat.sub_self] at ha
        obtain rfl : x = y := by simpa using hy
        obtain rfl : Value.slice a' x.args.length cap' = a := by simpa using ha
        exact ⟨own_kep hx hv (by decide) h2 (by decide) K, hc⟩
  · intro b k hr
    unfold Rdr at *
    refine (K.block b (Array.getElem?_eq_some_iff.1 hr).1 (fun e => ?_) (fun e => ?_)).trans hr
    · subst e
      have hv2 : W.heap[b]? = some (.cells #[v] 23 (0, 0)) := hv
      rw [hv2] at hr
      injection hr with hr
      injection hr with _ hr
      exact absurd hr (by decide)
    · obtain ⟨_, _, cur, hc2⟩ := own_type h2 b e.symm
      rw [hc2] at hr
      injection hr with hr
      injection hr with _ hr
      exact absurd hr (by decide)

/-- Parse. -/
def PParsePost (s : ByteArray) (w : World) (e : Ending) (W' : World) : Prop :=
  ∃ v, e = .returned (.tuple #[v, .int .i64 (pathAll (txOf s)).2.1, .int .i64 (pathAll (txOf s)).2.2]) ∧ Cmds w.heap.size v (pathAll (txOf s)).1 W' ∧ Below w.heap.size w W'
theorem Cmds.lower {R R' : Nat} {v : Value} {l : List Cmd} {W : World} (h : Cmds R v l W) (hR : R' ≤ R) : Cmds R' v l W := by
  obtain ⟨avs, h1, h2, h3⟩ := h
  exact ⟨avs, h1, own_lower h2 hR, fun i x av hx ha => ⟨own_lower (h3 i x av hx ha).1 hR, (h3 i x av hx ha).2⟩⟩
theorem Cmds.shape {R : Nat} {v : Value} {l : List Cmd} {W : World} (h : Cmds R v l W) : ∃ a cap, v = .slice a l.length cap := by
  obtain ⟨avs, _, h2, _⟩ := h
  exact own_shape h2
theorem PParse_any (s : ByteArray) (w : World) (hs : s.size ≤ 65536) (T : PTabs w) : Calls Tryd.prog 15 #[.string s] w (PParsePost s w) := by
  have hb := (Below.refl w.heap.size w).alloc (Nat.le_refl _) (.cells #[.slice none 0 0] 23)
  have R := Lib.hid (read_P s w.heap.size (PJ w.heap.size w) (w.alloc (.cells #[.slice none 0 0] 23)) hs (T.next hb)
    (by rw [World.size_alloc]; exact PJ.abide s w.heap.size w)
    (fun pre x av W h _ hl hc hx => by rw [World.size_alloc] at hx; exact PJ.tell s w.heap.size w T.size pre x av W h hl hc hx)
    ⟨⟨_, Go.Boxed.new w _ _, Cmds.nil _ _⟩, hb⟩)
  unfold PParsePost
  generalize pathAll (txOf s) = RES at *
  clear T hs hb
  obtain ⟨l, z, er⟩ := RES
  go_enter Tryd.func15, Tryd.ntmps15
  go_wp2_with fail
  refine R.out.mono ?_
  rintro e w1 ⟨rfl, ⟨v, hv, hc⟩, hbl⟩
  obtain ⟨a', cap', rfl⟩ := hc.shape
  have HC := Lib.hid (hc.lower (Nat.le_succ _))
  have HB := Lib.hid hbl
  have hcell := hv.cell
  clear hc hbl R
  go_wp2_with fail
  go_ret3
  exact ⟨_, rfl, HC.out, HB.out⟩
end Go.Proofs.YtgiibcnakiggaaaDoor
