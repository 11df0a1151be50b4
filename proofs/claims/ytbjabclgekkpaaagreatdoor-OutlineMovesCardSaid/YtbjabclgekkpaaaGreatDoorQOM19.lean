/- Joined: PathMem, NormMem, NormFn, NormAdd. -/
import Derived.Test.YtbjabclgekkpaaaGreatDoorQOM02
import Derived.Test.YtbjabclgekkpaaaGreatDoorQOM18
import Derived.Deep.AppendLies
import Derived.Deep.RegionLaw
namespace Go.Proofs.YtbjabclgekkpaaaGreatDoor
open Go.RowKit Go.Shelf
/-- All blocks but B and o are vs they were. -/
structure Kep (B : Nat) (o : Option Nat) (W W' : World) : Prop where
  os : W'.os = W.os
  tape : W'.tape = W.tape
  output : W'.output = W.output
  size : W.heap.size ≤ W'.heap.size
  block : ∀ q, q < W.heap.size → q ≠ B → some q ≠ o → W'.heap[q]? = W.heap[q]?
theorem own_type {W : World} {R : Nat} {e : TypeId} {sz : Nat} {v : Value} {k : Nat} {xs : List Value} (h : W.ownsRow R e sz v k xs) : ∀ q, v.ownBlock = some q → q < W.heap.size ∧ R ≤ q ∧ ∃ cur, W.heap[q]? = some (.cells cur e (0, 0)) := by
  intro q hq
  rcases h.2 with ⟨rfl, _⟩ | ⟨g, cap, cur, rfl, hb, hg, _⟩
  · simp [Value.ownBlock] at hq
  · obtain rfl : g = q := by simpa [Value.ownBlock] using hq
    exact ⟨(Array.getElem?_eq_some_iff.1 hg).1, hb, cur, hg⟩
/-- A row stays, if its block does. -/
theorem own_stay {W W' : World} {R : Nat} {e : TypeId} {sz : Nat} {v : Value} {k : Nat} {xs : List Value} (h : W.ownsRow R e sz v k xs) (hb : ∀ q, v.ownBlock = some q → W'.heap[q]? = W.heap[q]?) : W'.ownsRow R e sz v k xs := by
  refine ⟨h.1, ?_⟩
  rcases h.2 with h | ⟨g, cap, cur, rfl, hR, hg, h1, h2, h3, h4⟩
  · exact .inl h
  · exact .inr ⟨g, cap, cur, rfl, hR, (hb g rfl).trans hg, h1, h2, h3, h4⟩
theorem own_next {W W' : World} {R : Nat} {e : TypeId} {sz : Nat} {v : Value} {k : Nat} {xs : List Value} (h : W.ownsRow R e sz v k xs) (t : Below W.heap.size W W') : W'.ownsRow R e sz v k xs :=
  own_stay h fun q hq => t.block q (own_type h q hq).1
theorem own_rdr {W W' : World} {R : Nat} {e : TypeId} {sz : Nat} {v : Value} {k : Nat} {xs : List Value} {b j : Nat} {s : ByteArray} (h : W.ownsRow R e sz v k xs) (he : e ≠ 184) (hr : Rdr b s j W) (t : Turned b W W') : W'.ownsRow R e sz v k xs :=
  own_stay h fun q hq => by
    obtain ⟨hlt, _, cur, hc⟩ := own_type h q hq
    refine t.block q hlt fun e2 => he ?_
    subst e2
    unfold Rdr at hr
    rw [hr] at hc
    injection hc with hc
    injection hc with _ hc
    exact hc.symm
theorem own_kep {W W' : World} {R R' : Nat} {e e' t : TypeId} {sz sz' : Nat} {v av : Value} {k k' : Nat} {xs ys : List Value} {B : Nat} (h : W.ownsRow R' e' sz' av k' ys) (hv : Go.Boxed W B t v) (ht : t ≠ e') (hrow : W.ownsRow R e sz v k xs) (he : e ≠ e') (K : Kep B v.ownBlock W W') : W'.ownsRow R' e' sz' av k' ys :=
  own_stay h fun q hq => by
    obtain ⟨hlt, _, cur, hc⟩ := own_type h q hq
    refine K.block q hlt (fun e2 => ht ?_) (fun e2 => he ?_)
    · subst e2
      have hv' : W.heap[q]? = some (.cells #[v] t (0, 0)) := hv
      rw [hv'] at hc
      injection hc with hc
      injection hc with _ hc
    · obtain ⟨_, _, cur2, hc2⟩ := own_type hrow q e2.symm
      rw [hc2] at hc
      injection hc with hc
      injection hc with _ hc
/-- The live cells of commands. -/
def flatC : List Cmd → List Value → List Value
  | x :: l, a :: vs => .int .u8 (x.letter : Int) :: a :: flatC l vs
  | _, _ => []
theorem flatC_snoc (x : Cmd) (a : Value) : ∀ (l : List Cmd) (vs : List Value), vs.length = l.length → flatC (l ++ [x]) (vs ++ [a]) = flatC l vs ++ [.int .u8 (x.letter : Int), a] := by
  intro l
  induction l with
  | nil => intro vs h; cases vs with
    | nil => rfl
    | cons y t => simp at h
  | cons z l ih => intro vs h; cases vs with
    | nil => simp at h
    | cons y t => simp only [List.cons_append, flatC]; rw [ih t (by simpa using h)]
/-- A row of the call's own that holds commands. -/
def Cmds (R : Nat) (v : Value) (l : List Cmd) (W : World) : Prop := ∃ avs : List Value, avs.length = l.length ∧ W.ownsRow R 95 2 v l.length (flatC l avs) ∧
  ∀ (i : Nat) x av, l[i]? = some x → avs[i]? = some av → W.ownsRow R 2 1 av x.args.length (ints x.args) ∧ x.letter < 256
theorem Cmds.nil (R : Nat) (W : World) : Cmds R (.slice none 0 0) [] W := ⟨[], rfl, World.ownsRow_nil _ _ _ _, fun i x av h => by simp at h⟩
theorem Cmds.next {R : Nat} {v : Value} {l : List Cmd} {W W' : World} (h : Cmds R v l W) (t : Below W.heap.size W W') : Cmds R v l W' := by
  obtain ⟨avs, h1, h2, h3⟩ := h
  exact ⟨avs, h1, own_next h2 t, fun i x av hx ha => ⟨own_next (h3 i x av hx ha).1 t, (h3 i x av hx ha).2⟩⟩
theorem Cmds.rdr {R : Nat} {v : Value} {l : List Cmd} {W W' : World} {b j : Nat} {s : ByteArray} (h : Cmds R v l W) (hr : Rdr b s j W) (t : Turned b W W') : Cmds R v l W' := by
  obtain ⟨avs, h1, h2, h3⟩ := h
  exact ⟨avs, h1, own_rdr h2 (by decide) hr t, fun i x av hx ha => ⟨own_rdr (h3 i x av hx ha).1 (by decide) hr t, (h3 i x av hx ha).2⟩⟩
theorem info_cmd : (Tryz.prog.info? 95).map (fun i => (i.zero, i.size, i.bytes)) = some (some (.agg #[.int .u8 0, .slice none 0 0]), 2, 32) := by kernel_rfl
theorem append_cmd {ops : Array Oper} {rest : List Oper} {o : Oper} {a : Act} {Q : Exit → Act → World → Prop} (w : World) (hgd : o.guard = none) (s x : Operand)
    (ho : o.op = .call { callee := .builtin .append, args := #[s, x], argTypes := #[63, 63] }) {B k : Nat} {v : Value} {os : List Value} {n : Nat} (hn : w.heap.size = n) (c : Int) (aa : Option Addr) (al ac : Nat) (hown : w.ownsRow B 95 2 v k os) (hs : a.eval s = v)
    (hx : a.eval x = .slice (some ⟨n, 0, none⟩) 1 1) (hk : k ≤ 1000000000) (hB : B ≤ w.heap.size)
    (h : ∀ v' w', w'.ownsRow B 95 2 v' (k + 1) (os ++ [.int .u8 c, .slice aa al ac]) → w.grownBy w' v.ownBlock → wpList Tryz.prog ops Q rest (a.put o.dst v') w') :
    wpList Tryz.prog ops Q (o :: rest) a (w.alloc (.cells #[.int .u8 c, .slice aa al ac] 95)) := by
  subst hn
  obtain ⟨i0, hi, hz0, hz1, hz2⟩ := info_parts info_cmd
  refine wpList_append_own _ hgd s x 63 ho B 95 i0 (.agg #[.int .u8 0, .slice none 0 0]) 2 32 Tryz.underlying63 hi hz0 hz1 hz2 rfl (by decide) v k os hs (hown.alloc _) ⟨w.heap.size, 0, none⟩ 1 1 [.int .u8 c, .slice aa al ac] hx rfl ?_ ?_ ?_ ?_ ?_ ?_
  · intro j u hj
    match j, hj with
    | 0, hj => simp at hj; subst hj; simp [Addr.add]
    | 1, hj =>
      simp at hj; subst hj
      have hn : (w.alloc (.cells #[.int .u8 c, .slice aa al ac] 95)).heap[w.heap.size]? = some (.cells #[.int .u8 c, .slice aa al ac] 95 (0, 0)) := World.alloc_heap_new w _
      show World.cell? _ ⟨w.heap.size, 0 + 1, none⟩ = _
      unfold World.cell?
      rw [hn]; rfl
  · intro u hu; simp at hu; rcases hu with rfl | rfl <;> rfl
  · unfold maxLen; omega
  · omega
  · simp; omega
  · intro v' w' hown' hg _
    refine h v' w' hown' ?_
    exact ⟨hg.os, hg.tape, hg.output, Nat.le_trans (by simp) hg.size, fun k hk hne => (hg.block k (by simp; omega) hne).trans (Below.heap_alloc _ _ _ hk)⟩
theorem boxed_not {W : World} {B R sz k : Nat} {t e : TypeId} {v u : Value} {xs : List Value} (hv : Go.Boxed W B t u) (hrow : W.ownsRow R e sz v k xs) (ht : t ≠ e) : some B ≠ v.ownBlock := by
  intro e2
  obtain ⟨_, _, cur, hc⟩ := own_type hrow B e2.symm
  have hv' : W.heap[B]? = some (.cells #[u] t (0, 0)) := hv
  rw [hv'] at hc
  injection hc with hc
  injection hc with _ hc
  exact ht hc
theorem boxed_grown {W w1 : World} {B : Nat} {t : TypeId} {u : Value} {o : Obj} {row : Option Nat} (hv : Go.Boxed W B t u) (hg : (W.alloc o).grownBy w1 row) (hne : some B ≠ row) : Go.Boxed w1 B t u :=
  (hg.block B (by simp; exact Nat.lt_succ_of_lt hv.lt) hne).trans ((Below.heap_alloc _ _ _ hv.lt).trans hv)
theorem kep_set {W w1 : World} {B : Nat} {o : Obj} {row : Option Nat} (hg : (W.alloc o).grownBy w1 row) (v' : Value) : Kep B row W (w1.setCell ⟨B, 0, none⟩ v') :=
  ⟨hg.os, hg.tape, hg.output, by have := hg.size; simp [World.setCell] at this ⊢; omega, fun q hq hB hr => (Below.heap_setCell _ _ _ _ (by exact hB)).trans ((hg.block q (by simp; exact Nat.lt_succ_of_lt hq) hr).trans (Below.heap_alloc _ _ _ hq))⟩
/-- Parse's collector. -/
theorem collect_any (B R c k al ac : Nat) (aa : Option Addr) (v : Value) (xs : List Value) (W : World) (hv : Go.Boxed W B 63 v) (hrow : W.ownsRow R 95 2 v k xs) (hR : R ≤ W.heap.size) (hk : k ≤ 100000) :
    Calls Tryz.prog 48 #[.agg #[.int .u8 (c : Int), .slice aa al ac], .pointer (some ⟨B, 0, none⟩)] W fun e W' => e = .returned (.bool true) ∧
      ∃ v', Go.Boxed W' B 63 v' ∧ W'.ownsRow R 95 2 v' (k + 1) (xs ++ [.int .u8 (c : Int), .slice aa al ac]) ∧ Kep B v.ownBlock W W' := by
  obtain ⟨a', cap', rfl⟩ := own_shape hrow
  have hc := hv.cell
  have hf := hv.frozen
  have HV := Lib.hid hv
  have HW := Lib.hid hrow
  have hlt := hv.lt
  clear hv hrow
  go_enter Tryz.func48, Tryz.ntmps48
  have HW1 := Lib.hid (own_next HW.out ((Below.refl W.heap.size W).alloc (Nat.le_refl _) (.cells #[.int .u8 (c : Int), .slice aa al ac] 95)))
  have hR1 : R ≤ (W.alloc (.cells #[.int .u8 (c : Int), .slice aa al ac] 95)).heap.size := by simp; omega
  have hne := boxed_not HV.out HW.out (by decide)
  go_wp2_with (first | (at_builtin; refine append_cmd _ rfl (.tmp 4) (.tmp 6) rfl (by simp) _ _ _ _ HW1.out rfl rfl (by omega) hR1 ?_; intro v' w1 hown' hg1; obtain ⟨a2, cap2, rfl⟩ := own_shape hown'; have hv1 := boxed_grown HV.out hg1 hne; have hc1 := hv1.cell; have hf1 := hv1.frozen))
  go_ret
  refine ⟨rfl, _, hv1.set _, ?_, kep_set hg1 _⟩
  exact own_stay hown' fun q hq => Below.heap_setCell _ _ _ _ (fun e => boxed_not hv1 hown' (by decide) (by have e' : q = B := e; rw [← e']; exact hq.symm))
/-- What Parse's collector keeps. -/
def PJ (B : Nat) (w0 : World) (l : List Cmd) (W : World) : Prop := (∃ v, Go.Boxed W B 63 v ∧ Cmds (B + 1) v l W) ∧ Below B w0 W
theorem PJ.abide (s : ByteArray) (B : Nat) (w0 : World) : Abide s (B + 1) (PJ B w0) where
  new := by
    rintro pre W W' ⟨⟨v, hv, hc⟩, hb⟩ t
    exact ⟨⟨v, (t.block B hv.lt).trans hv, hc.next t⟩, hb.trans (t.mono (Nat.le_of_lt hv.lt))⟩
  rdr := by
    rintro pre W W' b k ⟨⟨v, hv, hc⟩, hb⟩ hD hr t
    exact ⟨⟨v, (t.block B hv.lt (by omega)).trans hv, hc.rdr hr t⟩, hb.trans (t.below (by omega) (Nat.le_of_lt hv.lt))⟩
theorem PJ.tell (s : ByteArray) (B : Nat) (w0 : World) (hB : gN ≤ B) (pre : List Cmd) (x : Cmd) (av : Value) (W : World) (h : PJ B w0 pre W) (hl : pre.length ≤ 65536) (hc : x.letter < 256) (hx : W.ownsRow (B + 1) 2 1 av x.args.length (ints x.args)) :
    Calls Tryz.prog 48 #[.agg #[.int .u8 (x.letter : Int), av], .pointer (some ⟨B, 0, none⟩)] W (TellPost s (PJ B w0) (pre ++ [x]) W) := by
  obtain ⟨⟨v, hv, hcm⟩, hb⟩ := h
  obtain ⟨avs, h1, h2, h3⟩ := id hcm
  obtain ⟨a', cap', rfl⟩ := own_shape hx
  refine (collect_any B (B + 1) x.letter pre.length x.args.length cap' a' v (flatC pre avs) W hv h2 (Nat.succ_le_of_lt hv.lt) (by omega)).mono ?_
  rintro e W' ⟨rfl, v', hv', ho', K⟩
  have hbel : Below B W W' := ⟨K.os, K.tape, K.output, K.size, fun q hq => K.block q (Nat.lt_trans hq hv.lt) (Nat.ne_of_lt hq) (fun e => by have := (own_type h2 q e.symm).2.1; omega)⟩
  refine ⟨rfl, ⟨⟨v', hv', ?_⟩, hb.trans hbel⟩, hbel.mono hB, ?_⟩
  · refine ⟨avs ++ [.slice a' x.args.length cap'], by simp [h1], ?_, ?_⟩
    · rw [flatC_snoc _ _ _ _ h1, List.length_append]; exact ho'
    · intro i y a hy ha
      by_cases hi : i < pre.length
      · rw [List.getElem?_append_left hi] at hy
        rw [List.getElem?_append_left (by omega)] at ha
        exact ⟨own_kep (h3 i y a hy ha).1 hv (by decide) h2 (by decide) K, (h3 i y a hy ha).2⟩
      · have hi' : i = pre.length := by
          have := (List.getElem?_eq_some_iff.1 hy).1
          simp at this; omega
        subst hi'
        rw [List.getElem?_append_right (Nat.le_refl _), Nat.sub_self] at hy
        rw [List.getElem?_append_right (by omega), h1, Nat.sub_self] at ha
        obtain rfl : x = y := by simpa using hy
        obtain rfl : Value.slice a' x.args.length cap' = a := by simpa using ha
        exact ⟨own_kep hx hv (by decide) h2 (by decide) K, hc⟩
  · intro b k hr
    unfold Rdr at *
    refine (K.block b (Array.getElem?_eq_some_iff.1 hr).1 (fun e => ?_) (fun e => ?_)).trans hr
    · subst e
      have hv2 : W.heap[b]? = some (.cells #[v] 63 (0, 0)) := hv
      rw [hv2] at hr
      injection hr with hr
      injection hr with _ hr
      exact absurd hr (by decide)
    · obtain ⟨_, _, cur, hc2⟩ := own_type h2 b e.symm
      rw [hc2] at hr
      injection hr with hr
      injection hr with _ hr
      exact absurd hr (by decide)
/-- Parse. -/
def PParsePost (s : ByteArray) (w : World) (e : Ending) (W' : World) : Prop :=
  ∃ v, e = .returned (.tuple #[v, .int .i64 (pathAll (txOf s)).2.1, .int .i64 (pathAll (txOf s)).2.2]) ∧ Cmds w.heap.size v (pathAll (txOf s)).1 W' ∧ Below w.heap.size w W'
theorem Cmds.lower {R R' : Nat} {v : Value} {l : List Cmd} {W : World} (h : Cmds R v l W) (hR : R' ≤ R) : Cmds R' v l W := by
  obtain ⟨avs, h1, h2, h3⟩ := h
  exact ⟨avs, h1, own_lower h2 hR, fun i x av hx ha => ⟨own_lower (h3 i x av hx ha).1 hR, (h3 i x av hx ha).2⟩⟩
theorem Cmds.shape {R : Nat} {v : Value} {l : List Cmd} {W : World} (h : Cmds R v l W) : ∃ a cap, v = .slice a l.length cap := by
  obtain ⟨avs, _, h2, _⟩ := h
  exact own_shape h2
theorem PParse_any (s : ByteArray) (w : World) (hs : s.size ≤ 65536) (T : PTabs w) : Calls Tryz.prog 22 #[.string s] w (PParsePost s w) := by
  have hb := (Below.refl w.heap.size w).alloc (Nat.le_refl _) (.cells #[.slice none 0 0] 63)
  have R := Lib.hid (read_P s w.heap.size (PJ w.heap.size w) (w.alloc (.cells #[.slice none 0 0] 63)) hs (T.next hb)
    (by rw [World.size_alloc]; exact PJ.abide s w.heap.size w)
    (fun pre x av W h _ hl hc hx => by rw [World.size_alloc] at hx; exact PJ.tell s w.heap.size w T.size pre x av W h hl hc hx)
    ⟨⟨_, Go.Boxed.new w _ _, Cmds.nil _ _⟩, hb⟩)
  unfold PParsePost
  generalize pathAll (txOf s) = RES at *
  clear T hs hb
  obtain ⟨l, z, er⟩ := RES
  go_enter Tryz.func22, Tryz.ntmps22
  go_wp2_with fail
  refine R.out.mono ?_
  rintro e w1 ⟨rfl, ⟨v, hv, hc⟩, hbl⟩
  obtain ⟨a', cap', rfl⟩ := hc.shape
  have HC := Lib.hid (hc.lower (Nat.le_succ _))
  have HB := Lib.hid hbl
  have hcell := hv.cell
  clear hc hbl R
  go_wp2_with fail
  go_ret3
  exact ⟨_, rfl, HC.out, HB.out⟩
end Go.Proofs.YtbjabclgekkpaaaGreatDoor
namespace Go.Proofs.YtbjabclgekkpaaaGreatDoor
open Go.RowKit Go.Shelf
def Seg.cells (g : Seg) : List Value := [.int .i64 g.kind, .int .i64 g.tx, .int .i64 g.ty, .int .i64 g.ax, .int .i64 g.ay, .int .i64 g.cx, .int .i64 g.cy, .int .i64 g.rx, .int .i64 g.ry, .int .i64 g.turn, .bool g.lg, .bool g.sw]
def Seg.val (g : Seg) : Value := .agg #[.int .i64 g.kind, .int .i64 g.tx, .int .i64 g.ty, .int .i64 g.ax, .int .i64 g.ay, .int .i64 g.cx, .int .i64 g.cy, .int .i64 g.rx, .int .i64 g.ry, .int .i64 g.turn, .bool g.lg, .bool g.sw]
def ptV (x y : Int) : Value := .agg #[.int .i64 x, .int .i64 y]
def flatS : List Seg → List Value
  | [] => []
  | g :: t => g.cells ++ flatS t
theorem flatS_append (a b : List Seg) : flatS (a ++ b) = flatS a ++ flatS b := by
  induction a with
  | nil => rfl
  | cons g t ih => simp only [List.cons_append, flatS]; rw [ih, List.append_assoc]
theorem flatS_snoc (a : List Seg) (g : Seg) : flatS (a ++ [g]) = flatS a ++ g.cells := by rw [flatS_append]; simp [flatS]
theorem flatS_at (l : List Seg) : ∀ (i : Nat) (g : Seg), l[i]? = some g → ∀ j, j < 12 → (flatS l)[i * 12 + j]? = g.cells[j]? := by
  induction l with
  | nil => intro i g h; simp at h
  | cons x t ih =>
    intro i g h j hj
    have hx : x.cells.length = 12 := rfl
    cases i with
    | zero =>
      obtain rfl : x = g := by simpa using h
      simp only [flatS]
      rw [List.getElem?_append_left (by rw [hx]; omega)]
      rw [Nat.zero_mul, Nat.zero_add]
    | succ i =>
      simp only [flatS]
      rw [List.getElem?_append_right (by rw [hx]; omega), hx, show (i + 1) * 12 + j - 12 = i * 12 + j from by omega]
      exact ih i g (by simpa using h) j hj
/-- Block q is the state. -/
def StAt (q : Nat) (v : Value) (s : NS) (w : World) : Prop := w.heap[q]? = some (.cells #[v, .int .i64 s.px, .int .i64 s.py, .int .i64 s.qx, .int .i64 s.qy, .bool s.op, .int .i64 s.ox, .int .i64 s.oy] 107)
theorem StAt.c0 {q : Nat} {v : Value} {s : NS} {w : World} (h : StAt q v s w) : w.cell? ⟨q, 0, none⟩ = some v := by unfold StAt at h; simp [World.cell?, h]
theorem StAt.c1 {q : Nat} {v : Value} {s : NS} {w : World} (h : StAt q v s w) : w.cell? ⟨q, 1, none⟩ = some (.int .i64 s.px) := by unfold StAt at h; simp [World.cell?, h]
theorem StAt.c2 {q : Nat} {v : Value} {s : NS} {w : World} (h : StAt q v s w) : w.cell? ⟨q, 2, none⟩ = some (.int .i64 s.py) := by unfold StAt at h; simp [World.cell?, h]
theorem StAt.c3 {q : Nat} {v : Value} {s : NS} {w : World} (h : StAt q v s w) : w.cell? ⟨q, 3, none⟩ = some (.int .i64 s.qx) := by unfold StAt at h; simp [World.cell?, h]
theorem StAt.c4 {q : Nat} {v : Value} {s : NS} {w : World} (h : StAt q v s w) : w.cell? ⟨q, 4, none⟩ = some (.int .i64 s.qy) := by unfold StAt at h; simp [World.cell?, h]
theorem StAt.c5 {q : Nat} {v : Value} {s : NS} {w : World} (h : StAt q v s w) : w.cell? ⟨q, 5, none⟩ = some (.bool s.op) := by unfold StAt at h; simp [World.cell?, h]
theorem StAt.c6 {q : Nat} {v : Value} {s : NS} {w : World} (h : StAt q v s w) : w.cell? ⟨q, 6, none⟩ = some (.int .i64 s.ox) := by unfold StAt at h; simp [World.cell?, h]
theorem StAt.c7 {q : Nat} {v : Value} {s : NS} {w : World} (h : StAt q v s w) : w.cell? ⟨q, 7, none⟩ = some (.int .i64 s.oy) := by unfold StAt at h; simp [World.cell?, h]
theorem StAt.z {q : Nat} {v : Value} {s : NS} {w : World} (h : StAt q v s w) (o : Nat) : w.frozen? ⟨q, o, none⟩ = false := by unfold StAt at h; simp [World.frozen?, h]
theorem StAt.lt {q : Nat} {v : Value} {s : NS} {w : World} (h : StAt q v s w) : q < w.heap.size := by
  unfold StAt at h; exact (Array.getElem?_eq_some_iff.1 h).1
theorem StAt.next {q : Nat} {v : Value} {s : NS} {w w' : World} (h : StAt q v s w) (t : Below w.heap.size w w') : StAt q v s w' := by
  have := h.lt
  unfold StAt at *; rw [t.block q this]; exact h
/-- A row of segments of the call's own. -/
def Segs (R : Nat) (v : Value) (l : List Seg) (w : World) : Prop := w.ownsRow R 51 12 v l.length (flatS l)
theorem Segs.nil (R : Nat) (w : World) : Segs R (.slice none 0 0) [] w := World.ownsRow_nil _ _ _ _
theorem Segs.shape {R : Nat} {v : Value} {l : List Seg} {w : World} (h : Segs R v l w) : ∃ a cap, v = .slice a l.length cap := own_shape h
theorem Segs.next {R : Nat} {v : Value} {l : List Seg} {w w' : World} (h : Segs R v l w) (t : Below w.heap.size w w') : Segs R v l w' := own_next h t
theorem StAt.not_own {q R : Nat} {v u : Value} {s : NS} {l : List Seg} {w : World} (h : StAt q v s w) (hr : Segs R u l w) : some q ≠ u.ownBlock := by
  intro e2
  obtain ⟨_, _, cur, hc⟩ := own_type hr q e2.symm
  unfold StAt at h
  rw [h] at hc
  injection hc with hc
  injection hc with _ hc
  exact absurd hc (by decide)
theorem StAt.grown {q : Nat} {v : Value} {s : NS} {w w' : World} {row : Option Nat} (h : StAt q v s w) (hg : w.grownBy w' row) (hn : some q ≠ row) : StAt q v s w' := by
  have hl := h.lt
  unfold StAt at *; rw [hg.block q hl hn]; exact h
theorem StAt.set0 {q : Nat} {v : Value} {s : NS} {w : World} (h : StAt q v s w) (v' : Value) (s' : NS) (h1 : s'.px = s.px) (h2 : s'.py = s.py) (h3 : s'.qx = s.qx) (h4 : s'.qy = s.qy) (h5 : s'.op = s.op) (h6 : s'.ox = s.ox) (h7 : s'.oy = s.oy) : StAt q v' s' (w.setCell ⟨q, 0, none⟩ v') := by
  unfold StAt at *
  simp only [World.setCell, Array.getElem?_modify, h, h1, h2, h3, h4, h5, h6, h7]
  simp
theorem Segs.set {q R : Nat} {u : Value} {l : List Seg} {w : World} (hr : Segs R u l w) (hn : some q ≠ u.ownBlock) (o : Nat) (v : Value) : Segs R u l (w.setCell ⟨q, o, none⟩ v) :=
  own_stay hr fun k hk => Below.heap_setCell _ _ _ _ (by intro e; have e' : k = q := e; rw [← e'] at hn; exact hn hk.symm)
theorem StAt.drew {q : Nat} {v : Value} {s : NS} {w : World} (h : StAt q v s w) : StAt q v s w.drew := h
theorem Segs.drew {R : Nat} {u : Value} {l : List Seg} {w : World} (hr : Segs R u l w) : Segs R u l w.drew := own_stay hr fun _ _ => rfl
/-- A segment lies at a place. -/
structure SegAt (b o : Nat) (g : Seg) (w : World) : Prop where
  c0 : w.cell? ⟨b, o, none⟩ = some (.int .i64 g.kind)
  c1 : w.cell? ⟨b, o + 1, none⟩ = some (.int .i64 g.tx)
  c2 : w.cell? ⟨b, o + 2, none⟩ = some (.int .i64 g.ty)
  c3 : w.cell? ⟨b, o + 3, none⟩ = some (.int .i64 g.ax)
  c4 : w.cell? ⟨b, o + 4, none⟩ = some (.int .i64 g.ay)
  c5 : w.cell? ⟨b, o + 5, none⟩ = some (.int .i64 g.cx)
  c6 : w.cell? ⟨b, o + 6, none⟩ = some (.int .i64 g.cy)
  c7 : w.cell? ⟨b, o + 7, none⟩ = some (.int .i64 g.rx)
  c8 : w.cell? ⟨b, o + 8, none⟩ = some (.int .i64 g.ry)
  c9 : w.cell? ⟨b, o + 9, none⟩ = some (.int .i64 g.turn)
  c10 : w.cell? ⟨b, o + 10, none⟩ = some (.bool g.lg)
  c11 : w.cell? ⟨b, o + 11, none⟩ = some (.bool g.sw)
theorem SegAt.below {b o : Nat} {g : Seg} {w w' : World} (h : SegAt b o g w) (t : Below w.heap.size w w') (hb : b < w.heap.size) : SegAt b o g w' :=
  ⟨(t.cell (p := ⟨b, o, none⟩) hb).trans h.c0, (t.cell (p := ⟨b, o + 1, none⟩) hb).trans h.c1, (t.cell (p := ⟨b, o + 2, none⟩) hb).trans h.c2, (t.cell (p := ⟨b, o + 3, none⟩) hb).trans h.c3, (t.cell (p := ⟨b, o + 4, none⟩) hb).trans h.c4, (t.cell (p := ⟨b, o + 5, none⟩) hb).trans h.c5, (t.cell (p := ⟨b, o + 6, none⟩) hb).trans h.c6, (t.cell (p := ⟨b, o + 7, none⟩) hb).trans h.c7, (t.cell (p := ⟨b, o + 8, none⟩) hb).trans h.c8, (t.cell (p := ⟨b, o + 9, none⟩) hb).trans h.c9, (t.cell (p := ⟨b, o + 10, none⟩) hb).trans h.c10, (t.cell (p := ⟨b, o + 11, none⟩) hb).trans h.c11⟩
/-- The live cells of a slice of segments. -/
def RdS (a : Option Addr) (l : List Seg) (w : World) : Prop :=
  l = [] ∨ ∃ b off : Nat, a = some ⟨b, off, none⟩ ∧ b < w.heap.size ∧ ∀ i, i < l.length → SegAt b (off + i * 12) (l.getD i zeroS) w
theorem RdS.next {a : Option Addr} {l : List Seg} {w w' : World} (h : RdS a l w) (t : Below w.heap.size w w') : RdS a l w' := by
  rcases h with h | ⟨b, off, ha, hlt, hc⟩
  · exact .inl h
  · exact .inr ⟨b, off, ha, Nat.lt_of_lt_of_le hlt t.size, fun i hi => (hc i hi).below t hlt⟩
theorem RdS.pos {a : Option Addr} {l : List Seg} {w : World} (h : RdS a l w) (hl : 0 < l.length) : ∃ b off : Nat, a = some ⟨b, off, none⟩ ∧ b < w.heap.size ∧ ∀ i, i < l.length → SegAt b (off + i * 12) (l.getD i zeroS) w := by
  rcases h with rfl | h
  · exact absurd hl (by decide)
  · exact h
theorem RdS.take {a : Option Addr} {l : List Seg} {w : World} (h : RdS a l w) (n : Nat) : RdS a (l.take n) w := by
  rcases h with rfl | ⟨b, off, ha, hlt, hc⟩
  · exact .inl (by simp)
  · refine .inr ⟨b, off, ha, hlt, fun i hi => ?_⟩
    rw [List.length_take] at hi
    have e : (l.take n).getD i zeroS = l.getD i zeroS := by
      have : (l.take n)[i]? = l[i]? := by rw [List.getElem?_take, if_pos (by omega)]
      simp [List.getD, this]
    rw [e]; exact hc i (by omega)
theorem own_cell7 {W : World} {R : Nat} {e : TypeId} {sz k : Nat} {b off : Nat} {len cap : Nat} {xs : List Value} (h : W.ownsRow R e sz (.slice (some ⟨b, off, none⟩) len cap) k xs) {i : Nat} {u : Value} (hi : xs[i]? = some u) : W.cell? ⟨b, off + i, none⟩ = some u := by
  rcases h.2 with ⟨h0, _⟩ | ⟨g, cap', cur, hv, hR, hg, h1, h2, h3, h4⟩
  · cases h0
  · cases hv
    rw [Nat.zero_add]
    unfold World.cell?
    rw [hg]
    show cur[i]? = some u
    rw [← h4] at hi
    have := (List.getElem?_eq_some_iff.1 hi).1
    rw [List.length_take] at this
    rw [List.getElem?_take, if_pos (by omega)] at hi
    simpa using hi
/-- A row of the call's own is read. -/
theorem Segs.reads {R : Nat} {v : Value} {l : List Seg} {w : World} (h : Segs R v l w) : ∃ a cap, v = .slice a l.length cap ∧ RdS a l w ∧ l.length ≤ cap := by
  obtain ⟨a, cap, rfl⟩ := h.shape
  have hcap : l.length ≤ cap := by
    rcases h.2 with ⟨_, h3⟩ | ⟨g, cap', cur, hv, hR, hg, h1, _⟩
    · omega
    · cases hv; exact h1
  refine ⟨a, cap, rfl, ?_, hcap⟩
  by_cases hz : l = []
  · exact .inl hz
  · have hpos : 0 < l.length := List.length_pos_iff.2 hz
    obtain ⟨b, off, rfl, hb⟩ : ∃ b off, a = some ⟨b, off, none⟩ ∧ b < w.heap.size := by
      rcases h.2 with ⟨_, h0⟩ | ⟨g, cap', cur, hv, hR, hg, _⟩
      · omega
      · cases hv; exact ⟨g, 0, rfl, (Array.getElem?_eq_some_iff.1 hg).1⟩
    refine .inr ⟨b, off, rfl, hb, fun i hi => ?_⟩
    have hx : l[i]? = some (l.getD i zeroS) := by simp [List.getD, List.getElem?_eq_getElem hi]
    have A := fun j hj => flatS_at l i _ hx j hj
    have C := fun j (hj : j < 12) u (hu : (l.getD i zeroS).cells[j]? = some u) => own_cell7 h ((A j hj).trans hu)
    exact ⟨C 0 (by decide) _ rfl, C 1 (by decide) _ rfl, C 2 (by decide) _ rfl, C 3 (by decide) _ rfl, C 4 (by decide) _ rfl, C 5 (by decide) _ rfl, C 6 (by decide) _ rfl, C 7 (by decide) _ rfl, C 8 (by decide) _ rfl, C 9 (by decide) _ rfl, C 10 (by decide) _ rfl, C 11 (by decide) _ rfl⟩
/-- What a call leaves that writes the state and its row alone: rows of segments above the state may turn, nothing else. -/
structure KepS (q : Nat) (W W' : World) : Prop where
  os : W'.os = W.os
  tape : W'.tape = W.tape
  output : W'.output = W.output
  size : W.heap.size ≤ W'.heap.size
  block : ∀ k, k < W.heap.size → k ≠ q → (k < q ∨ ∀ cur, W.heap[k]? ≠ some (.cells cur 51 (0, 0))) → W'.heap[k]? = W.heap[k]?
theorem KepS.refl (q : Nat) (W : World) : KepS q W W := ⟨rfl, rfl, rfl, Nat.le_refl _, fun _ _ _ _ => rfl⟩
theorem KepS.trans {q : Nat} {U V W : World} (h : KepS q U V) (k : KepS q V W) : KepS q U W where
  os := k.os.trans h.os
  tape := k.tape.trans h.tape
  output := k.output.trans h.output
  size := Nat.le_trans h.size k.size
  block := fun i hi hq ho => by
    have e := h.block i hi hq ho
    refine (k.block i (Nat.lt_of_lt_of_le hi h.size) hq ?_).trans e
    rcases ho with ho | ho
    · exact Or.inl ho
    · exact Or.inr fun cur => by rw [e]; exact ho cur
theorem KepS.of_below {q : Nat} {W W' : World} (t : Below W.heap.size W W') : KepS q W W' := ⟨t.os, t.tape, t.output, t.size, fun k hk _ _ => t.block k hk⟩
theorem KepS.of_kep {q R : Nat} {v : Value} {l : List Seg} {W W' : World} (K : Kep q v.ownBlock W W') (hr : Segs R v l W) (hR : q < R) : KepS q W W' :=
  ⟨K.os, K.tape, K.output, K.size, fun k hk hq ho => K.block k hk hq fun e => by
    obtain ⟨_, hb, cur, hc⟩ := own_type hr k e.symm
    rcases ho with ho | ho
    · omega
    · exact ho cur hc⟩
theorem KepS.below {q : Nat} {W W' : World} (t : KepS q W W') (hq : q ≤ W.heap.size) : Below q W W' :=
  ⟨t.os, t.tape, t.output, t.size, fun k hk => t.block k (by omega) (by omega) (Or.inl hk)⟩
theorem KepS.keeps {q k : Nat} {W W' : World} {c : Array Value} {t : TypeId} (h : KepS q W W') (hc : W.heap[k]? = some (.cells c t (0, 0))) (ht : t ≠ 51) (hq : k ≠ q) : W'.heap[k]? = some (.cells c t (0, 0)) := by
  have hlt : k < W.heap.size := (Array.getElem?_eq_some_iff.1 hc).1
  rw [h.block k hlt hq (Or.inr fun cur e => by rw [hc] at e; injection e with e; injection e with _ e; exact ht e)]; exact hc
theorem Kep.set {q : Nat} {o : Option Nat} {W W' : World} (h : Kep q o W W') (i : Nat) (v : Value) : Kep q o W (W'.setCell ⟨q, i, none⟩ v) :=
  ⟨h.os, h.tape, h.output, by have := h.size; simpa [World.setCell] using this, fun k hk hq ho => (Below.heap_setCell _ _ _ _ (by exact hq)).trans (h.block k hk hq ho)⟩
theorem Kep.drew {q : Nat} {o : Option Nat} {W W' : World} (h : Kep q o W W') : Kep q o W W'.drew := ⟨h.os, h.tape, h.output, h.size, h.block⟩
theorem Kep.grown {q : Nat} {row : Option Nat} {U W W' : World} (h : Below U.heap.size U W) (hg : W.grownBy W' row) : Kep q row U W' :=
  ⟨hg.os.trans h.os, hg.tape.trans h.tape, hg.output.trans h.output, Nat.le_trans h.size hg.size, fun k hk _ ho => (hg.block k (Nat.lt_of_lt_of_le hk h.size) ho).trans (h.block k hk)⟩
theorem StAt.sets {q : Nat} {v : Value} {s s' : NS} {w : World} (h : StAt q v s w) (h6 : s'.ox = s.ox) (h7 : s'.oy = s.oy) :
    StAt q v s' (((((w.setCell ⟨q, 1, none⟩ (.int .i64 s'.px)).setCell ⟨q, 2, none⟩ (.int .i64 s'.py)).setCell ⟨q, 3, none⟩ (.int .i64 s'.qx)).setCell ⟨q, 4, none⟩ (.int .i64 s'.qy)).setCell ⟨q, 5, none⟩ (.bool s'.op)) := by
  unfold StAt at *
  simp only [World.setCell, Array.getElem?_modify, h, h6, h7]
  simp
theorem StAt.sets2 {q : Nat} {v : Value} {s s' : NS} {w : World} (h : StAt q v s w) (h3 : s'.qx = s.qx) (h4 : s'.qy = s.qy) (h5 : s'.op = s.op) (h6 : s'.ox = s.ox) (h7 : s'.oy = s.oy) :
    StAt q v s' ((w.setCell ⟨q, 1, none⟩ (.int .i64 s'.px)).setCell ⟨q, 2, none⟩ (.int .i64 s'.py)) := by
  unfold StAt at *
  simp only [World.setCell, Array.getElem?_modify, h, h3, h4, h5, h6, h7]
  simp
theorem StAt.set5 {q : Nat} {v : Value} {s s' : NS} {w : World} (h : StAt q v s w) (h1 : s'.px = s.px) (h2 : s'.py = s.py) (h3 : s'.qx = s.qx) (h4 : s'.qy = s.qy) (h6 : s'.ox = s.ox) (h7 : s'.oy = s.oy) : StAt q v s' (w.setCell ⟨q, 5, none⟩ (.bool s'.op)) := by
  unfold StAt at *
  simp only [World.setCell, Array.getElem?_modify, h, h1, h2, h3, h4, h6, h7]
  simp
theorem info_seg : (Tryz.prog.info? 51).map (fun i => (i.zero, i.size, i.bytes)) = some (some (.agg #[.int .i64 0, .int .i64 0, .int .i64 0, .int .i64 0, .int .i64 0, .int .i64 0, .int .i64 0, .int .i64 0, .int .i64 0, .int .i64 0, .bool false, .bool false]), 12, 88) := by kernel_rfl
/-- One more segment is appended, at a step of a region that draws. -/
theorem step_seg {ops : Array Oper} {o : Oper} {a : Act} {K : Act → World → Prop} {Q : Exit → Act → World → Prop} {E : Prop} {W : World} (hgd : o.guard = none) (s x : Operand)
    (ho : o.op = .call { callee := .builtin .append, args := #[s, x], argTypes := #[24, 24] }) {B N : Nat} {v : Value} {l : List Seg} (g : Seg) (hown : Segs B v l W) (hs : a.eval s = v)
    (hN : W.heap[N]? = some (.cells g.cells.toArray 51)) (hx : a.eval x = .slice (some ⟨N, 0, none⟩) 1 1) (hk : l.length ≤ 100000000) (hB : B ≤ W.heap.size) (H : Nat) (hH : W.heap.size = H)
    (h : ∀ b cap w', Segs B (.slice (some ⟨b, 0, none⟩) (l.length + 1) cap) (l ++ [g]) w' → W.grownBy w' v.ownBlock → (v.ownBlock = some b ∨ b = H) → b < w'.heap.size → K (a.put o.dst (.slice (some ⟨b, 0, none⟩) (l.length + 1) cap)) w') :
    if Region.wanted o (yielded ops a.tmps) = true then Oper.wp Tryz.prog o a W K Q else E := by
  obtain ⟨i0, hi, hz0, hz1, hz2⟩ := info_parts info_seg
  refine step_append_lies W hgd s x 24 ho B 51 i0 _ 12 88 Tryz.underlying24 hi hz0 hz1 hz2 rfl (by decide) v l.length (flatS l) hs hown ⟨N, 0, none⟩ 1 1 g.cells hx rfl (World.news_of_block hN) ?_ (by decide) (by unfold maxLen; omega) (by omega) hB H hH ?_
  · intro u hu; simp [Seg.cells] at hu; rcases hu with rfl | rfl | rfl | rfl | rfl | rfl | rfl | rfl | rfl | rfl | rfl | rfl <;> rfl
  · intro b cap w' hown' hg hv hlt
    refine h b cap w' ?_ hg hv hlt
    unfold Segs; rw [flatS_snoc, List.length_append]; exact hown'
end Go.Proofs.YtbjabclgekkpaaaGreatDoor
namespace Go.Proofs.YtbjabclgekkpaaaGreatDoor
open Go.RowKit Go.Shelf
/-- A point's two cells, new. -/
def PtAt (n : Nat) (x y : Int) (w : World) : Prop := w.heap[n]? = some (.cells #[.int .i64 x, .int .i64 y] 40)
theorem PtAt.new (w : World) (x y : Int) : PtAt w.heap.size x y (w.alloc (.cells #[.int .i64 x, .int .i64 y] 40)) := World.alloc_heap_new w _
theorem PtAt.c0 {n : Nat} {x y : Int} {w : World} (h : PtAt n x y w) : w.cell? ⟨n, 0, none⟩ = some (.int .i64 x) := by unfold PtAt at h; simp [World.cell?, h]
theorem PtAt.c1 {n : Nat} {x y : Int} {w : World} (h : PtAt n x y w) : w.cell? ⟨n, 1, none⟩ = some (.int .i64 y) := by unfold PtAt at h; simp [World.cell?, h]
theorem PtAt.z {n : Nat} {x y : Int} {w : World} (h : PtAt n x y w) (o : Nat) : w.frozen? ⟨n, o, none⟩ = false := by unfold PtAt at h; simp [World.frozen?, h]
theorem PtAt.set {n : Nat} {x y : Int} {w : World} (h : PtAt n x y w) (x' y' : Int) : PtAt n x' y' ((w.setCell ⟨n, 0, none⟩ (.int .i64 x')).setCell ⟨n, 1, none⟩ (.int .i64 y')) := by
  unfold PtAt at *
  simp only [World.setCell, Array.getElem?_modify, h]
  simp
theorem PtAt.lt {n : Nat} {x y : Int} {w : World} (h : PtAt n x y w) : n < w.heap.size := by
  unfold PtAt at h; exact (Array.getElem?_eq_some_iff.1 h).1
theorem PtAt.next {n : Nat} {x y : Int} {w w' : World} (h : PtAt n x y w) (t : Below w.heap.size w w') : PtAt n x y w' := by
  have := h.lt
  unfold PtAt at *; rw [t.block n this]; exact h
theorem PtAt.grown {n : Nat} {x y : Int} {W W' : World} {row : Option Nat} {R : Nat} {v : Value} {l : List Seg} (h : PtAt n x y W) (hg : W.grownBy W' row) (hr : Segs R v l W) (hv : v.ownBlock = row) : PtAt n x y W' := by
  have hl := h.lt
  unfold PtAt at *
  rw [hg.block n hl fun e => ?_]
  · exact h
  · obtain ⟨_, _, cur, hc⟩ := own_type hr n (hv.trans e.symm)
    rw [h] at hc
    injection hc with hc
    injection hc with _ hc
    exact absurd hc (by decide)
theorem PtAt.other {n q : Nat} {x y : Int} {W : World} (h : PtAt n x y W) (hn : n ≠ q) (o : Nat) (v : Value) : PtAt n x y (W.setCell ⟨q, o, none⟩ v) := by
  unfold PtAt at *; rw [Below.heap_setCell _ _ _ _ (by exact hn)]; exact h
/-- A point is answered out of a cell of the call's own. -/
theorem pt_close {f : Func} {n k : Nat} (hres : f.results = #[ResultVar.cell k 40]) {w wr : World} {x y : Int} {ts : Array Value} (hp : PtAt n x y wr) (hb : Below w.heap.size w wr) (hts : ts[k]? = some (.pointer (some ⟨n, 0, none⟩))) :
    bodyPost Tryz.prog f (fun e w' => e = .returned (ptV x y) ∧ Below w.heap.size w w') .ret { tmps := ts, defers := [] } wr := by
  have c0 := hp.c0
  have c1 := hp.c1
  exact bodyPost_ret (v := ptV x y) (by simp [results, hres, go_sem, c0, c1, hts, ptV]) rfl ⟨rfl, hb⟩
set_option maxRecDepth 100000 in
theorem nat_any (q : Nat) (v : Value) (s : NS) (x y : Int) (w : World) (H : StAt q v s w) (hx : I64 (s.ox + x)) (hy : I64 (s.oy + y)) :
    Calls Tryz.prog 135 #[.pointer (some ⟨q, 0, none⟩), .int .i64 x, .int .i64 y] w fun e w' => e = .returned (ptV (s.ox + x) (s.oy + y)) ∧ Below w.heap.size w w' := by
  have e1 : IntKind.i64.wrap (s.ox + x) = s.ox + x := IntWalk.i64_in _ hx
  have e2 : IntKind.i64.wrap (s.oy + y) = s.oy + y := IntWalk.i64_in _ hy
  have b0 := (Below.refl w.heap.size w).alloc (Nat.le_refl _) (.cells #[.int .i64 0, .int .i64 0] 40)
  have P := PtAt.new w 0 0
  have H1 := H.next b0
  have B := Lib.hid b0
  have HP := Lib.hid P
  have c6 := H1.c6
  have c7 := H1.c7
  have z0 := P.z 0
  have z1 := P.z 1
  clear b0 H P H1
  go_enter Tryz.func135, Tryz.ntmps135
  go_wp2_with fail
  go_region
  all_goals
    go_wp2_with fail
    exact pt_close Tryz.results135 (PtAt.new w _ _) ((Below.refl w.heap.size w).alloc (Nat.le_refl _) _).drew rfl
/-- A segment is answered out of a cell of the call's own. -/
theorem seg_close {f : Func} {n k : Nat} (hres : f.results = #[ResultVar.cell k 51]) {w wr : World} {g : Seg} {ts : Array Value} (hp : SegAt n 0 g wr) (hb : Below w.heap.size w wr) (hts : ts[k]? = some (.pointer (some ⟨n, 0, none⟩))) :
    bodyPost Tryz.prog f (fun e w' => e = .returned g.val ∧ Below w.heap.size w w') .ret { tmps := ts, defers := [] } wr := by
  obtain ⟨c0, c1, c2, c3, c4, c5, c6, c7, c8, c9, c10, c11⟩ := hp
  simp only [Nat.zero_add] at c1 c2 c3 c4 c5 c6 c7 c8 c9 c10 c11
  exact bodyPost_ret (v := g.val) (by simp [results, hres, go_sem, c0, c1, c2, c3, c4, c5, c6, c7, c8, c9, c10, c11, hts, Seg.val]) rfl ⟨rfl, hb⟩
theorem SegAt.of_block {n : Nat} {g : Seg} {w : World} (h : w.heap[n]? = some (.cells g.cells.toArray 51)) : SegAt n 0 g w := by
  constructor <;> (unfold World.cell?; rw [h]; rfl)
theorem SegAt.new (w : World) (g : Seg) : SegAt w.heap.size 0 g (w.alloc (.cells #[.int .i64 g.kind, .int .i64 g.tx, .int .i64 g.ty, .int .i64 g.ax, .int .i64 g.ay, .int .i64 g.cx, .int .i64 g.cy, .int .i64 g.rx, .int .i64 g.ry, .int .i64 g.turn, .bool g.lg, .bool g.sw] 51)).drew :=
  SegAt.of_block (World.alloc_heap_new w (.cells g.cells.toArray 51))
set_option maxRecDepth 100000 in
theorem last_any7 (q R : Nat) (v : Value) (s : NS) (w : World) (H : StAt q v s w) (hr : Segs R v s.out w) (hne : s.out ≠ []) (hl : s.out.length ≤ 100000000) :
    Calls Tryz.prog 53 #[.pointer (some ⟨q, 0, none⟩)] w fun e w' => e = .returned (lastM s).val ∧ Below w.heap.size w w' := by
  have hpos : 0 < s.out.length := List.length_pos_iff.2 hne
  have b0 := (Below.refl w.heap.size w).alloc (Nat.le_refl _) (.cells #[.int .i64 0, .int .i64 0, .int .i64 0, .int .i64 0, .int .i64 0, .int .i64 0, .int .i64 0, .int .i64 0, .int .i64 0, .int .i64 0, .bool false, .bool false] 51)
  obtain ⟨a, cap, rfl, hrd, _⟩ := (hr.next b0).reads
  obtain ⟨b, off, rfl, hb, hc⟩ := hrd.pos hpos
  have hA := hc (s.out.length - 1) (by omega)
  have hlast : s.out.getD (s.out.length - 1) zeroS = lastM s := by
    unfold lastM; rw [List.getLastD_eq_getLast?, List.getLast?_eq_getElem?]; rfl
  rw [hlast] at hA
  obtain ⟨k0, k1, k2, k3, k4, k5, k6, k7, k8, k9, k10, k11⟩ := hA
  have H1 := H.next b0
  have B := Lib.hid b0
  have c0 := H1.c0
  have e1 : IntKind.i64.wrap ((s.out.length : Int) - 1) = ((s.out.length - 1 : Nat) : Int) := by rw [IntWalk.i64_in _ (by omega)]; omega
  have hi : (s.out.length - 1 : Nat) < (s.out.length : Nat) := by omega
  generalize hg : lastM s = g at *
  generalize hn : s.out.length - 1 = n at *
  generalize s.out.length = L at *
  have hiI : (n : Int) < (L : Int) := by omega
  clear b0 H H1 hr hrd hc hlast hg
  go_enter Tryz.func53, Tryz.ntmps53
  go_wp2_with fail
  go_region
  all_goals
    go_wp2_with fail
    exact seg_close Tryz.results53 (SegAt.new w g) ((Below.refl w.heap.size w).alloc (Nat.le_refl _) _).drew rfl
/-- begin: a Move, and the point and the beginning are there. -/
def BegPost (q R : Nat) (v : Value) (s' : NS) (W : World) (e : Ending) (W' : World) : Prop :=
  e = .returned (.tuple #[]) ∧ ∃ v', StAt q v' s' W' ∧ Segs R v' s'.out W' ∧ Kep q v.ownBlock W W' ∧ ∀ k, v'.ownBlock = some k → v.ownBlock = some k ∨ W.heap.size ≤ k
set_option maxHeartbeats 4000000 in
set_option maxRecDepth 100000 in
theorem begin_any (q R : Nat) (v : Value) (s : NS) (x y : Int) (w : World) (H : StAt q v s w) (hr : Segs R v s.out w) (hR : R ≤ w.heap.size) (hl : s.out.length ≤ 100000000) :
    Calls Tryz.prog 134 #[.pointer (some ⟨q, 0, none⟩), ptV x y] w (BegPost q R v (begM s x y) w) := by
  obtain ⟨a, cap, rfl⟩ := hr.shape
  have b0 := (Below.refl w.heap.size w).alloc (Nat.le_refl _) (.cells #[.int .i64 x, .int .i64 y] 40)
  have P := PtAt.new w x y
  have H1 := H.next b0
  have HS := Lib.hid H1
  have HR := Lib.hid (hr.next b0)
  have HP := Lib.hid P
  have c0 := H1.c0
  have p0 := P.c0
  have p1 := P.c1
  have hq := H1.lt
  have hnq : w.heap.size ≠ q := fun e => by have := H.lt; omega
  unfold ptV
  clear H P H1 hr
  go_enter Tryz.func134, Tryz.ntmps134
  go_wp2_with fail
  generalize hW1 : w.alloc (.cells #[.int .i64 x, .int .i64 y] 40) = W1 at *
  have hg : w.heap.size + 1 = W1.heap.size := by rw [← hW1]; simp
  have bel : Below W1.heap.size W1 (W1.alloc (.cells (segS 1 x y 0 0 0 0).cells.toArray 51)).drew := ((Below.refl _ W1).alloc (Nat.le_refl _) _).drew
  have HR2 := Lib.hid (HR.out.next bel)
  have HS2 := Lib.hid (HS.out.next bel)
  have HP2 := Lib.hid (HP.out.next bel)
  have hN : (W1.alloc (.cells (segS 1 x y 0 0 0 0).cells.toArray 51)).drew.heap[W1.heap.size]? = some (.cells (segS 1 x y 0 0 0 0).cells.toArray 51) := World.alloc_heap_new W1 _
  have HN := Lib.hid hN
  have hno := HS2.out.not_own HR2.out
  have hB2 : R ≤ (W1.alloc (.cells (segS 1 x y 0 0 0 0).cells.toArray 51)).drew.heap.size := by have := bel.size; omega
  clear hN
  go_region_law (go_loud (refine step_seg (by rfl) (.tmp 8) (.tmp 11) (by rfl) (segS 1 x y 0 0 0 0) HR2.out (by rfl) HN.out (by rfl) hl hB2 _ rfl ?_; intro b cap' w2 hown2 hg2 hv2 hlt2; have st2 := HS2.out.grown hg2 hno; have z2 := st2.z 0; have k2 := st2.c0))
  all_goals
    have HV := Lib.hid (show ∀ k, (Value.slice (some ⟨b, 0, none⟩) (s.out.length + 1) cap').ownBlock = some k → (Value.slice a s.out.length cap).ownBlock = some k ∨ w.heap.size ≤ k from fun k hk => by
      have hk' : b = k := by simpa [Value.ownBlock] using hk
      subst hk'
      rcases hv2 with h | h
      · exact Or.inl h
      · right; rw [h]; exact Nat.le_trans (show w.heap.size ≤ W1.heap.size by omega) bel.size)
    obtain ⟨s3, hs3⟩ : ∃ s3 : NS, s3 = ⟨s.out ++ [segS 1 x y 0 0 0 0], s.px, s.py, s.qx, s.qy, s.op, s.ox, s.oy⟩ := ⟨_, rfl⟩
    have st3 := st2.set0 (.slice (some ⟨b, 0, none⟩) (s.out.length + 1) cap') s3 (by rw [hs3]) (by rw [hs3]) (by rw [hs3]) (by rw [hs3]) (by rw [hs3]) (by rw [hs3]) (by rw [hs3])
    have HS3 := Lib.hid st3
    have HR3 := Lib.hid (hown2.set (st2.not_own hown2) 0 (.slice (some ⟨b, 0, none⟩) (s.out.length + 1) cap'))
    have pt3 := (HP2.out.grown hg2 HR2.out rfl).other hnq 0 (.slice (some ⟨b, 0, none⟩) (s.out.length + 1) cap') (q := q)
    have HK3 := Lib.hid ((Kep.grown (q := q) (b0.trans (bel.mono (by omega))) hg2).set 0 (.slice (some ⟨b, 0, none⟩) (s.out.length + 1) cap'))
    generalize w2.setCell ⟨q, 0, none⟩ (.slice (some ⟨b, 0, none⟩) (s.out.length + 1) cap') = W3 at *
    have p0 := pt3.c0
    have p1 := pt3.c1
    have k1 := st3.c1
    have k2 := st3.c2
    have k3 := st3.c3
    have k4 := st3.c4
    have k5 := st3.c5
    have z1 := st3.z 1
    have z2 := st3.z 2
    have z3 := st3.z 3
    have z4 := st3.z 4
    have z5 := st3.z 5
    clear st3 pt3 hg2 hown2 bel b0 HS2 HP2 HR2 HN st2 hv2 hlt2 HS HR HP
    go_wp2_with fail
    go_region
    all_goals
      go_end0
      have hn3 := HS3.out.not_own HR3.out
      refine ⟨rfl, .slice (some ⟨b, 0, none⟩) (s.out.length + 1) cap', ?_, ?_, ?_, HV.out⟩
      · exact (HS3.out.sets (s' := begM s x y) (by rw [hs3]; rfl) (by rw [hs3]; rfl)).drew
      · exact (((((HR3.out.set hn3 _ _).set hn3 _ _).set hn3 _ _).set hn3 _ _).set hn3 _ _).drew
      · exact (((((HK3.out.set _ _).set _ _).set _ _).set _ _).set _ _).drew
end Go.Proofs.YtbjabclgekkpaaaGreatDoor
namespace Go.Proofs.YtbjabclgekkpaaaGreatDoor
open Go.RowKit Go.Shelf
/-- What a call leaves that writes the state and its row. -/
def NPost (q R : Nat) (s' : NS) (W : World) (e : Ending) (W' : World) : Prop := e = .returned (.tuple #[]) ∧ (∃ v', StAt q v' s' W' ∧ Segs R v' s'.out W') ∧ KepS q W W'
theorem KepS.set {q : Nat} {W W' : World} (h : KepS q W W') (i : Nat) (v : Value) : KepS q W (W'.setCell ⟨q, i, none⟩ v) :=
  ⟨h.os, h.tape, h.output, by have := h.size; simpa [World.setCell] using this, fun k hk hq ho => (Below.heap_setCell _ _ _ _ (by exact hq)).trans (h.block k hk hq ho)⟩
theorem KepS.grown {q R : Nat} {v : Value} {l : List Seg} {U W V W' : World} (h : KepS q U W) (hb : Below W.heap.size W V) (hr : Segs R v l V) (hR : q < R) (hg : V.grownBy W' v.ownBlock) : KepS q U W' :=
  h.trans (KepS.trans (KepS.of_below hb) (KepS.of_kep (Kep.grown (Below.refl _ V) hg) hr hR))
/-- The segment's block, and what is behind it: a copy is appended. -/
def BoxS (n : Nat) (g : Seg) (W : World) : Prop := W.heap[n]? = some (.cells g.cells.toArray 51)
theorem BoxS.lt {n : Nat} {g : Seg} {W : World} (h : BoxS n g W) : n < W.heap.size := by unfold BoxS at h; exact (Array.getElem?_eq_some_iff.1 h).1
theorem BoxS.next {n : Nat} {g : Seg} {w w' : World} (h : BoxS n g w) (t : Below w.heap.size w w') : BoxS n g w' := by
  have := h.lt
  unfold BoxS at *; rw [t.block n this]; exact h
theorem BoxS.grown {n : Nat} {g : Seg} {w w' : World} {row : Option Nat} (h : BoxS n g w) (hg : w.grownBy w' row) (hn : some n ≠ row) : BoxS n g w' := by
  have hl := h.lt
  unfold BoxS at *; rw [hg.block n hl hn]; exact h
theorem BoxS.other {n q : Nat} {g : Seg} {W : World} (h : BoxS n g W) (hn : n ≠ q) (o : Nat) (v : Value) : BoxS n g (W.setCell ⟨q, o, none⟩ v) := by
  unfold BoxS at *; rw [Below.heap_setCell _ _ _ _ (by exact hn)]; exact h
theorem open_len (s : NS) : (openM s).out.length ≤ s.out.length + 1 := by
  unfold openM begM; split
  · omega
  · simp
set_option maxHeartbeats 8000000 in
set_option maxRecDepth 100000 in
theorem add_any7 (q R : Nat) (v : Value) (s : NS) (g : Seg) (w : World) (H : StAt q v s w) (hr : Segs R v s.out w) (hqR : q < R) (hR : R ≤ w.heap.size) (hl : s.out.length ≤ 10000000) :
    Calls Tryz.prog 136 #[.pointer (some ⟨q, 0, none⟩), g.val] w (NPost q R (addM s g) w) := by
  obtain ⟨a, cap, rfl⟩ := hr.shape
  have b0 := (Below.refl w.heap.size w).alloc (Nat.le_refl _) (.cells #[.int .i64 g.kind, .int .i64 g.tx, .int .i64 g.ty, .int .i64 g.ax, .int .i64 g.ay, .int .i64 g.cx, .int .i64 g.cy, .int .i64 g.rx, .int .i64 g.ry, .int .i64 g.turn, .bool g.lg, .bool g.sw] 51)
  have P : BoxS w.heap.size g (w.alloc (.cells #[.int .i64 g.kind, .int .i64 g.tx, .int .i64 g.ty, .int .i64 g.ax, .int .i64 g.ay, .int .i64 g.cx, .int .i64 g.cy, .int .i64 g.rx, .int .i64 g.ry, .int .i64 g.turn, .bool g.lg, .bool g.sw] 51)) := World.alloc_heap_new w _
  have H1 := H.next b0
  have HS := Lib.hid H1
  have HR := Lib.hid (hr.next b0)
  have HP := Lib.hid P
  have HB := Lib.hid b0
  have HNA := Lib.hid (show ∀ k, (Value.slice a s.out.length cap).ownBlock = some k → k < w.heap.size from fun k hk => (own_type hr k hk).1)
  have c5 := H1.c5
  have c1 := H1.c1
  have c2 := H1.c2
  have hnq : w.heap.size ≠ q := fun e => by have := H.lt; omega
  have eox : (openM s).ox = s.ox ∧ (openM s).oy = s.oy := by unfold openM begM; split <;> exact ⟨rfl, rfl⟩
  clear H P H1 hr
  unfold Seg.val
  go_enter Tryz.func136, Tryz.ntmps136
  by_cases hop : s.op = true
  · rw [hop] at c5
    have eO : openM s = s := by unfold openM; rw [if_pos hop]
    go_wp2_with fail
    generalize hW2 : w.alloc (.cells #[.int .i64 g.kind, .int .i64 g.tx, .int .i64 g.ty, .int .i64 g.ax, .int .i64 g.ay, .int .i64 g.cx, .int .i64 g.cy, .int .i64 g.rx, .int .i64 g.ry, .int .i64 g.turn, .bool g.lg, .bool g.sw] 51) = W2 at *
    obtain ⟨s1, hS1⟩ : ∃ s1, s1 = openM s := ⟨_, rfl⟩
    have hs1 : s1 = s := hS1.trans eO
    have HS1 := Lib.hid (show StAt q (.slice a s1.out.length cap) s1 W2 by rw [hs1]; exact HS.out)
    have HR1 := Lib.hid (show Segs R (.slice a s1.out.length cap) s1.out W2 by rw [hs1]; exact HR.out)
    have HN1 := Lib.hid HP.out
    have HK1 := Lib.hid (show KepS q w W2 from KepS.of_below b0)
    have HNO := Lib.hid (show some w.heap.size ≠ (Value.slice a s1.out.length cap).ownBlock from fun e => by have := HNA.out w.heap.size (by rw [← hs1]; exact e.symm); omega)
    have hl1 : s1.out.length ≤ 100000000 := by rw [hs1]; omega
    have HE := Lib.hid hS1
    clear HS HR HP HB HNA c1 c2 c5 b0 eO hs1 hS1
    have c0 := HS1.out.c0
    obtain ⟨g0, g1, g2, g3, g4, g5, g6, g7, g8, g9, g10, g11⟩ := SegAt.of_block HN1.out
    simp only [Nat.zero_add] at g1 g2 g3 g4 g5 g6 g7 g8 g9 g10 g11
    have bel : Below W2.heap.size W2 (W2.alloc (.cells #[.int .i64 g.kind, .int .i64 g.tx, .int .i64 g.ty, .int .i64 g.ax, .int .i64 g.ay, .int .i64 g.cx, .int .i64 g.cy, .int .i64 g.rx, .int .i64 g.ry, .int .i64 g.turn, .bool g.lg, .bool g.sw] 51)).drew := ((Below.refl _ W2).alloc (Nat.le_refl _) _).drew
    have HR2 := Lib.hid (HR1.out.next bel)
    have HS2 := Lib.hid (HS1.out.next bel)
    have HN2 := Lib.hid (HN1.out.next bel)
    have HN := Lib.hid (show (W2.alloc (.cells #[.int .i64 g.kind, .int .i64 g.tx, .int .i64 g.ty, .int .i64 g.ax, .int .i64 g.ay, .int .i64 g.cx, .int .i64 g.cy, .int .i64 g.rx, .int .i64 g.ry, .int .i64 g.turn, .bool g.lg, .bool g.sw] 51)).drew.heap[W2.heap.size]? = some (.cells g.cells.toArray 51) from World.alloc_heap_new W2 _)
    have hno := HS2.out.not_own HR2.out
    have hB2 : R ≤ (W2.alloc (.cells #[.int .i64 g.kind, .int .i64 g.tx, .int .i64 g.ty, .int .i64 g.ax, .int .i64 g.ay, .int .i64 g.cx, .int .i64 g.cy, .int .i64 g.rx, .int .i64 g.ry, .int .i64 g.turn, .bool g.lg, .bool g.sw] 51)).drew.heap.size := Nat.le_trans (Nat.le_trans hR HK1.out.size) bel.size
    have hN2 : w.heap.size < W2.heap.size := HN1.out.lt
    have hq2 := HS1.out.lt
    go_region_law ((refine step_seg (by rfl) (.tmp 19) (.tmp 21) (by rfl) g HR2.out (by rfl) HN.out (by rfl) hl1 hB2 _ rfl ?_; intro b cap' w3 hown3 hg3 hv3 hlt3; have st3 := HS2.out.grown hg3 hno; have z3 := st3.z 0; have k3 := st3.c0))
    all_goals
      obtain ⟨s3, hs3⟩ : ∃ s3 : NS, s3 = ⟨s1.out ++ [g], s1.px, s1.py, s1.qx, s1.qy, s1.op, s1.ox, s1.oy⟩ := ⟨_, rfl⟩
      have st4 := st3.set0 (.slice (some ⟨b, 0, none⟩) (s1.out.length + 1) cap') s3 (by rw [hs3]) (by rw [hs3]) (by rw [hs3]) (by rw [hs3]) (by rw [hs3]) (by rw [hs3]) (by rw [hs3])
      have HS4 := Lib.hid st4
      have HR4 := Lib.hid (hown3.set (st3.not_own hown3) 0 (.slice (some ⟨b, 0, none⟩) (s1.out.length + 1) cap'))
      have nn4 := ((HN2.out.grown hg3 HNO.out).other hnq 0 (.slice (some ⟨b, 0, none⟩) (s1.out.length + 1) cap') (q := q))
      have HK4 := Lib.hid ((HK1.out.grown bel HR2.out hqR hg3).set 0 (.slice (some ⟨b, 0, none⟩) (s1.out.length + 1) cap'))
      generalize w3.setCell ⟨q, 0, none⟩ (.slice (some ⟨b, 0, none⟩) (s1.out.length + 1) cap') = W4 at *
      clear g0 g1 g2 g3 g4 g5 g6 g7 g8 g9 g10 g11
      obtain ⟨g0, g1, g2, _⟩ := SegAt.of_block nn4
      simp only [Nat.zero_add] at g1 g2
      have k1 := st4.c1
      have k2 := st4.c2
      have z1 := st4.z 1
      have z2 := st4.z 2
      clear st4 nn4 hg3 hown3 bel HS2 HN2 HR2 HN st3 hv3 hlt3 HS1 HR1 HN1 HK1
      go_wp2_with fail
      go_end0
      have hn4 := HS4.out.not_own HR4.out
      refine ⟨rfl, ⟨.slice (some ⟨b, 0, none⟩) (s1.out.length + 1) cap', ?_, ?_⟩, ?_⟩
      · exact HS4.out.sets2 (s' := addM s g) (by rw [hs3, HE.out]; rfl) (by rw [hs3, HE.out]; rfl) (by rw [hs3, HE.out]; rfl) (by rw [hs3, HE.out]; exact eox.1.symm) (by rw [hs3, HE.out]; exact eox.2.symm)
      · have h5 := (HR4.out.set hn4 1 (.int .i64 g.tx)).set hn4 2 (.int .i64 g.ty)
        rw [show (addM s g).out = s1.out ++ [g] by rw [HE.out]; rfl]
        exact h5
      · exact (HK4.out.set _ _).set _ _
  · have hop' : s.op = false := by simpa using hop
    rw [hop'] at c5
    have eO : openM s = begM s s.px s.py := by unfold openM; rw [if_neg hop]
    have BG := Lib.hid (begin_any q R (.slice a s.out.length cap) s s.px s.py _ HS.out HR.out (by have := HB.out.size; omega) (by omega))
    go_wp2_with fail
    generalize hW1 : w.alloc (.cells #[.int .i64 g.kind, .int .i64 g.tx, .int .i64 g.ty, .int .i64 g.ax, .int .i64 g.ay, .int .i64 g.cx, .int .i64 g.cy, .int .i64 g.rx, .int .i64 g.ry, .int .i64 g.turn, .bool g.lg, .bool g.sw] 51) = W1 at *
    refine BG.out.mono ?_
    rintro e W2 ⟨rfl, v1, t1, t2, t3, t4⟩
    obtain ⟨s1, hS1⟩ : ∃ s1, s1 = openM s := ⟨_, rfl⟩
    have hs1 : s1 = begM s s.px s.py := hS1.trans eO
    rw [← hs1] at t1 t2
    obtain ⟨a1, cap1, rfl⟩ := t2.shape
    have hk4 : KepS q w W2 := (KepS.of_below b0).trans (KepS.of_kep t3 HR.out hqR)
    have hne : some w.heap.size ≠ (Value.slice a s.out.length cap).ownBlock := fun e => by have := HNA.out w.heap.size e.symm; omega
    have HS1 := Lib.hid t1
    have HR1 := Lib.hid t2
    have HN1 := Lib.hid (show BoxS w.heap.size g W2 from (t3.block w.heap.size HP.out.lt hnq hne).trans HP.out)
    have HK1 := Lib.hid hk4
    have HNO := Lib.hid (show some w.heap.size ≠ (Value.slice a1 s1.out.length cap1).ownBlock from fun e => by
      have hlt := HP.out.lt
      rcases t4 w.heap.size e.symm with h | h
      · exact hne h.symm
      · omega)
    have hl1 : s1.out.length ≤ 100000000 := by have := open_len s; rw [← hS1] at this; omega
    have HE := Lib.hid hS1
    clear HS HR HP HB HNA c1 c2 c5 b0 eO BG t1 t2 t3 t4 hk4 hne hs1 hS1
    go_wp2_with fail
    have c0 := HS1.out.c0
    obtain ⟨g0, g1, g2, g3, g4, g5, g6, g7, g8, g9, g10, g11⟩ := SegAt.of_block HN1.out
    simp only [Nat.zero_add] at g1 g2 g3 g4 g5 g6 g7 g8 g9 g10 g11
    have bel : Below W2.heap.size W2 (W2.alloc (.cells #[.int .i64 g.kind, .int .i64 g.tx, .int .i64 g.ty, .int .i64 g.ax, .int .i64 g.ay, .int .i64 g.cx, .int .i64 g.cy, .int .i64 g.rx, .int .i64 g.ry, .int .i64 g.turn, .bool g.lg, .bool g.sw] 51)).drew := ((Below.refl _ W2).alloc (Nat.le_refl _) _).drew
    have HR2 := Lib.hid (HR1.out.next bel)
    have HS2 := Lib.hid (HS1.out.next bel)
    have HN2 := Lib.hid (HN1.out.next bel)
    have HN := Lib.hid (show (W2.alloc (.cells #[.int .i64 g.kind, .int .i64 g.tx, .int .i64 g.ty, .int .i64 g.ax, .int .i64 g.ay, .int .i64 g.cx, .int .i64 g.cy, .int .i64 g.rx, .int .i64 g.ry, .int .i64 g.turn, .bool g.lg, .bool g.sw] 51)).drew.heap[W2.heap.size]? = some (.cells g.cells.toArray 51) from World.alloc_heap_new W2 _)
    have hno := HS2.out.not_own HR2.out
    have hB2 : R ≤ (W2.alloc (.cells #[.int .i64 g.kind, .int .i64 g.tx, .int .i64 g.ty, .int .i64 g.ax, .int .i64 g.ay, .int .i64 g.cx, .int .i64 g.cy, .int .i64 g.rx, .int .i64 g.ry, .int .i64 g.turn, .bool g.lg, .bool g.sw] 51)).drew.heap.size := Nat.le_trans (Nat.le_trans hR HK1.out.size) bel.size
    have hN2 : w.heap.size < W2.heap.size := HN1.out.lt
    have hq2 := HS1.out.lt
    go_region_law ((refine step_seg (by rfl) (.tmp 19) (.tmp 21) (by rfl) g HR2.out (by rfl) HN.out (by rfl) hl1 hB2 _ rfl ?_; intro b cap' w3 hown3 hg3 hv3 hlt3; have st3 := HS2.out.grown hg3 hno; have z3 := st3.z 0; have k3 := st3.c0))
    all_goals
      obtain ⟨s3, hs3⟩ : ∃ s3 : NS, s3 = ⟨s1.out ++ [g], s1.px, s1.py, s1.qx, s1.qy, s1.op, s1.ox, s1.oy⟩ := ⟨_, rfl⟩
      have st4 := st3.set0 (.slice (some ⟨b, 0, none⟩) (s1.out.length + 1) cap') s3 (by rw [hs3]) (by rw [hs3]) (by rw [hs3]) (by rw [hs3]) (by rw [hs3]) (by rw [hs3]) (by rw [hs3])
      have HS4 := Lib.hid st4
      have HR4 := Lib.hid (hown3.set (st3.not_own hown3) 0 (.slice (some ⟨b, 0, none⟩) (s1.out.length + 1) cap'))
      have nn4 := ((HN2.out.grown hg3 HNO.out).other hnq 0 (.slice (some ⟨b, 0, none⟩) (s1.out.length + 1) cap') (q := q))
      have HK4 := Lib.hid ((HK1.out.grown bel HR2.out hqR hg3).set 0 (.slice (some ⟨b, 0, none⟩) (s1.out.length + 1) cap'))
      generalize w3.setCell ⟨q, 0, none⟩ (.slice (some ⟨b, 0, none⟩) (s1.out.length + 1) cap') = W4 at *
      clear g0 g1 g2 g3 g4 g5 g6 g7 g8 g9 g10 g11
      obtain ⟨g0, g1, g2, _⟩ := SegAt.of_block nn4
      simp only [Nat.zero_add] at g1 g2
      have k1 := st4.c1
      have k2 := st4.c2
      have z1 := st4.z 1
      have z2 := st4.z 2
      clear st4 nn4 hg3 hown3 bel HS2 HN2 HR2 HN st3 hv3 hlt3 HS1 HR1 HN1 HK1
      go_wp2_with fail
      go_end0
      have hn4 := HS4.out.not_own HR4.out
      refine ⟨rfl, ⟨.slice (some ⟨b, 0, none⟩) (s1.out.length + 1) cap', ?_, ?_⟩, ?_⟩
      · exact HS4.out.sets2 (s' := addM s g) (by rw [hs3, HE.out]; rfl) (by rw [hs3, HE.out]; rfl) (by rw [hs3, HE.out]; rfl) (by rw [hs3, HE.out]; exact eox.1.symm) (by rw [hs3, HE.out]; exact eox.2.symm)
      · have h5 := (HR4.out.set hn4 1 (.int .i64 g.tx)).set hn4 2 (.int .i64 g.ty)
        rw [show (addM s g).out = s1.out ++ [g] by rw [HE.out]; rfl]
        exact h5
      · exact (HK4.out.set _ _).set _ _
end Go.Proofs.YtbjabclgekkpaaaGreatDoor
