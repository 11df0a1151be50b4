/-
  Segments and the state that commands come to, in memory.
-/
import Derived.Test.YtgiibcnakiggaaaDoorNormMath
import Derived.Test.YtgiibcnakiggaaaDoorPathMem
import Derived.Test.YtgiibcnakiggaaaDoorRowK
import Derived.Deep.AppendLies
namespace Go.Proofs.YtgiibcnakiggaaaDoor
open Go.RowKit Go.Shelf

def Seg.cells (g : Seg) : List Value := [.int .i64 g.kind, .int .i64 g.tx, .int .i64 g.ty, .int .i64 g.ax, .int .i64 g.ay, .int .i64 g.cx, .int .i64 g.cy, .int .i64 g.rx, .int .i64 g.ry, .int .i64 g.turn, .bool g.lg, .bool g.sw]
def Seg.val (g : Seg) : Value := .agg #[.int .i64 g.kind, .int .i64 g.tx, .int .i64 g.ty, .int .i64 g.ax, .int .i64 g.ay, .int .i64 g.cx, .int .i64 g.cy, .int .i64 g.rx, .int .i64 g.ry, .int .i64 g.turn, .bool g.lg, .bool g.sw]
def ptV (x y : Int) : Value := .agg #[.int .i64 x, .int .i64 y]
def flatS : List Seg → List Value
  | [] => []
  | g :: t => g.cells ++ flatS t
theorem flatS_append (a b : List Seg) : flatS (a ++ b) = flatS a ++ flatS b := by
  induction a with
  | nil => rfl
  | cons g t ih => simp only [List.cons_append, flatS]; rw [ih, List.append_assoc]
theorem flatS_snoc (a : List Seg) (g : Seg) : flatS (a ++ [g]) = flatS a ++ g.cells := by rw [flatS_append]; simp [flatS]
theorem cells_len (g : Seg) : g.cells.length = 12 := rfl
theorem flatS_len (a : List Seg) : (flatS a).length = a.length * 12 := by
  induction a with
  | nil => rfl
  | cons g t ih => simp only [flatS, List.length_append, List.length_cons]; rw [ih, cells_len]; omega
theorem flatS_at (l : List Seg) : ∀ (i : Nat) (g : Seg), l[i]? = some g → ∀ j, j < 12 → (flatS l)[i * 12 + j]? = g.cells[j]? := by
  induction l with
  | nil => intro i g h; simp at h
  | cons x t ih =>
    intro i g h j hj
    have hx : x.cells.length = 12 := rfl
    cases i with
    | zero =>
      obtain rfl : x = g := by simpa using h
      simp only [flatS]
      rw [List.getElem?_append_left (by rw [hx]; omega)]
      rw [Nat.zero_mul, Nat.zero_add]
    | succ i =>
      simp only [flatS]
      rw [List.getElem?_append_right (by rw [hx]; omega), hx, show (i + 1) * 12 + j - 12 = i * 12 + j from by omega]
      exact ih i g (by simpa using h) j hj

/-- Block q is the state. -/
def StAt (q : Nat) (v : Value) (s : NS) (w : World) : Prop := w.heap[q]? = some (.cells #[v, .int .i64 s.px, .int .i64 s.py, .int .i64 s.qx, .int .i64 s.qy, .bool s.op, .int .i64 s.ox, .int .i64 s.oy] 72)
theorem StAt.c0 {q : Nat} {v : Value} {s : NS} {w : World} (h : StAt q v s w) : w.cell? ⟨q, 0, none⟩ = some v := by unfold StAt at h; simp [World.cell?, h]
theorem StAt.c1 {q : Nat} {v : Value} {s : NS} {w : World} (h : StAt q v s w) : w.cell? ⟨q, 1, none⟩ = some (.int .i64 s.px) := by unfold StAt at h; simp [World.cell?, h]
theorem StAt.c2 {q : Nat} {v : Value} {s : NS} {w : World} (h : StAt q v s w) : w.cell? ⟨q, 2, none⟩ = some (.int .i64 s.py) := by unfold StAt at h; simp [World.cell?, h]
theorem StAt.c3 {q : Nat} {v : Value} {s : NS} {w : World} (h : StAt q v s w) : w.cell? ⟨q, 3, none⟩ = some (.int .i64 s.qx) := by unfold StAt at h; simp [World.cell?, h]
theorem StAt.c4 {q : Nat} {v : Value} {s : NS} {w : World} (h : StAt q v s w) : w.cell? ⟨q, 4, none⟩ = some (.int .i64 s.qy) := by unfold StAt at h; simp [World.cell?, h]
theorem StAt.c5 {q : Nat} {v : Value} {s : NS} {w : World} (h : StAt q v s w) : w.cell? ⟨q, 5, none⟩ = some (.bool s.op) := by unfold StAt at h; simp [World.cell?, h]
theorem StAt.c6 {q : Nat} {v : Value} {s : NS} {w : World} (h : StAt q v s w) : w.cell? ⟨q, 6, none⟩ = some (.int .i64 s.ox) := by unfold StAt at h; simp [World.cell?, h]
theorem StAt.c7 {q : Nat} {v : Value} {s : NS} {w : World} (h : StAt q v s w) : w.cell? ⟨q, 7, none⟩ = some (.int .i64 s.oy) := by unfold StAt at h; simp [World.cell?, h]
theorem StAt.z {q : Nat} {v : Value} {s : NS} {w : World} (h : StAt q v s w) (o : Nat) : w.frozen? ⟨q, o, none⟩ = false := by unfold StAt at h; simp [World.frozen?, h]
theorem StAt.lt {q : Nat} {v : Value} {s : NS} {w : World} (h : StAt q v s w) : q < w.heap.size := by
  unfold StAt at h; exact (Array.getElem?_eq_some_iff.1 h).1
theorem StAt.next {q : Nat} {v : Value} {s : NS} {w w' : World} (h : StAt q v s w) (t : Below w.heap.size w w') : StAt q v s w' := by
  have := h.lt
  unfold StAt at *; rw [t.block q this]; exact h
/-- A row of segments of the call's own. -/
def Segs (R : Nat) (v : Value) (l : List Seg) (w : World) : Prop := w.ownsRow R 43 12 v l.length (flatS l)
theorem Segs.nil (R : Nat) (w : World) : Segs R (.slice none 0 0) [] w := World.ownsRow_nil _ _ _ _
theorem Segs.shape {R : Nat} {v : Value} {l : List Seg} {w : World} (h : Segs R v l w) : ∃ a cap, v = .slice a l.length cap := own_shape h
theorem Segs.next {R : Nat} {v : Value} {l : List Seg} {w w' : World} (h : Segs R v l w) (t : Below w.heap.size w w') : Segs R v l w' := own_next h t
theorem StAt.not_own {q R : Nat} {v u : Value} {s : NS} {l : List Seg} {w : World} (h : StAt q v s w) (hr : Segs R u l w) : some q ≠ u.ownBlock := by
  intro e2
  obtain ⟨_, _, cur, hc⟩ := own_type hr q e2.symm
  unfold StAt at h
  rw [h] at hc
  injection hc with hc
  injection hc with _ hc
  exact absurd hc (by decide)
theorem StAt.grown {q : Nat} {v : Value} {s : NS} {w w' : World} {row : Option Nat} (h : StAt q v s w) (hg : w.grownBy w' row) (hn : some q ≠ row) : StAt q v s w' := by
  have hl := h.lt
  unfold StAt at *; rw [hg.block q hl hn]; exact h
theorem StAt.set0 {q : Nat} {v : Value} {s : NS} {w : World} (h : StAt q v s w) (v' : Value) (s' : NS) (h1 : s'.px = s.px) (h2 : s'.py = s.py) (h3 : s'.qx = s.qx) (h4 : s'.qy = s.qy) (h5 : s'.op = s.op) (h6 : s'.ox = s.ox) (h7 : s'.oy = s.oy) : StAt q v' s' (w.setCell ⟨q, 0, none⟩ v') := by
  unfold StAt at *
  simp only [World.setCell, Array.getElem?_modify, h, h1, h2, h3, h4, h5, h6, h7]
  simp
theorem Segs.set {q R : Nat} {u : Value} {l : List Seg} {w : World} (hr : Segs R u l w) (hn : some q ≠ u.ownBlock) (o : Nat) (v : Value) : Segs R u l (w.setCell ⟨q, o, none⟩ v) :=
  own_stay hr fun k hk => Below.heap_setCell _ _ _ _ (by intro e; have e' : k = q := e; rw [← e'] at hn; exact hn hk.symm)
theorem StAt.drew {q : Nat} {v : Value} {s : NS} {w : World} (h : StAt q v s w) : StAt q v s w.drew := h
theorem Segs.drew {R : Nat} {u : Value} {l : List Seg} {w : World} (hr : Segs R u l w) : Segs R u l w.drew := own_stay hr fun _ _ => rfl
/-- A segment lies at a place. -/
structure SegAt (b o : Nat) (g : Seg) (w : World) : Prop where
  c0 : w.cell? ⟨b, o, none⟩ = some (.int .i64 g.kind)
  c1 : w.cell? ⟨b, o + 1, none⟩ = some (.int .i64 g.tx)
  c2 : w.cell? ⟨b, o + 2, none⟩ = some (.int .i64 g.ty)
  c3 : w.cell? ⟨b, o + 3, none⟩ = some (.int .i64 g.ax)
  c4 : w.cell? ⟨b, o + 4, none⟩ = some (.int .i64 g.ay)
  c5 : w.cell? ⟨b, o + 5, none⟩ = some (.int .i64 g.cx)
  c6 : w.cell? ⟨b, o + 6, none⟩ = some (.int .i64 g.cy)
  c7 : w.cell? ⟨b, o + 7, none⟩ = some (.int .i64 g.rx)
  c8 : w.cell? ⟨b, o + 8, none⟩ = some (.int .i64 g.ry)
  c9 : w.cell? ⟨b, o + 9, none⟩ = some (.int .i64 g.turn)
  c10 : w.cell? ⟨b, o + 10, none⟩ = some (.bool g.lg)
  c11 : w.cell? ⟨b, o + 11, none⟩ = some (.bool g.sw)
theorem SegAt.below {b o : Nat} {g : Seg} {w w' : World} (h : SegAt b o g w) (t : Below w.heap.size w w') (hb : b < w.heap.size) : SegAt b o g w' :=
  ⟨(t.cell (p := ⟨b, o, none⟩) hb).trans h.c0, (t.cell (p := ⟨b, o + 1, none⟩) hb).trans h.c1, (t.cell (p := ⟨b, o + 2, none⟩) hb).trans h.c2, (t.cell (p := ⟨b, o + 3, none⟩) hb).trans h.c3, (t.cell (p := ⟨b, o + 4, none⟩) hb).trans h.c4, (t.cell (p := ⟨b, o + 5, none⟩) hb).trans h.c5, (t.cell (p := ⟨b, o + 6, none⟩) hb).trans h.c6, (t.cell (p := ⟨b, o + 7, none⟩) hb).trans h.c7, (t.cell (p := ⟨b, o + 8, none⟩) hb).trans h.c8, (t.cell (p := ⟨b, o + 9, none⟩) hb).trans h.c9, (t.cell (p := ⟨b, o + 10, none⟩) hb).trans h.c10, (t.cell (p := ⟨b, o + 11, none⟩) hb).trans h.c11⟩
/-- The live cells of a slice of segments. -/
def RdS (a : Option Addr) (l : List Seg) (w : World) : Prop :=
  l = [] ∨ ∃ b off : Nat, a = some ⟨b, off, none⟩ ∧ b < w.heap.size ∧ ∀ i, i < l.length → SegAt b (off + i * 12) (l.getD i zeroS) w
theorem RdS.next {a : Option Addr} {l : List Seg} {w w' : World} (h : RdS a l w) (t : Below w.heap.size w w') : RdS a l w' := by
  rcases h with h | ⟨b, off, ha, hlt, hc⟩
  · exact .inl h
  · exact .inr ⟨b, off, ha, Nat.lt_of_lt_of_le hlt t.size, fun i hi => (hc i hi).below t hlt⟩
theorem RdS.pos {a : Option Addr} {l : List Seg} {w : World} (h : RdS a l w) (hl : 0 < l.length) : ∃ b off : Nat, a = some ⟨b, off, none⟩ ∧ b < w.heap.size ∧ ∀ i, i < l.length → SegAt b (off + i * 12) (l.getD i zeroS) w := by
  rcases h with rfl | h
  · exact absurd hl (by decide)
  · exact h
theorem RdS.take {a : Option Addr} {l : List Seg} {w : World} (h : RdS a l w) (n : Nat) : RdS a (l.take n) w := by
  rcases h with rfl | ⟨b, off, ha, hlt, hc⟩
  · exact .inl (by simp)
  · refine .inr ⟨b, off, ha, hlt, fun i hi => ?_⟩
    rw [List.length_take] at hi
    have e : (l.take n).getD i zeroS = l.getD i zeroS := by
      have : (l.take n)[i]? = l[i]? := by rw [List.getElem?_take, if_pos (by omega)]
      simp [List.getD, this]
    rw [e]; exact hc i (by omega)
theorem own_cell7 {W : World} {R : Nat} {e : TypeId} {sz k : Nat} {b off : Nat} {len cap : Nat} {xs : List Value} (h : W.ownsRow R e sz (.slice (some ⟨b, off, none⟩) len cap) k xs) {i : Nat} {u : Value} (hi : xs[i]? = some u) : W.cell? ⟨b, off + i, none⟩ = some u := by
  rcases h.2 with ⟨h0, _⟩ | ⟨g, cap', cur, hv, hR, hg, h1, h2, h3, h4⟩
  · cases h0
  · cases hv
    rw [Nat.zero_add]
    unfold World.cell?
    rw [hg]
    show cur[i]? = some u
    rw [← h4] at hi
    have := (List.getElem?_eq_some_iff.1 hi).1
    rw [List.length_take] at this
    rw [List.getElem?_take, if_pos (by omega)] at hi
    simpa using hi
/-- A row of the call's own is read. -/
theorem Segs.reads {R : Nat} {v : Value} {l : List Seg} {w : World} (h : Segs R v l w) : ∃ a cap, v = .slice a l.length cap ∧ RdS a l w ∧ l.length ≤ cap := by
  obtain ⟨a, cap, rfl⟩ := h.shape
  have hcap : l.length ≤ cap := by
    rcases h.2 with ⟨_, h3⟩ | ⟨g, cap', cur, hv, hR, hg, h1, _⟩
    · omega
    · cases hv; exact h1
  refine ⟨a, cap, rfl, ?_, hcap⟩
  by_cases hz : l = []
  · exact .inl hz
  · have hpos : 0 < l.length := List.length_pos_iff.2 hz
    obtain ⟨b, off, rfl, hb⟩ : ∃ b off, a = some ⟨b, off, none⟩ ∧ b < w.heap.size := by
      rcases h.2 with ⟨_, h0⟩ | ⟨g, cap', cur, hv, hR, hg, _⟩
      · omega
      · cases hv; exact ⟨g, 0, rfl, (Array.getElem?_eq_some_iff.1 hg).1⟩
    refine .inr ⟨b, off, rfl, hb, fun i hi => ?_⟩
    have hx : l[i]? = some (l.getD i zeroS) := by simp [List.getD, List.getElem?_eq_getElem hi]
    have A := fun j hj => flatS_at l i _ hx j hj
    have C := fun j (hj : j < 12) u (hu : (l.getD i zeroS).cells[j]? = some u) => own_cell7 h ((A j hj).trans hu)
    exact ⟨C 0 (by decide) _ rfl, C 1 (by decide) _ rfl, C 2 (by decide) _ rfl, C 3 (by decide) _ rfl, C 4 (by decide) _ rfl, C 5 (by decide) _ rfl, C 6 (by decide) _ rfl, C 7 (by decide) _ rfl, C 8 (by decide) _ rfl, C 9 (by decide) _ rfl, C 10 (by decide) _ rfl, C 11 (by decide) _ rfl⟩
/-- What a call leaves that writes the state and its row alone: rows of segments above the state may turn, nothing else. -/
structure KepS (q : Nat) (W W' : World) : Prop where
  os : W'.os = W.os
  tape : W'.tape = W.tape
  output : W'.output = W.output
  size : W.heap.size ≤ W'.heap.size
  block : ∀ k, k < W.heap.size → k ≠ q → (k < q ∨ ∀ cur, W.heap[k]? ≠ some (.cells cur 43 (0, 0))) → W'.heap[k]? = W.heap[k]?
theorem KepS.refl (q : Nat) (W : World) : KepS q W W := ⟨rfl, rfl, rfl, Nat.le_refl _, fun _ _ _ _ => rfl⟩
theorem KepS.trans {q : Nat} {U V W : World} (h : KepS q U V) (k : KepS q V W) : KepS q U W where
  os := k.os.trans h.os
  tape := k.tape.trans h.tape
  output := k.output.trans h.output
  size := Nat.le_trans h.size k.size
  block := fun i hi hq ho => by
    have e := h.block i hi hq ho
    refine (k.block i (Nat.lt_of_lt_of_le hi h.size) hq ?_).trans e
    rcases ho with ho | ho
    · exact Or.inl ho
    · exact Or.inr fun cur => by rw [e]; exact ho cur
theorem KepS.of_below {q : Nat} {W W' : World} (t : Below W.heap.size W W') : KepS q W W' := ⟨t.os, t.tape, t.output, t.size, fun k hk _ _ => t.block k hk⟩
theorem KepS.of_kep {q R : Nat} {v : Value} {l : List Seg} {W W' : World} (K : Kep q v.ownBlock W W') (hr : Segs R v l W) (hR : q < R) : KepS q W W' :=
  ⟨K.os, K.tape, K.output, K.size, fun k hk hq ho => K.block k hk hq fun e => by
    obtain ⟨_, hb, cur, hc⟩ := own_type hr k e.symm
    rcases ho with ho | ho
    · omega
    · exact ho cur hc⟩
theorem KepS.below {q : Nat} {W W' : World} (t : KepS q W W') (hq : q ≤ W.heap.size) : Below q W W' :=
  ⟨t.os, t.tape, t.output, t.size, fun k hk => t.block k (by omega) (by omega) (Or.inl hk)⟩
theorem KepS.keeps {q k : Nat} {W W' : World} {c : Array Value} {t : TypeId} (h : KepS q W W') (hc : W.heap[k]? = some (.cells c t (0, 0))) (ht : t ≠ 43) (hq : k ≠ q) : W'.heap[k]? = some (.cells c t (0, 0)) := by
  have hlt : k < W.heap.size := (Array.getElem?_eq_some_iff.1 hc).1
  rw [h.block k hlt hq (Or.inr fun cur e => by rw [hc] at e; injection e with e; injection e with _ e; exact ht e)]; exact hc
theorem Kep.trans' {q : Nat} {o : Option Nat} {U V W : World} (h : Below U.heap.size U V) (k : Kep q o V W) : Kep q o U W :=
  ⟨k.os.trans h.os, k.tape.trans h.tape, k.output.trans h.output, Nat.le_trans h.size k.size, fun i hi hq ho => (k.block i (Nat.lt_of_lt_of_le hi h.size) hq ho).trans (h.block i hi)⟩

theorem Kep.set {q : Nat} {o : Option Nat} {W W' : World} (h : Kep q o W W') (i : Nat) (v : Value) : Kep q o W (W'.setCell ⟨q, i, none⟩ v) :=
  ⟨h.os, h.tape, h.output, by have := h.size; simpa [World.setCell] using this, fun k hk hq ho => (Below.heap_setCell _ _ _ _ (by exact hq)).trans (h.block k hk hq ho)⟩
theorem Kep.drew {q : Nat} {o : Option Nat} {W W' : World} (h : Kep q o W W') : Kep q o W W'.drew := ⟨h.os, h.tape, h.output, h.size, h.block⟩
theorem Kep.grown {q : Nat} {row : Option Nat} {U W W' : World} (h : Below U.heap.size U W) (hg : W.grownBy W' row) : Kep q row U W' :=
  ⟨hg.os.trans h.os, hg.tape.trans h.tape, hg.output.trans h.output, Nat.le_trans h.size hg.size, fun k hk _ ho => (hg.block k (Nat.lt_of_lt_of_le hk h.size) ho).trans (h.block k hk)⟩
theorem StAt.sets {q : Nat} {v : Value} {s s' : NS} {w : World} (h : StAt q v s w) (h6 : s'.ox = s.ox) (h7 : s'.oy = s.oy) :
    StAt q v s' (((((w.setCell ⟨q, 1, none⟩ (.int .i64 s'.px)).setCell ⟨q, 2, none⟩ (.int .i64 s'.py)).setCell ⟨q, 3, none⟩ (.int .i64 s'.qx)).setCell ⟨q, 4, none⟩ (.int .i64 s'.qy)).setCell ⟨q, 5, none⟩ (.bool s'.op)) := by
  unfold StAt at *
  simp only [World.setCell, Array.getElem?_modify, h, h6, h7]
  simp
theorem StAt.sets2 {q : Nat} {v : Value} {s s' : NS} {w : World} (h : StAt q v s w) (h3 : s'.qx = s.qx) (h4 : s'.qy = s.qy) (h5 : s'.op = s.op) (h6 : s'.ox = s.ox) (h7 : s'.oy = s.oy) :
    StAt q v s' ((w.setCell ⟨q, 1, none⟩ (.int .i64 s'.px)).setCell ⟨q, 2, none⟩ (.int .i64 s'.py)) := by
  unfold StAt at *
  simp only [World.setCell, Array.getElem?_modify, h, h3, h4, h5, h6, h7]
  simp
theorem StAt.set5 {q : Nat} {v : Value} {s s' : NS} {w : World} (h : StAt q v s w) (h1 : s'.px = s.px) (h2 : s'.py = s.py) (h3 : s'.qx = s.qx) (h4 : s'.qy = s.qy) (h6 : s'.ox = s.ox) (h7 : s'.oy = s.oy) : StAt q v s' (w.setCell ⟨q, 5, none⟩ (.bool s'.op)) := by
  unfold StAt at *
  simp only [World.setCell, Array.getElem?_modify, h, h1, h2, h3, h4, h6, h7]
  simp
theorem info_seg : (Tryd.prog.info? 43).map (fun i => (i.zero, i.size, i.bytes)) = some (some (.agg #[.int .i64 0, .int .i64 0, .int .i64 0, .int .i64 0, .int .i64 0, .int .i64 0, .int .i64 0, .int .i64 0, .int .i64 0, .int .i64 0, .bool false, .bool false]), 12, 88) := by kernel_rfl
/-- One more segment is appended, at a step of a region that draws. -/
theorem step_seg {ops : Array Oper} {o : Oper} {a : Act} {K : Act → World → Prop} {Q : Exit → Act → World → Prop} {E : Prop} {W : World} (hgd : o.guard = none) (s x : Operand)
    (ho : o.op = .call { callee := .builtin .append, args := #[s, x], argTypes := #[36, 36] }) {B N : Nat} {v : Value} {l : List Seg} (g : Seg) (hown : Segs B v l W) (hs : a.eval s = v)
    (hN : W.heap[N]? = some (.cells g.cells.toArray 43)) (hx : a.eval x = .slice (some ⟨N, 0, none⟩) 1 1) (hk : l.length ≤ 100000000) (hB : B ≤ W.heap.size) (H : Nat) (hH : W.heap.size = H)
    (h : ∀ b cap w', Segs B (.slice (some ⟨b, 0, none⟩) (l.length + 1) cap) (l ++ [g]) w' → W.grownBy w' v.ownBlock → (v.ownBlock = some b ∨ b = H) → b < w'.heap.size → K (a.put o.dst (.slice (some ⟨b, 0, none⟩) (l.length + 1) cap)) w') :
    if Region.wanted o (yielded ops a.tmps) = true then Oper.wp Tryd.prog o a W K Q else E := by
  obtain ⟨i0, hi, hz0, hz1, hz2⟩ := info_parts info_seg
  refine step_append_lies W hgd s x 36 ho B 43 i0 _ 12 88 Tryd.underlying36 hi hz0 hz1 hz2 rfl (by decide) v l.length (flatS l) hs hown ⟨N, 0, none⟩ 1 1 g.cells hx rfl (World.news_of_block hN) ?_ (by decide) (by unfold maxLen; omega) (by omega) hB H hH ?_
  · intro u hu; simp [Seg.cells] at hu; rcases hu with rfl | rfl | rfl | rfl | rfl | rfl | rfl | rfl | rfl | rfl | rfl | rfl <;> rfl
  · intro b cap w' hown' hg hv hlt
    refine h b cap w' ?_ hg hv hlt
    unfold Segs; rw [flatS_snoc, List.length_append]; exact hown'
end Go.Proofs.YtgiibcnakiggaaaDoor
