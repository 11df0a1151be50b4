/-
  The contract of package norm's add: a segment, and a Move ahead of it where no subpath is open.
-/
import Derived.Test.YtgiibcnakiggaaaDoorNormFn
namespace Go.Proofs.YtgiibcnakiggaaaDoor
open Go.RowKit Go.Shelf

/-- What a call leaves that writes the state and its row. -/
def NPost (q R : Nat) (s' : NS) (W : World) (e : Ending) (W' : World) : Prop := e = .returned (.tuple #[]) ∧ (∃ v', StAt q v' s' W' ∧ Segs R v' s'.out W') ∧ KepS q W W'
theorem KepS.set {q : Nat} {W W' : World} (h : KepS q W W') (i : Nat) (v : Value) : KepS q W (W'.setCell ⟨q, i, none⟩ v) :=
  ⟨h.os, h.tape, h.output, by have := h.size; simpa [World.setCell] using this, fun k hk hq ho => (Below.heap_setCell _ _ _ _ (by exact hq)).trans (h.block k hk hq ho)⟩
theorem KepS.drew {q : Nat} {W W' : World} (h : KepS q W W') : KepS q W W'.drew := ⟨h.os, h.tape, h.output, h.size, h.block⟩
theorem KepS.grown {q R : Nat} {v : Value} {l : List Seg} {U W V W' : World} (h : KepS q U W) (hb : Below W.heap.size W V) (hr : Segs R v l V) (hR : q < R) (hg : V.grownBy W' v.ownBlock) : KepS q U W' :=
  h.trans (KepS.trans (KepS.of_below hb) (KepS.of_kep (Kep.grown (Below.refl _ V) hg) hr hR))
/-- The segment's block, and what is behind it: a copy is appended. -/
def BoxS (n : Nat) (g : Seg) (W : World) : Prop := W.heap[n]? = some (.cells g.cells.toArray 43)
theorem BoxS.lt {n : Nat} {g : Seg} {W : World} (h : BoxS n g W) : n < W.heap.size := by unfold BoxS at h; exact (Array.getElem?_eq_some_iff.1 h).1
theorem BoxS.next {n : Nat} {g : Seg} {w w' : World} (h : BoxS n g w) (t : Below w.heap.size w w') : BoxS n g w' := by
  have := h.lt
  unfold BoxS at *; rw [t.block n this]; exact h
theorem BoxS.grown {n : Nat} {g : Seg} {w w' : World} {row : Option Nat} (h : BoxS n g w) (hg : w.grownBy w' row) (hn : some n ≠ row) : BoxS n g w' := by
  have hl := h.lt
  unfold BoxS at *; rw [hg.block n hl hn]; exact h
theorem BoxS.other {n q : Nat} {g : Seg} {W : World} (h : BoxS n g W) (hn : n ≠ q) (o : Nat) (v : Value) : BoxS n g (W.setCell ⟨q, o, none⟩ v) := by
  unfold BoxS at *; rw [Below.heap_setCell _ _ _ _ (by exact hn)]; exact h
theorem open_len (s : NS) : (openM s).out.length ≤ s.out.length + 1 := by
  unfold openM begM; split
  · omega
  · simp
set_option maxHeartbeats 8000000 in
set_option maxRecDepth 100000 in
theorem add_any7 (q R : Nat) (v : Value) (s : NS) (g : Seg) (w : World) (H : StAt q v s w) (hr : Segs R v s.out w) (hqR : q < R) (hR : R ≤ w.heap.size) (hl : s.out.length ≤ 10000000) :
    Calls Tryd.prog 79 #[.pointer (some ⟨q, 0, none⟩), g.val] w (NPost q R (addM s g) w) := by
  obtain ⟨a, cap, rfl⟩ := hr.shape
  have b0 := (Below.refl w.heap.size w).alloc (Nat.le_refl _) (.cells #[.int .i64 g.kind, .int .i64 g.tx, .int .i64 g.ty, .int .i64 g.ax, .int .i64 g.ay, .int .i64 g.cx, .int .i64 g.cy, .int .i64 g.rx, .int .i64 g.ry, .int .i64 g.turn, .bool g.lg, .bool g.sw] 43)
  have P : BoxS w.heap.size g (w.alloc (.cells #[.int .i64 g.kind, .int .i64 g.tx, .int .i64 g.ty, .int .i64 g.ax, .int .i64 g.ay, .int .i64 g.cx, .int .i64 g.cy, .int .i64 g.rx, .int .i64 g.ry, .int .i64 g.turn, .bool g.lg, .bool g.sw] 43)) := World.alloc_heap_new w _
  have H1 := H.next b0
  have HS := Lib.hid H1
  have HR := Lib.hid (hr.next b0)
  have HP := Lib.hid P
  have HB := Lib.hid b0
  have HNA := Lib.hid (show ∀ k, (Value.slice a s.out.length cap).ownBlock = some k → k < w.heap.size from fun k hk => (own_type hr k hk).1)
  have c5 := H1.c5
  have c1 := H1.c1
  have c2 := H1.c2
  have hnq : w.heap.size ≠ q := fun e => by have := H.lt; omega
  have eox : (openM s).ox = s.ox ∧ (openM s).oy = s.oy := by unfold openM begM; split <;> exact ⟨rfl, rfl⟩
  clear H P H1 hr
  unfold Seg.val
  go_enter Tryd.func79, Tryd.ntmps79
  by_cases hop : s.op = true
  · rw [hop] at c5
    have eO : openM s = s := by unfold openM; rw [if_pos hop]
    go_wp2_with fail
    generalize hW2 : w.alloc (.cells #[.int .i64 g.kind, .int .i64 g.tx, .int .i64 g.ty, .int .i64 g.ax, .int .i64 g.ay, .int .i64 g.cx, .int .i64 g.cy, .int .i64 g.rx, .int .i64 g.ry, .int .i64 g.turn, .bool g.lg, .bool g.sw] 43) = W2 at *
    obtain ⟨s1, hS1⟩ : ∃ s1, s1 = openM s := ⟨_, rfl⟩
    have hs1 : s1 = s := hS1.trans eO
    have HS1 := Lib.hid (show StAt q (.slice a s1.out.length cap) s1 W2 by rw [hs1]; exact HS.out)
    have HR1 := Lib.hid (show Segs R (.slice a s1.out.length cap) s1.out W2 by rw [hs1]; exact HR.out)
    have HN1 := Lib.hid HP.out
    have HK1 := Lib.hid (show KepS q w W2 from KepS.of_below b0)
    have HNO := Lib.hid (show some w.heap.size ≠ (Value.slice a s1.out.length cap).ownBlock from fun e => by have := HNA.out w.heap.size (by rw [← hs1]; exact e.symm); omega)
    have hl1 : s1.out.length ≤ 100000000 := by rw [hs1]; omega
    have HE := Lib.hid hS1
    clear HS HR HP HB HNA c1 c2 c5 b0 eO hs1 hS1
    have c0 := HS1.out.c0
    obtain ⟨g0, g1, g2, g3, g4, g5, g6, g7, g8, g9, g10, g11⟩ := SegAt.of_block HN1.out
    simp only [Nat.zero_add] at g1 g2 g3 g4 g5 g6 g7 g8 g9 g10 g11
    have bel : Below W2.heap.size W2 (W2.alloc (.cells #[.int .i64 g.kind, .int .i64 g.tx, .int .i64 g.ty, .int .i64 g.ax, .int .i64 g.ay, .int .i64 g.cx, .int .i64 g.cy, .int .i64 g.rx, .int .i64 g.ry, .int .i64 g.turn, .bool g.lg, .bool g.sw] 43)).drew := ((Below.refl _ W2).alloc (Nat.le_refl _) _).drew
    have HR2 := Lib.hid (HR1.out.next bel)
    have HS2 := Lib.hid (HS1.out.next bel)
    have HN2 := Lib.hid (HN1.out.next bel)
    have HN := Lib.hid (show (W2.alloc (.cells #[.int .i64 g.kind, .int .i64 g.tx, .int .i64 g.ty, .int .i64 g.ax, .int .i64 g.ay, .int .i64 g.cx, .int .i64 g.cy, .int .i64 g.rx, .int .i64 g.ry, .int .i64 g.turn, .bool g.lg, .bool g.sw] 43)).drew.heap[W2.heap.size]? = some (.cells g.cells.toArray 43) from World.alloc_heap_new W2 _)
    have hno := HS2.out.not_own HR2.out
    have hB2 : R ≤ (W2.alloc (.cells #[.int .i64 g.kind, .int .i64 g.tx, .int .i64 g.ty, .int .i64 g.ax, .int .i64 g.ay, .int .i64 g.cx, .int .i64 g.cy, .int .i64 g.rx, .int .i64 g.ry, .int .i64 g.turn, .bool g.lg, .bool g.sw] 43)).drew.heap.size := Nat.le_trans (Nat.le_trans hR HK1.out.size) bel.size
    have hN2 : w.heap.size < W2.heap.size := HN1.out.lt
    have hq2 := HS1.out.lt
    go_region_law ((refine step_seg (by rfl) (.tmp 19) (.tmp 21) (by rfl) g HR2.out (by rfl) HN.out (by rfl) hl1 hB2 _ rfl ?_; intro b cap' w3 hown3 hg3 hv3 hlt3; have st3 := HS2.out.grown hg3 hno; have z3 := st3.z 0; have k3 := st3.c0))
    all_goals
      obtain ⟨s3, hs3⟩ : ∃ s3 : NS, s3 = ⟨s1.out ++ [g], s1.px, s1.py, s1.qx, s1.qy, s1.op, s1.ox, s1.oy⟩ := ⟨_, rfl⟩
      have st4 := st3.set0 (.slice (some ⟨b, 0, none⟩) (s1.out.length + 1) cap') s3 (by rw [hs3]) (by rw [hs3]) (by rw [hs3]) (by rw [hs3]) (by rw [hs3]) (by rw [hs3]) (by rw [hs3])
      have HS4 := Lib.hid st4
      have HR4 := Lib.hid (hown3.set (st3.not_own hown3) 0 (.slice (some ⟨b, 0, none⟩) (s1.out.length + 1) cap'))
      have nn4 := ((HN2.out.grown hg3 HNO.out).other hnq 0 (.slice (some ⟨b, 0, none⟩) (s1.out.length + 1) cap') (q := q))
      have HK4 := Lib.hid ((HK1.out.grown bel HR2.out hqR hg3).set 0 (.slice (some ⟨b, 0, none⟩) (s1.out.length + 1) cap'))
      generalize w3.setCell ⟨q, 0, none⟩ (.slice (some ⟨b, 0, none⟩) (s1.out.length + 1) cap') = W4 at *
      clear g0 g1 g2 g3 g4 g5 g6 g7 g8 g9 g10 g11
      obtain ⟨g0, g1, g2, _⟩ := SegAt.of_block nn4
      simp only [Nat.zero_add] at g1 g2
      have k1 := st4.c1
      have k2 := st4.c2
      have z1 := st4.z 1
      have z2 := st4.z 2
      clear st4 nn4 hg3 hown3 bel HS2 HN2 HR2 HN st3 hv3 hlt3 HS1 HR1 HN1 HK1
      go_wp2_with fail
      go_end0
      have hn4 := HS4.out.not_own HR4.out
      refine ⟨rfl, ⟨.slice (some ⟨b, 0, none⟩) (s1.out.length + 1) cap', ?_, ?_⟩, ?_⟩
      · exact HS4.out.sets2 (s' := addM s g) (by rw [hs3, HE.out]; rfl) (by rw [hs3, HE.out]; rfl) (by rw [hs3, HE.out]; rfl) (by rw [hs3, HE.out]; exact eox.1.symm) (by rw [hs3, HE.out]; exact eox.2.symm)
      · have h5 := (HR4.out.set hn4 1 (.int .i64 g.tx)).set hn4 2 (.int .i64 g.ty)
        rw [show (addM s g).out = s1.out ++ [g] by rw [HE.out]; rfl]
        exact h5
      · exact (HK4.out.set _ _).set _ _
  · have hop' : s.op = false := by simpa using hop
    rw [hop'] at c5
    have eO : openM s = begM s s.px s.py := by unfold openM; rw [if_neg hop]
    have BG := Lib.hid (begin_any q R (.slice a s.out.length cap) s s.px s.py _ HS.out HR.out (by have := HB.out.size; omega) (by omega))
    go_wp2_with fail
    generalize hW1 : w.alloc (.cells #[.int .i64 g.kind, .int .i64 g.tx, .int .i64 g.ty, .int .i64 g.ax, .int .i64 g.ay, .int .i64 g.cx, .int .i64 g.cy, .int .i64 g.rx, .int .i64 g.ry, .int .i64 g.turn, .bool g.lg, .bool g.sw] 43) = W1 at *
    refine BG.out.mono ?_
    rintro e W2 ⟨rfl, v1, t1, t2, t3, t4⟩
    obtain ⟨s1, hS1⟩ : ∃ s1, s1 = openM s := ⟨_, rfl⟩
    have hs1 : s1 = begM s s.px s.py := hS1.trans eO
    rw [← hs1] at t1 t2
    obtain ⟨a1, cap1, rfl⟩ := t2.shape
    have hk4 : KepS q w W2 := (KepS.of_below b0).trans (KepS.of_kep t3 HR.out hqR)
    have hne : some w.heap.size ≠ (Value.slice a s.out.length cap).ownBlock := fun e => by have := HNA.out w.heap.size e.symm; omega
    have HS1 := Lib.hid t1
    have HR1 := Lib.hid t2
    have HN1 := Lib.hid (show BoxS w.heap.size g W2 from (t3.block w.heap.size HP.out.lt hnq hne).trans HP.out)
    have HK1 := Lib.hid hk4
    have HNO := Lib.hid (show some w.heap.size ≠ (Value.slice a1 s1.out.length cap1).ownBlock from fun e => by
      have hlt := HP.out.lt
      rcases t4 w.heap.size e.symm with h | h
      · exact hne h.symm
      · omega)
    have hl1 : s1.out.length ≤ 100000000 := by have := open_len s; rw [← hS1] at this; omega
    have HE := Lib.hid hS1
    clear HS HR HP HB HNA c1 c2 c5 b0 eO BG t1 t2 t3 t4 hk4 hne hs1 hS1
    go_wp2_with fail
    have c0 := HS1.out.c0
    obtain ⟨g0, g1, g2, g3, g4, g5, g6, g7, g8, g9, g10, g11⟩ := SegAt.of_block HN1.out
    simp only [Nat.zero_add] at g1 g2 g3 g4 g5 g6 g7 g8 g9 g10 g11
    have bel : Below W2.heap.size W2 (W2.alloc (.cells #[.int .i64 g.kind, .int .i64 g.tx, .int .i64 g.ty, .int .i64 g.ax, .int .i64 g.ay, .int .i64 g.cx, .int .i64 g.cy, .int .i64 g.rx, .int .i64 g.ry, .int .i64 g.turn, .bool g.lg, .bool g.sw] 43)).drew := ((Below.refl _ W2).alloc (Nat.le_refl _) _).drew
    have HR2 := Lib.hid (HR1.out.next bel)
    have HS2 := Lib.hid (HS1.out.next bel)
    have HN2 := Lib.hid (HN1.out.next bel)
    have HN := Lib.hid (show (W2.alloc (.cells #[.int .i64 g.kind, .int .i64 g.tx, .int .i64 g.ty, .int .i64 g.ax, .int .i64 g.ay, .int .i64 g.cx, .int .i64 g.cy, .int .i64 g.rx, .int .i64 g.ry, .int .i64 g.turn, .bool g.lg, .bool g.sw] 43)).drew.heap[W2.heap.size]? = some (.cells g.cells.toArray 43) from World.alloc_heap_new W2 _)
    have hno := HS2.out.not_own HR2.out
    have hB2 : R ≤ (W2.alloc (.cells #[.int .i64 g.kind, .int .i64 g.tx, .int .i64 g.ty, .int .i64 g.ax, .int .i64 g.ay, .int .i64 g.cx, .int .i64 g.cy, .int .i64 g.rx, .int .i64 g.ry, .int .i64 g.turn, .bool g.lg, .bool g.sw] 43)).drew.heap.size := Nat.le_trans (Nat.le_trans hR HK1.out.size) bel.size
    have hN2 : w.heap.size < W2.heap.size := HN1.out.lt
    have hq2 := HS1.out.lt
    go_region_law ((refine step_seg (by rfl) (.tmp 19) (.tmp 21) (by rfl) g HR2.out (by rfl) HN.out (by rfl) hl1 hB2 _ rfl ?_; intro b cap' w3 hown3 hg3 hv3 hlt3; have st3 := HS2.out.grown hg3 hno; have z3 := st3.z 0; have k3 := st3.c0))
    all_goals
      obtain ⟨s3, hs3⟩ : ∃ s3 : NS, s3 = ⟨s1.out ++ [g], s1.px, s1.py, s1.qx, s1.qy, s1.op, s1.ox, s1.oy⟩ := ⟨_, rfl⟩
      have st4 := st3.set0 (.slice (some ⟨b, 0, none⟩) (s1.out.length + 1) cap') s3 (by rw [hs3]) (by rw [hs3]) (by rw [hs3]) (by rw [hs3]) (by rw [hs3]) (by rw [hs3]) (by rw [hs3])
      have HS4 := Lib.hid st4
      have HR4 := Lib.hid (hown3.set (st3.not_own hown3) 0 (.slice (some ⟨b, 0, none⟩) (s1.out.length + 1) cap'))
      have nn4 := ((HN2.out.grown hg3 HNO.out).other hnq 0 (.slice (some ⟨b, 0, none⟩) (s1.out.length + 1) cap') (q := q))
      have HK4 := Lib.hid ((HK1.out.grown bel HR2.out hqR hg3).set 0 (.slice (some ⟨b, 0, none⟩) (s1.out.length + 1) cap'))
      generalize w3.setCell ⟨q, 0, none⟩ (.slice (some ⟨b, 0, none⟩) (s1.out.length + 1) cap') = W4 at *
      clear g0 g1 g2 g3 g4 g5 g6 g7 g8 g9 g10 g11
      obtain ⟨g0, g1, g2, _⟩ := SegAt.of_block nn4
      simp only [Nat.zero_add] at g1 g2
      have k1 := st4.c1
      have k2 := st4.c2
      have z1 := st4.z 1
      have z2 := st4.z 2
      clear st4 nn4 hg3 hown3 bel HS2 HN2 HR2 HN st3 hv3 hlt3 HS1 HR1 HN1 HK1
      go_wp2_with fail
      go_end0
      have hn4 := HS4.out.not_own HR4.out
      refine ⟨rfl, ⟨.slice (some ⟨b, 0, none⟩) (s1.out.length + 1) cap', ?_, ?_⟩, ?_⟩
      · exact HS4.out.sets2 (s' := addM s g) (by rw [hs3, HE.out]; rfl) (by rw [hs3, HE.out]; rfl) (by rw [hs3, HE.out]; rfl) (by rw [hs3, HE.out]; exact eox.1.symm) (by rw [hs3, HE.out]; exact eox.2.symm)
      · have h5 := (HR4.out.set hn4 1 (.int .i64 g.tx)).set hn4 2 (.int .i64 g.ty)
        rw [show (addM s g).out = s1.out ++ [g] by rw [HE.out]; rfl]
        exact h5
      · exact (HK4.out.set _ _).set _ _
end Go.Proofs.YtgiibcnakiggaaaDoor
