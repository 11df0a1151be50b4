/-
  The contracts of package norm's small calls on the state: at, last, begin, add, mirrored.
-/
import Derived.Test.YtgiibcnakiggaaaDoorNormMem
import Derived.Deep.RegionLaw
namespace Go.Proofs.YtgiibcnakiggaaaDoor
open Go.RowKit Go.Shelf

/-- A point's two cells, new. -/
def PtAt (n : Nat) (x y : Int) (w : World) : Prop := w.heap[n]? = some (.cells #[.int .i64 x, .int .i64 y] 41)
theorem PtAt.new (w : World) (x y : Int) : PtAt w.heap.size x y (w.alloc (.cells #[.int .i64 x, .int .i64 y] 41)) := World.alloc_heap_new w _
theorem PtAt.c0 {n : Nat} {x y : Int} {w : World} (h : PtAt n x y w) : w.cell? ⟨n, 0, none⟩ = some (.int .i64 x) := by unfold PtAt at h; simp [World.cell?, h]
theorem PtAt.c1 {n : Nat} {x y : Int} {w : World} (h : PtAt n x y w) : w.cell? ⟨n, 1, none⟩ = some (.int .i64 y) := by unfold PtAt at h; simp [World.cell?, h]
theorem PtAt.z {n : Nat} {x y : Int} {w : World} (h : PtAt n x y w) (o : Nat) : w.frozen? ⟨n, o, none⟩ = false := by unfold PtAt at h; simp [World.frozen?, h]
theorem PtAt.set {n : Nat} {x y : Int} {w : World} (h : PtAt n x y w) (x' y' : Int) : PtAt n x' y' ((w.setCell ⟨n, 0, none⟩ (.int .i64 x')).setCell ⟨n, 1, none⟩ (.int .i64 y')) := by
  unfold PtAt at *
  simp only [World.setCell, Array.getElem?_modify, h]
  simp
theorem PtAt.lt {n : Nat} {x y : Int} {w : World} (h : PtAt n x y w) : n < w.heap.size := by
  unfold PtAt at h; exact (Array.getElem?_eq_some_iff.1 h).1
theorem PtAt.next {n : Nat} {x y : Int} {w w' : World} (h : PtAt n x y w) (t : Below w.heap.size w w') : PtAt n x y w' := by
  have := h.lt
  unfold PtAt at *; rw [t.block n this]; exact h
theorem PtAt.grown {n : Nat} {x y : Int} {W W' : World} {row : Option Nat} {R : Nat} {v : Value} {l : List Seg} (h : PtAt n x y W) (hg : W.grownBy W' row) (hr : Segs R v l W) (hv : v.ownBlock = row) : PtAt n x y W' := by
  have hl := h.lt
  unfold PtAt at *
  rw [hg.block n hl fun e => ?_]
  · exact h
  · obtain ⟨_, _, cur, hc⟩ := own_type hr n (hv.trans e.symm)
    rw [h] at hc
    injection hc with hc
    injection hc with _ hc
    exact absurd hc (by decide)
theorem PtAt.other {n q : Nat} {x y : Int} {W : World} (h : PtAt n x y W) (hn : n ≠ q) (o : Nat) (v : Value) : PtAt n x y (W.setCell ⟨q, o, none⟩ v) := by
  unfold PtAt at *; rw [Below.heap_setCell _ _ _ _ (by exact hn)]; exact h
/-- A point is answered out of a cell of the call's own. -/
theorem pt_close {f : Func} {n k : Nat} (hres : f.results = #[ResultVar.cell k 41]) {w wr : World} {x y : Int} {ts : Array Value} (hp : PtAt n x y wr) (hb : Below w.heap.size w wr) (hts : ts[k]? = some (.pointer (some ⟨n, 0, none⟩))) :
    bodyPost Tryd.prog f (fun e w' => e = .returned (ptV x y) ∧ Below w.heap.size w w') .ret { tmps := ts, defers := [] } wr := by
  have c0 := hp.c0
  have c1 := hp.c1
  exact bodyPost_ret (v := ptV x y) (by simp [results, hres, go_sem, c0, c1, hts, ptV]) rfl ⟨rfl, hb⟩

set_option maxRecDepth 100000 in
theorem nat_any (q : Nat) (v : Value) (s : NS) (x y : Int) (w : World) (H : StAt q v s w) (hx : I64 (s.ox + x)) (hy : I64 (s.oy + y)) :
    Calls Tryd.prog 78 #[.pointer (some ⟨q, 0, none⟩), .int .i64 x, .int .i64 y] w fun e w' => e = .returned (ptV (s.ox + x) (s.oy + y)) ∧ Below w.heap.size w w' := by
  have e1 : IntKind.i64.wrap (s.ox + x) = s.ox + x := IntWalk.i64_in _ hx
  have e2 : IntKind.i64.wrap (s.oy + y) = s.oy + y := IntWalk.i64_in _ hy
  have b0 := (Below.refl w.heap.size w).alloc (Nat.le_refl _) (.cells #[.int .i64 0, .int .i64 0] 41)
  have P := PtAt.new w 0 0
  have H1 := H.next b0
  have B := Lib.hid b0
  have HP := Lib.hid P
  have c6 := H1.c6
  have c7 := H1.c7
  have z0 := P.z 0
  have z1 := P.z 1
  clear b0 H P H1
  go_enter Tryd.func78, Tryd.ntmps78
  go_wp2_with fail
  go_region
  all_goals
    go_wp2_with fail
    exact pt_close Tryd.results78 (PtAt.new w _ _) ((Below.refl w.heap.size w).alloc (Nat.le_refl _) _).drew rfl
/-- A segment is answered out of a cell of the call's own. -/
theorem seg_close {f : Func} {n k : Nat} (hres : f.results = #[ResultVar.cell k 43]) {w wr : World} {g : Seg} {ts : Array Value} (hp : SegAt n 0 g wr) (hb : Below w.heap.size w wr) (hts : ts[k]? = some (.pointer (some ⟨n, 0, none⟩))) :
    bodyPost Tryd.prog f (fun e w' => e = .returned g.val ∧ Below w.heap.size w w') .ret { tmps := ts, defers := [] } wr := by
  obtain ⟨c0, c1, c2, c3, c4, c5, c6, c7, c8, c9, c10, c11⟩ := hp
  simp only [Nat.zero_add] at c1 c2 c3 c4 c5 c6 c7 c8 c9 c10 c11
  exact bodyPost_ret (v := g.val) (by simp [results, hres, go_sem, c0, c1, c2, c3, c4, c5, c6, c7, c8, c9, c10, c11, hts, Seg.val]) rfl ⟨rfl, hb⟩
theorem SegAt.of_block {n : Nat} {g : Seg} {w : World} (h : w.heap[n]? = some (.cells g.cells.toArray 43)) : SegAt n 0 g w := by
  constructor <;> (unfold World.cell?; rw [h]; rfl)
theorem SegAt.new (w : World) (g : Seg) : SegAt w.heap.size 0 g (w.alloc (.cells #[.int .i64 g.kind, .int .i64 g.tx, .int .i64 g.ty, .int .i64 g.ax, .int .i64 g.ay, .int .i64 g.cx, .int .i64 g.cy, .int .i64 g.rx, .int .i64 g.ry, .int .i64 g.turn, .bool g.lg, .bool g.sw] 43)).drew :=
  SegAt.of_block (World.alloc_heap_new w (.cells g.cells.toArray 43))
set_option maxRecDepth 100000 in
theorem last_any7 (q R : Nat) (v : Value) (s : NS) (w : World) (H : StAt q v s w) (hr : Segs R v s.out w) (hne : s.out ≠ []) (hl : s.out.length ≤ 100000000) :
    Calls Tryd.prog 38 #[.pointer (some ⟨q, 0, none⟩)] w fun e w' => e = .returned (lastM s).val ∧ Below w.heap.size w w' := by
  have hpos : 0 < s.out.length := List.length_pos_iff.2 hne
  have b0 := (Below.refl w.heap.size w).alloc (Nat.le_refl _) (.cells #[.int .i64 0, .int .i64 0, .int .i64 0, .int .i64 0, .int .i64 0, .int .i64 0, .int .i64 0, .int .i64 0, .int .i64 0, .int .i64 0, .bool false, .bool false] 43)
  obtain ⟨a, cap, rfl, hrd, _⟩ := (hr.next b0).reads
  obtain ⟨b, off, rfl, hb, hc⟩ := hrd.pos hpos
  have hA := hc (s.out.length - 1) (by omega)
  have hlast : s.out.getD (s.out.length - 1) zeroS = lastM s := by
    unfold lastM; rw [List.getLastD_eq_getLast?, List.getLast?_eq_getElem?]; rfl
  rw [hlast] at hA
  obtain ⟨k0, k1, k2, k3, k4, k5, k6, k7, k8, k9, k10, k11⟩ := hA
  have H1 := H.next b0
  have B := Lib.hid b0
  have c0 := H1.c0
  have e1 : IntKind.i64.wrap ((s.out.length : Int) - 1) = ((s.out.length - 1 : Nat) : Int) := by rw [IntWalk.i64_in _ (by omega)]; omega
  have hi : (s.out.length - 1 : Nat) < (s.out.length : Nat) := by omega
  generalize hg : lastM s = g at *
  generalize hn : s.out.length - 1 = n at *
  generalize s.out.length = L at *
  have hiI : (n : Int) < (L : Int) := by omega
  clear b0 H H1 hr hrd hc hlast hg
  go_enter Tryd.func38, Tryd.ntmps38
  go_wp2_with fail
  go_region
  all_goals
    go_wp2_with fail
    exact seg_close Tryd.results38 (SegAt.new w g) ((Below.refl w.heap.size w).alloc (Nat.le_refl _) _).drew rfl
/-- begin: a Move, and the point and the beginning are there. -/
def BegPost (q R : Nat) (v : Value) (s' : NS) (W : World) (e : Ending) (W' : World) : Prop :=
  e = .returned (.tuple #[]) ∧ ∃ v', StAt q v' s' W' ∧ Segs R v' s'.out W' ∧ Kep q v.ownBlock W W' ∧ ∀ k, v'.ownBlock = some k → v.ownBlock = some k ∨ W.heap.size ≤ k
set_option maxHeartbeats 4000000 in
set_option maxRecDepth 100000 in
theorem begin_any (q R : Nat) (v : Value) (s : NS) (x y : Int) (w : World) (H : StAt q v s w) (hr : Segs R v s.out w) (hR : R ≤ w.heap.size) (hl : s.out.length ≤ 100000000) :
    Calls Tryd.prog 77 #[.pointer (some ⟨q, 0, none⟩), ptV x y] w (BegPost q R v (begM s x y) w) := by
  obtain ⟨a, cap, rfl⟩ := hr.shape
  have b0 := (Below.refl w.heap.size w).alloc (Nat.le_refl _) (.cells #[.int .i64 x, .int .i64 y] 41)
  have P := PtAt.new w x y
  have H1 := H.next b0
  have HS := Lib.hid H1
  have HR := Lib.hid (hr.next b0)
  have HP := Lib.hid P
  have c0 := H1.c0
  have p0 := P.c0
  have p1 := P.c1
  have hq := H1.lt
  have hnq : w.heap.size ≠ q := fun e => by have := H.lt; omega
  unfold ptV
  clear H P H1 hr
  go_enter Tryd.func77, Tryd.ntmps77
  go_wp2_with fail
  generalize hW1 : w.alloc (.cells #[.int .i64 x, .int .i64 y] 41) = W1 at *
  have hg : w.heap.size + 1 = W1.heap.size := by rw [← hW1]; simp
  have bel : Below W1.heap.size W1 (W1.alloc (.cells (segS 1 x y 0 0 0 0).cells.toArray 43)).drew := ((Below.refl _ W1).alloc (Nat.le_refl _) _).drew
  have HR2 := Lib.hid (HR.out.next bel)
  have HS2 := Lib.hid (HS.out.next bel)
  have HP2 := Lib.hid (HP.out.next bel)
  have hN : (W1.alloc (.cells (segS 1 x y 0 0 0 0).cells.toArray 43)).drew.heap[W1.heap.size]? = some (.cells (segS 1 x y 0 0 0 0).cells.toArray 43) := World.alloc_heap_new W1 _
  have HN := Lib.hid hN
  have hno := HS2.out.not_own HR2.out
  have hB2 : R ≤ (W1.alloc (.cells (segS 1 x y 0 0 0 0).cells.toArray 43)).drew.heap.size := by have := bel.size; omega
  clear hN
  go_region_law (go_loud (refine step_seg (by rfl) (.tmp 8) (.tmp 11) (by rfl) (segS 1 x y 0 0 0 0) HR2.out (by rfl) HN.out (by rfl) hl hB2 _ rfl ?_; intro b cap' w2 hown2 hg2 hv2 hlt2; have st2 := HS2.out.grown hg2 hno; have z2 := st2.z 0; have k2 := st2.c0))
  all_goals
    have HV := Lib.hid (show ∀ k, (Value.slice (some ⟨b, 0, none⟩) (s.out.length + 1) cap').ownBlock = some k → (Value.slice a s.out.length cap).ownBlock = some k ∨ w.heap.size ≤ k from fun k hk => by
      have hk' : b = k := by simpa [Value.ownBlock] using hk
      subst hk'
      rcases hv2 with h | h
      · exact Or.inl h
      · right; rw [h]; exact Nat.le_trans (show w.heap.size ≤ W1.heap.size by omega) bel.size)
    obtain ⟨s3, hs3⟩ : ∃ s3 : NS, s3 = ⟨s.out ++ [segS 1 x y 0 0 0 0], s.px, s.py, s.qx, s.qy, s.op, s.ox, s.oy⟩ := ⟨_, rfl⟩
    have st3 := st2.set0 (.slice (some ⟨b, 0, none⟩) (s.out.length + 1) cap') s3 (by rw [hs3]) (by rw [hs3]) (by rw [hs3]) (by rw [hs3]) (by rw [hs3]) (by rw [hs3]) (by rw [hs3])
    have HS3 := Lib.hid st3
    have HR3 := Lib.hid (hown2.set (st2.not_own hown2) 0 (.slice (some ⟨b, 0, none⟩) (s.out.length + 1) cap'))
    have pt3 := (HP2.out.grown hg2 HR2.out rfl).other hnq 0 (.slice (some ⟨b, 0, none⟩) (s.out.length + 1) cap') (q := q)
    have HK3 := Lib.hid ((Kep.grown (q := q) (b0.trans (bel.mono (by omega))) hg2).set 0 (.slice (some ⟨b, 0, none⟩) (s.out.length + 1) cap'))
    generalize w2.setCell ⟨q, 0, none⟩ (.slice (some ⟨b, 0, none⟩) (s.out.length + 1) cap') = W3 at *
    have p0 := pt3.c0
    have p1 := pt3.c1
    have k1 := st3.c1
    have k2 := st3.c2
    have k3 := st3.c3
    have k4 := st3.c4
    have k5 := st3.c5
    have z1 := st3.z 1
    have z2 := st3.z 2
    have z3 := st3.z 3
    have z4 := st3.z 4
    have z5 := st3.z 5
    clear st3 pt3 hg2 hown2 bel b0 HS2 HP2 HR2 HN st2 hv2 hlt2 HS HR HP
    go_wp2_with fail
    go_region
    all_goals
      go_end0
      have hn3 := HS3.out.not_own HR3.out
      refine ⟨rfl, .slice (some ⟨b, 0, none⟩) (s.out.length + 1) cap', ?_, ?_, ?_, HV.out⟩
      · exact (HS3.out.sets (s' := begM s x y) (by rw [hs3]; rfl) (by rw [hs3]; rfl)).drew
      · exact (((((HR3.out.set hn3 _ _).set hn3 _ _).set hn3 _ _).set hn3 _ _).set hn3 _ _).drew
      · exact (((((HK3.out.set _ _).set _ _).set _ _).set _ _).set _ _).drew
end Go.Proofs.YtgiibcnakiggaaaDoor
