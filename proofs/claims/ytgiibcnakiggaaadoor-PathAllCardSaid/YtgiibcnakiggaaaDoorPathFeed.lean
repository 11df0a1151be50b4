/-
  A range over an iterator that keeps a reader of its own and writes it between two rounds (path.All): the statement's law, for a loop that is left by one break at the most.
-/
import Derived.Test.YtgiibcnakiggaaaDoorPathRead
import Derived.Test.YtgiibcnakiggaaaDoorIter
import Derived.Test.YtgiibcnakiggaaaDoorRangeOpen
namespace Go.Proofs.YtgiibcnakiggaaaDoor
open Go.RowKit Go.Shelf

/-- An object that is no cells stays where it lay. -/
theorem noncells_new {W W' : World} {k : Nat} {o : Obj} (h : W.heap[k]? = some o) (hb : Below W.heap.size W W') : W'.heap[k]? = some o :=
  (hb.block k (Array.getElem?_eq_some_iff.1 h).1).trans h
theorem noncells_rdr {W W' : World} {k b j : Nat} {s : ByteArray} {o : Obj} (h : W.heap[k]? = some o) (ho : o.isCells = false) (hr : Rdr b s j W) (t : Turned b W W') : W'.heap[k]? = some o := by
  refine (t.block k (Array.getElem?_eq_some_iff.1 h).1 ?_).trans h
  rintro rfl
  unfold Rdr at hr
  rw [hr] at h
  cases h
  cases ho
theorem Abide.beside {s : ByteArray} {D k k' : Nat} {o o' : Obj} {J : List Cmd → World → Prop} (h : Abide s D J) (ho : o.isCells = false) (ho' : o'.isCells = false) :
    Abide s D (fun pre W => J pre W ∧ W.heap[k]? = some o ∧ W.heap[k']? = some o') :=
  ⟨fun pre W W' hj hb => ⟨h.new pre W W' hj.1 hb, noncells_new hj.2.1 hb, noncells_new hj.2.2 hb⟩,
   fun pre W W' b j hj hd hr t => ⟨h.rdr pre W W' b j hj.1 hd hr t, noncells_rdr hj.2.1 ho hr t, noncells_rdr hj.2.2 ho' hr t⟩⟩
theorem Abide.later {s : ByteArray} {D D' : Nat} {J : List Cmd → World → Prop} (h : Abide s D J) (hd : D ≤ D') : Abide s D' J :=
  ⟨h.new, fun pre W W' b k hj hb => h.rdr pre W W' b k hj (Nat.le_trans hd hb)⟩
/-- What a round keeps of what the iterator reads. -/
structure KeepsR (s : ByteArray) (D : Nat) (A B : World) : Prop where
  below : Below gN A B
  rdr : ∀ b k, D ≤ b → Rdr b s k A → Rdr b s k B
theorem KeepsR.trans {s : ByteArray} {D : Nat} {A B C : World} (h : KeepsR s D A B) (k : KeepsR s D B C) : KeepsR s D A C :=
  ⟨h.below.trans k.below, fun b j hb hr => k.rdr b j hb (h.rdr b j hb hr)⟩
theorem KeepsR.later {s : ByteArray} {D D' : Nat} {A B : World} (h : KeepsR s D A B) (hd : D ≤ D') : KeepsR s D' A B := ⟨h.below, fun b j hb hr => h.rdr b j (Nat.le_trans hd hb) hr⟩
theorem KeepsR.put {s : ByteArray} {D : Nat} {W : World} {l : Nat} {o o' : Obj} (hl : W.heap[l]? = some o) (ho : o.isCells = false) (hg : gN ≤ l) : KeepsR s D W (W.putObj l o') := by
  refine ⟨⟨rfl, rfl, rfl, by simp [World.putObj], fun k hk => World.putObj_heap_other (by omega)⟩, fun b j _ hr => ?_⟩
  refine (World.putObj_heap_other ?_).trans hr
  rintro rfl
  unfold Rdr at hr
  rw [hr] at hl
  cases hl
  cases ho
/-- The contract of an iterator that hands the commands RES, each with its numbers in a row of their own. -/
def FeedsR (s : ByteArray) (RES : List Cmd) (F : Fence) (n : Nat) (gf : Nat) (lb : Array Value) (w0 : World) : Prop :=
  ∀ (l : Nat) (J Jx : List Cmd → World → Prop) (W : World), Below w0.heap.size w0 W → Abide s W.heap.size J → Abide s W.heap.size Jx →
    (∀ pre (x : Cmd) av W1, J pre W1 → W.heap.size ≤ W1.heap.size → pre.length ≤ 65536 → x.letter < 256 → W1.ownsRow W.heap.size 2 1 av x.args.length (ints x.args) →
      YieldAt F (n - 1) Tryd.prog l #[.agg #[.int .u8 (x.letter : Int), av]] W1 fun e W' =>
        (e = .returned (.bool true) ∧ J (pre ++ [x]) W' ∧ KeepsR s W.heap.size W1 W') ∨ (e = .returned (.bool false) ∧ Jx (pre ++ [x]) W')) →
    J [] W →
    CallsIn F n Tryd.prog gf (#[.func (.yield l) #[] #[]] ++ lb) W fun e W' => (∃ v, e = .returned v) ∧ (J RES W' ∨ ∃ pre, pre <+: RES ∧ Jx pre W')
/-- How a round's body may be left: it goes on; or it breaks off. -/
def bodyR (s : ByteArray) (D j : Nat) (I Ix : List Cmd → World → Prop) (xs : List Cmd) (W : World) : Exit → Act → World → Prop
  | .normal, _, W' => KeepsFrom D W W' ∧ KeepsR s D W W' ∧ I xs W'
  | .exit id, _, W' => id = j ∧ KeepsFrom D W W' ∧ Ix xs W'
  | _, _, _ => False

set_option maxHeartbeats 1000000 in
theorem wpIn_feeds {s : ByteArray} {RES : List Cmd} {F : Fence} {n j : Nat} {g : Operand} {p : Tmp} {assign body : Code} {Q : Exit → Act → World → Prop} {a : Act} {w w0 : World}
    (hro : F.round = none) (h1 : 1 ≤ n) {gf : Nat} {lb : Array Value} (hg : a.eval g = .func (.func gf) #[] lb) (hFg : F.fn gf) (eg : ∀ args w, (callFunc gf args).run Tryd.prog w = .ok (.enter gf args) w)
    (hf : FeedsR s RES F (n - 1) gf lb w0) (hb0 : Below w0.heap.size w0 w) (hgn : gN ≤ w.heap.size)
    (I Ix : List Cmd → World → Prop) (hI : OwnFrom w.heap.size I) (hIx : OwnFrom w.heap.size Ix) (aI : Abide s w.heap.size I) (aIx : Abide s w.heap.size Ix) (h0 : I [] w)
    (Ax : Cmd → Value → Act → World → Prop) (hAx : ∀ x av a', OwnFrom w.heap.size (fun (_ : Unit) W => Ax x av a' W))
    (hassign : ∀ (l : Nat) pre (x : Cmd) av (W : World) (K : Act → World → Prop), I pre W → w.heap.size ≤ W.heap.size → pre.length ≤ 65536 → x.letter < 256 → W.ownsRow w.heap.size 2 1 av x.args.length (ints x.args) →
      (∀ a' W', KeepsFrom w.heap.size W W' → KeepsR s w.heap.size W W' → I pre W' → Ax x av a' W' → K a' W') →
      assign.wpIn (F.inRound l) (n - 1 - 1) Tryd.prog (Exit.then K (fun _ _ _ => False)) { tmps := (#[p].zip #[Value.agg #[.int .u8 (x.letter : Int), av]]).foldl (fun t (p, v) => t.setIfInBounds p v) a.tmps, defers := [] } W)
    (hbody : ∀ (l : Nat) pre (x : Cmd) av a' (W : World), I pre W → Ax x av a' W → w.heap.size ≤ W.heap.size → pre.length ≤ 65536 → x.letter < 256 → body.wpIn (F.inRound l) (n - 1 - 1) Tryd.prog (bodyR s w.heap.size j I Ix (pre ++ [x]) W) a' W)
    (hdone : ∀ (D : Nat) (W : World), w.heap.size ≤ D → I RES W → W.heap[D]? = some (.deferred (some [])) → Q .normal { a with defers := { target := .collected D, args := #[] } :: a.defers } W)
    (hstop : ∀ (D : Nat) pre (W : World), w.heap.size ≤ D → pre <+: RES → Ix pre W → W.heap[D]? = some (.deferred (some [])) → (Code.exit j).wpIn F n Tryd.prog Q { a with defers := { target := .collected D, args := #[] } :: a.defers } W) :
    (Code.rangeFunc g #[p] assign body).wpIn F n Tryd.prog Q a w := by
  refine wpIn_range_open hro h1 hg hFg eg fun fn hfn W1 hW1 => ?_
  obtain ⟨R, hR⟩ : ∃ R : LoopState → Option Code → Obj, R = fun st pe => .loop { state := st, pending := pe, fn := fn, tmps := a.tmps, params := #[p], assign, body, defers := w.heap.size } := ⟨_, rfl⟩
  rw [show Obj.loop { state := .ready, pending := none, fn := fn, tmps := a.tmps, params := #[p], assign, body, defers := w.heap.size } = R .ready none from by rw [hR]] at hW1
  · skip
    have ncl : ∀ st pe, (R st pe).isCells = false := fun st pe => by rw [hR]; rfl
    have ncw : ∀ st pe, (R st pe).isWalk = false := fun st pe => by rw [hR]; rfl
    have hsz : W1.heap.size = w.heap.size + 2 := by rw [← hW1]; simp
    have hL : W1.heap[w.heap.size + 1]? = some (R .ready none) := by
      rw [← hW1]
      have := World.alloc_heap_new (w.alloc (.deferred (some []))) (R .ready none)
      rwa [World.size_alloc] at this
    have hD : W1.heap[w.heap.size]? = some (.deferred (some [])) := by
      rw [← hW1]
      exact (Below.heap_alloc _ _ _ (by simp)).trans (World.alloc_heap_new w _)
    have hI1 : I [] W1 := by rw [← hW1]; exact hI.alloc _ (hI.alloc _ h0)
    have hB1 : Below w0.heap.size w0 W1 := by
      rw [← hW1]
      exact (hb0.alloc (Nat.le_trans hb0.size (Nat.le_refl _)) _).alloc (by have := hb0.size; simp; omega) _
    refine (hf (w.heap.size + 1)
      (fun pre W => I pre W ∧ W.heap[w.heap.size + 1]? = some (R .ready none) ∧ W.heap[w.heap.size]? = some (.deferred (some [])))
      (fun pre W => Ix pre W ∧ W.heap[w.heap.size + 1]? = some (R .done (some (.exit j))) ∧ W.heap[w.heap.size]? = some (.deferred (some [])))
      W1 hB1 ((aI.later (by omega)).beside (ncl _ _) rfl) ((aIx.later (by omega)).beside (ncl _ _) rfl) ?_ ⟨hI1, hL, hD⟩).mono ?_
    · rintro pre x av W ⟨hi, hl, hd⟩ hle hlen hx hrow
      have hrow' : W.ownsRow w.heap.size 2 1 av x.args.length (ints x.args) := own_lower hrow (by omega)
      have hl' := hl
      rw [hR] at hl'
      have hy := run_yield (P := Tryd.prog) (args := #[.agg #[.int .u8 (x.letter : Int), av]]) hl' rfl
      refine ⟨_, _, _, _, hy, roundIn_of_wpIn hfn (hassign _ pre x av W _ hi (by omega) hlen hx hrow' ?_)⟩
      intro a' Wa kf kr hia hax
      have hla := kf.same _ _ (by omega) hl (ncl _ _)
      have hda := kf.same _ _ (Nat.le_refl _) hd rfl
      have hlt : w.heap.size + 1 < Wa.heap.size := (Array.getElem?_eq_some_iff.1 hla).1
      have hla' := hla
      rw [hR] at hla'
      have hbr := run_beginRound (P := Tryd.prog) hla' rfl
      refine ⟨_, hbr, ?_⟩
      obtain ⟨W2, hW2⟩ : ∃ W2, Wa.putObj (w.heap.size + 1) (R .busy none) = W2 := ⟨_, rfl⟩
      have hW2' := hW2
      rw [hR] at hW2'
      rw [show Wa.putObj (w.heap.size + 1) _ = W2 from hW2']
      have hl2 : W2.heap[w.heap.size + 1]? = some (R .busy none) := by rw [← hW2]; exact World.putObj_heap_same hlt
      have hd2 : W2.heap[w.heap.size]? = some (.deferred (some [])) := by rw [← hW2]; exact (World.putObj_heap_other (by omega)).trans hda
      have kr2 : KeepsR s w.heap.size Wa W2 := by rw [← hW2]; exact KeepsR.put hla (ncl _ _) (by omega)
      have hi2 : I pre W2 := by rw [← hW2]; exact hI.putObj _ hia (by omega) hla (ncl _ _)
      have hax2 : Ax x av a' W2 := by rw [← hW2]; exact (hAx x av a').putObj (s := ()) _ hax (by omega) hla (ncl _ _)
      have hs2 : w.heap.size ≤ W2.heap.size := by have := (Array.getElem?_eq_some_iff.1 hl2).1; omega
      refine wpIn_mono (hbody _ pre x av a' W2 hi2 hax2 hs2 hlen hx) ?_
      clear hW2 hW2' hbr hy hl'
      rintro e a3 W3 hp
      cases e with
      | normal =>
        obtain ⟨kf3, kr3, hi3⟩ := hp
        have hl3 := kf3.same _ _ (by omega) hl2 (ncl _ _)
        have hd3 := kf3.same _ _ (Nat.le_refl _) hd2 rfl
        have hl3' := hl3
        rw [hR] at hl3'
        have hr := run_endRound (P := Tryd.prog) none hl3'
        refine ⟨_, _, hr, .inl ⟨rfl, ⟨hI.putObj _ hi3 (by omega) hl3 (ncl _ _), ?_, ?_⟩, ?_⟩⟩
        · rw [hR]; exact World.putObj_heap_same (Array.getElem?_eq_some_iff.1 hl3).1
        · exact (World.putObj_heap_other (by omega)).trans hd3
        · exact (((kr.trans kr2).trans kr3).trans (KeepsR.put hl3 (ncl _ _) (by omega))).later (by omega)
      | exit id =>
        obtain ⟨rfl, kf3, hi3⟩ := hp
        have hl3 := kf3.same _ _ (by omega) hl2 (ncl _ _)
        have hd3 := kf3.same _ _ (Nat.le_refl _) hd2 rfl
        have hl3' := hl3
        rw [hR] at hl3'
        have hr := run_endRound (P := Tryd.prog) (some (.exit id)) hl3'
        refine ⟨_, _, hr, .inr ⟨rfl, hIx.putObj _ hi3 (by omega) hl3 (ncl _ _), ?_, ?_⟩⟩
        · rw [hR]; exact World.putObj_heap_same (Array.getElem?_eq_some_iff.1 hl3).1
        · exact (World.putObj_heap_other (by omega)).trans hd3
      | ret => exact hp.elim
      | goto t => exact hp.elim
      | panic c => exact hp.elim
      | outgrown => exact hp.elim
    · rintro e W2 ⟨⟨v, rfl⟩, (⟨hi, hl, hd⟩ | ⟨pre, hpre, hi, hl, hd⟩)⟩
      · have hl' := hl
        rw [hR] at hl'
        have hr := run_endLoop (P := Tryd.prog) hl' (by simp)
        exact ⟨none, _, hr, hdone _ _ (Nat.le_refl _) (hI.putObj _ hi (by omega) hl (ncl _ _)) ((World.putObj_heap_other (by omega)).trans hd)⟩
      · have hl' := hl
        rw [hR] at hl'
        have hr := run_endLoop (P := Tryd.prog) hl' (by simp)
        exact ⟨some (.exit j), _, hr, hstop _ pre _ (Nat.le_refl _) hpre (hIx.putObj _ hi (by omega) hl (ncl _ _)) ((World.putObj_heap_other (by omega)).trans hd)⟩
end Go.Proofs.YtgiibcnakiggaaaDoor
