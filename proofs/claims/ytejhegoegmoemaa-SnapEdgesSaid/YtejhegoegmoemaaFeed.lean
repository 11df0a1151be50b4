/-
  A range over an iterator that keeps variables of its own in memory of its own and writes them between two rounds: the statement's law (any program), for a loop that is left by one break at the most.
-/
import Derived.Test.YtejhegoegmoemaaIter
import Derived.Test.YtejhegoegmoemaaRangeOpen
namespace Go.Proofs.Ytejhegoegmoemaa
open Go.RowKit Go.Shelf

/-- What an invariant of the loop abides: new memory; and that a variable of the iterator's own (a box of a type among T, from block D on) is written. -/
structure AbideT {β : Type} (T : TypeId → Prop) (D : Nat) (J : List β → World → Prop) : Prop where
  new : ∀ pre W W', J pre W → Below W.heap.size W W' → J pre W'
  priv : ∀ pre W W' b t cs z, J pre W → D ≤ b → T t → W.heap[b]? = some (.cells cs t z) → But W.heap.size b W W' → J pre W'
theorem AbideT.later {β : Type} {T : TypeId → Prop} {D D' : Nat} {J : List β → World → Prop} (h : AbideT T D J) (hd : D ≤ D') : AbideT T D' J :=
  ⟨h.new, fun pre W W' b t cs z hj hb => h.priv pre W W' b t cs z hj (Nat.le_trans hd hb)⟩
theorem noncells_below {W W' : World} {k : Nat} {o : Obj} (h : W.heap[k]? = some o) (hb : Below W.heap.size W W') : W'.heap[k]? = some o :=
  (hb.block k (Array.getElem?_eq_some_iff.1 h).1).trans h
theorem noncells_but {W W' : World} {k b : Nat} {o : Obj} {cs : Array Value} {t : TypeId} {z : Nat × Nat} (h : W.heap[k]? = some o) (ho : o.isCells = false) (hc : W.heap[b]? = some (.cells cs t z)) (hb : But W.heap.size b W W') : W'.heap[k]? = some o := by
  refine (hb.block k (Array.getElem?_eq_some_iff.1 h).1 ?_).trans h
  rintro rfl
  rw [hc] at h
  cases h
  cases ho
theorem AbideT.beside {β : Type} {T : TypeId → Prop} {D k k' : Nat} {o o' : Obj} {J : List β → World → Prop} (h : AbideT T D J) (ho : o.isCells = false) (ho' : o'.isCells = false) :
    AbideT T D (fun pre W => J pre W ∧ W.heap[k]? = some o ∧ W.heap[k']? = some o') :=
  ⟨fun pre W W' hj hb => ⟨h.new pre W W' hj.1 hb, noncells_below hj.2.1 hb, noncells_below hj.2.2 hb⟩,
   fun pre W W' b t cs z hj hd ht hc hb => ⟨h.priv pre W W' b t cs z hj.1 hd ht hc hb, noncells_but hj.2.1 ho hc hb, noncells_but hj.2.2 ho' hc hb⟩⟩
/-- What a round keeps: the iterator's captured variables (blocks a to b), and its own (boxes of types among T, from block D on). -/
structure KeepsT (T : TypeId → Prop) (a b D : Nat) (A B : World) : Prop where
  mid : Mid a b A B
  priv : ∀ c t cs z, D ≤ c → T t → A.heap[c]? = some (.cells cs t z) → B.heap[c]? = some (.cells cs t z)
theorem KeepsT.trans {T : TypeId → Prop} {a b D : Nat} {A B C : World} (h : KeepsT T a b D A B) (k : KeepsT T a b D B C) : KeepsT T a b D A C :=
  ⟨h.mid.trans k.mid, fun c t cs z hd ht hc => k.priv c t cs z hd ht (h.priv c t cs z hd ht hc)⟩
theorem KeepsT.later {T : TypeId → Prop} {a b D D' : Nat} {A B : World} (h : KeepsT T a b D A B) (hd : D ≤ D') : KeepsT T a b D' A B :=
  ⟨h.mid, fun c t cs z hc => h.priv c t cs z (Nat.le_trans hd hc)⟩
theorem KeepsT.below {T : TypeId → Prop} {a b D : Nat} {W W' : World} (hb : Below W.heap.size W W') (h : b ≤ W.heap.size) : KeepsT T a b D W W' :=
  ⟨⟨hb.size, fun k _ h2 => hb.block k (by omega)⟩, fun c t cs z _ _ hc => (hb.block c (Array.getElem?_eq_some_iff.1 hc).1).trans hc⟩
theorem KeepsT.put {T : TypeId → Prop} {a b D : Nat} {W : World} {l : Nat} {o o' : Obj} (hl : W.heap[l]? = some o) (ho : o.isCells = false) (hb : b ≤ l) : KeepsT T a b D W (W.putObj l o') := by
  refine ⟨⟨by simp [World.putObj], fun k _ h2 => World.putObj_heap_other (by omega)⟩, fun c t cs z _ _ hc => (World.putObj_heap_other ?_).trans hc⟩
  rintro rfl
  rw [hc] at hl
  cases hl
  cases ho
/-- The contract of an iterator that hands the items RES, one behind the other. -/
def FeedsT {β : Type} (P : Program) (T : TypeId → Prop) (a b : Nat) (enc : β → Array Value) (RES : List β) (F : Fence) (n : Nat) (gf : Nat) (lb : Array Value) (w0 : World) : Prop :=
  ∀ (l : Nat) (J Jx : List β → World → Prop) (W : World), Mid a b w0 W → AbideT T W.heap.size J → AbideT T W.heap.size Jx →
    (∀ pre (x : β) W1, J pre W1 → W.heap.size ≤ W1.heap.size → pre ++ [x] <+: RES →
      YieldAt F (n - 1) P l (enc x) W1 fun e W' =>
        (e = .returned (.bool true) ∧ J (pre ++ [x]) W' ∧ KeepsT T a b W.heap.size W1 W') ∨ (e = .returned (.bool false) ∧ Jx (pre ++ [x]) W')) →
    J [] W →
    CallsIn F n P gf (#[.func (.yield l) #[] #[]] ++ lb) W fun e W' => (∃ v, e = .returned v) ∧ (J RES W' ∨ ∃ pre, pre <+: RES ∧ Jx pre W')
/-- How a round's body may be left: it goes on; or it breaks off. -/
def bodyT {β : Type} (T : TypeId → Prop) (a b D j : Nat) (I Ix : List β → World → Prop) (xs : List β) (W : World) : Exit → Act → World → Prop
  | .normal, _, W' => KeepsFrom D W W' ∧ KeepsT T a b D W W' ∧ I xs W'
  | .exit id, _, W' => id = j ∧ KeepsFrom D W W' ∧ Ix xs W'
  | _, _, _ => False

set_option maxHeartbeats 1000000 in
theorem wpIn_feedsT {β : Type} {P : Program} {T : TypeId → Prop} {ca cb : Nat} {enc : β → Array Value} {RES : List β} {F : Fence} {n j : Nat} {g : Operand} {ps : Array Tmp} {assign body : Code} {Q : Exit → Act → World → Prop} {a : Act} {w w0 : World}
    (hro : F.round = none) (h1 : 1 ≤ n) {gf : Nat} {lb : Array Value} (hg : a.eval g = .func (.func gf) #[] lb) (hFg : F.fn gf) (eg : ∀ args w, (callFunc gf args).run P w = .ok (.enter gf args) w)
    (hf : FeedsT P T ca cb enc RES F (n - 1) gf lb w0) (hb0 : Mid ca cb w0 w) (hcb : cb ≤ w.heap.size) (henc : ∀ x, (enc x).size = ps.size)
    (I Ix : List β → World → Prop) (hI : OwnFrom w.heap.size I) (hIx : OwnFrom w.heap.size Ix) (aI : AbideT T w.heap.size I) (aIx : AbideT T w.heap.size Ix) (h0 : I [] w)
    (Ax : β → Act → World → Prop) (hAx : ∀ x a', OwnFrom w.heap.size (fun (_ : Unit) W => Ax x a' W))
    (hassign : ∀ (l : Nat) pre (x : β) (W : World) (K : Act → World → Prop), I pre W → w.heap.size ≤ W.heap.size → pre ++ [x] <+: RES →
      (∀ a' W', KeepsFrom w.heap.size W W' → KeepsT T ca cb w.heap.size W W' → I pre W' → Ax x a' W' → K a' W') →
      assign.wpIn (F.inRound l) (n - 1 - 1) P (Exit.then K (fun _ _ _ => False)) { tmps := (ps.zip (enc x)).foldl (fun t (p, v) => t.setIfInBounds p v) a.tmps, defers := [] } W)
    (hbody : ∀ (l : Nat) pre (x : β) a' (W : World), I pre W → Ax x a' W → w.heap.size ≤ W.heap.size → pre ++ [x] <+: RES → body.wpIn (F.inRound l) (n - 1 - 1) P (bodyT T ca cb w.heap.size j I Ix (pre ++ [x]) W) a' W)
    (hdone : ∀ (D : Nat) (W : World), w.heap.size ≤ D → I RES W → W.heap[D]? = some (.deferred (some [])) → Q .normal { a with defers := { target := .collected D, args := #[] } :: a.defers } W)
    (hstop : ∀ (D : Nat) pre (W : World), w.heap.size ≤ D → pre <+: RES → Ix pre W → W.heap[D]? = some (.deferred (some [])) → (Code.exit j).wpIn F n P Q { a with defers := { target := .collected D, args := #[] } :: a.defers } W) :
    (Code.rangeFunc g ps assign body).wpIn F n P Q a w := by
  refine wpIn_range_open hro h1 hg hFg eg fun fn hfn W1 hW1 => ?_
  obtain ⟨R, hR⟩ : ∃ R : LoopState → Option Code → Obj, R = fun st pe => .loop { state := st, pending := pe, fn := fn, tmps := a.tmps, params := ps, assign, body, defers := w.heap.size } := ⟨_, rfl⟩
  rw [show Obj.loop { state := .ready, pending := none, fn := fn, tmps := a.tmps, params := ps, assign, body, defers := w.heap.size } = R .ready none from by rw [hR]] at hW1
  have ncl : ∀ st pe, (R st pe).isCells = false := fun st pe => by rw [hR]; rfl
  have ncw : ∀ st pe, (R st pe).isWalk = false := fun st pe => by rw [hR]; rfl
  have hsz : W1.heap.size = w.heap.size + 2 := by rw [← hW1]; simp
  have hL : W1.heap[w.heap.size + 1]? = some (R .ready none) := by
    rw [← hW1]
    have := World.alloc_heap_new (w.alloc (.deferred (some []))) (R .ready none)
    rwa [World.size_alloc] at this
  have hD : W1.heap[w.heap.size]? = some (.deferred (some [])) := by
    rw [← hW1]
    exact (Below.heap_alloc _ _ _ (by simp)).trans (World.alloc_heap_new w _)
  have hI1 : I [] W1 := by rw [← hW1]; exact hI.alloc _ (hI.alloc _ h0)
  have hB1 : Mid ca cb w0 W1 := by
    have b : Below w.heap.size w W1 := by rw [← hW1]; exact ((Below.refl w.heap.size w).alloc (Nat.le_refl _) _).alloc (by simp) _
    exact hb0.trans (Mid.of_below (b.mono hcb))
  refine (hf (w.heap.size + 1)
    (fun pre W => I pre W ∧ W.heap[w.heap.size + 1]? = some (R .ready none) ∧ W.heap[w.heap.size]? = some (.deferred (some [])))
    (fun pre W => Ix pre W ∧ W.heap[w.heap.size + 1]? = some (R .done (some (.exit j))) ∧ W.heap[w.heap.size]? = some (.deferred (some [])))
    W1 hB1 ((aI.later (by omega)).beside (ncl _ _) rfl) ((aIx.later (by omega)).beside (ncl _ _) rfl) ?_ ⟨hI1, hL, hD⟩).mono ?_
  · rintro pre x W ⟨hi, hl, hd⟩ hle hpx
    have hl' := hl
    rw [hR] at hl'
    have hy := run_yield (P := P) (args := enc x) hl' (henc x)
    refine ⟨_, _, _, _, hy, roundIn_of_wpIn hfn (hassign _ pre x W _ hi (by omega) hpx ?_)⟩
    intro a' Wa kf kr hia hax
    have hla := kf.same _ _ (by omega) hl (ncl _ _)
    have hda := kf.same _ _ (Nat.le_refl _) hd rfl
    have hlt : w.heap.size + 1 < Wa.heap.size := (Array.getElem?_eq_some_iff.1 hla).1
    have hla' := hla
    rw [hR] at hla'
    have hbr := run_beginRound (P := P) hla' rfl
    refine ⟨_, hbr, ?_⟩
    obtain ⟨W2, hW2⟩ : ∃ W2, Wa.putObj (w.heap.size + 1) (R .busy none) = W2 := ⟨_, rfl⟩
    have hW2' := hW2
    rw [hR] at hW2'
    rw [show Wa.putObj (w.heap.size + 1) _ = W2 from hW2']
    have hl2 : W2.heap[w.heap.size + 1]? = some (R .busy none) := by rw [← hW2]; exact World.putObj_heap_same hlt
    have hd2 : W2.heap[w.heap.size]? = some (.deferred (some [])) := by rw [← hW2]; exact (World.putObj_heap_other (by omega)).trans hda
    have kr2 : KeepsT T ca cb w.heap.size Wa W2 := by rw [← hW2]; exact KeepsT.put hla (ncl _ _) (by omega)
    have hi2 : I pre W2 := by rw [← hW2]; exact hI.putObj _ hia (by omega) hla (ncl _ _)
    have hax2 : Ax x a' W2 := by rw [← hW2]; exact (hAx x a').putObj (s := ()) _ hax (by omega) hla (ncl _ _)
    have hs2 : w.heap.size ≤ W2.heap.size := by have := (Array.getElem?_eq_some_iff.1 hl2).1; omega
    refine wpIn_mono (hbody _ pre x a' W2 hi2 hax2 hs2 hpx) ?_
    clear hW2 hW2' hbr hy hl'
    rintro e a3 W3 hp
    cases e with
    | normal =>
      obtain ⟨kf3, kr3, hi3⟩ := hp
      have hl3 := kf3.same _ _ (by omega) hl2 (ncl _ _)
      have hd3 := kf3.same _ _ (Nat.le_refl _) hd2 rfl
      have hl3' := hl3
      rw [hR] at hl3'
      have hr := run_endRound (P := P) none hl3'
      refine ⟨_, _, hr, .inl ⟨rfl, ⟨hI.putObj _ hi3 (by omega) hl3 (ncl _ _), ?_, ?_⟩, ?_⟩⟩
      · rw [hR]; exact World.putObj_heap_same (Array.getElem?_eq_some_iff.1 hl3).1
      · exact (World.putObj_heap_other (by omega)).trans hd3
      · exact (((kr.trans kr2).trans kr3).trans (KeepsT.put hl3 (ncl _ _) (by omega))).later (by omega)
    | exit id =>
      obtain ⟨rfl, kf3, hi3⟩ := hp
      have hl3 := kf3.same _ _ (by omega) hl2 (ncl _ _)
      have hd3 := kf3.same _ _ (Nat.le_refl _) hd2 rfl
      have hl3' := hl3
      rw [hR] at hl3'
      have hr := run_endRound (P := P) (some (.exit id)) hl3'
      refine ⟨_, _, hr, .inr ⟨rfl, hIx.putObj _ hi3 (by omega) hl3 (ncl _ _), ?_, ?_⟩⟩
      · rw [hR]; exact World.putObj_heap_same (Array.getElem?_eq_some_iff.1 hl3).1
      · exact (World.putObj_heap_other (by omega)).trans hd3
    | ret => exact hp.elim
    | goto t => exact hp.elim
    | panic c => exact hp.elim
    | outgrown => exact hp.elim
  · rintro e W2 ⟨⟨v, rfl⟩, (⟨hi, hl, hd⟩ | ⟨pre, hpre, hi, hl, hd⟩)⟩
    · have hl' := hl
      rw [hR] at hl'
      have hr := run_endLoop (P := P) hl' (by simp)
      exact ⟨none, _, hr, hdone _ _ (Nat.le_refl _) (hI.putObj _ hi (by omega) hl (ncl _ _)) ((World.putObj_heap_other (by omega)).trans hd)⟩
    · have hl' := hl
      rw [hR] at hl'
      have hr := run_endLoop (P := P) hl' (by simp)
      exact ⟨some (.exit j), _, hr, hstop _ pre _ (Nat.le_refl _) hpre (hIx.putObj _ hi (by omega) hl (ncl _ _)) ((World.putObj_heap_other (by omega)).trans hd)⟩
end Go.Proofs.Ytejhegoegmoemaa
