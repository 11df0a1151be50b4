/-
  A range over an iterator that ranges over an iterator itself; a loop that is left by whatever jump (any program).
-/
import Derived.Test.YtejhegoegmoemaaFeed
namespace Go.Proofs.Ytejhegoegmoemaa
open Go.RowKit Go.Shelf

/-- What an invariant of the loop abides besides: that a block which holds no cells is turned (another loop's record), from block D on. -/
structure AbideO {β : Type} (T : TypeId → Prop) (D : Nat) (J : List β → World → Prop) : Prop where
  abide : AbideT T D J
  own : OwnFrom D J
theorem ownFrom_later {β : Type} {B B' : Nat} {I : β → World → Prop} (h : OwnFrom B I) (hb : B ≤ B') : OwnFrom B' I :=
  fun s W W' row hs hg hr => h s W W' row hs hg (fun r e => ⟨Nat.le_trans hb (hr r e).1, (hr r e).2⟩)
theorem AbideO.later {β : Type} {T : TypeId → Prop} {D D' : Nat} {J : List β → World → Prop} (h : AbideO T D J) (hd : D ≤ D') : AbideO T D' J :=
  ⟨h.abide.later hd, ownFrom_later h.own hd⟩
theorem ownFrom_block {β : Type} {B k : Nat} {o : Obj} (hk : k < B) : OwnFrom B (fun (_ : β) W => W.heap[k]? = some o) :=
  fun _ W W' row hs hg hr => (hg.block k (Array.getElem?_eq_some_iff.1 hs).1 (fun e => by have := (hr k e.symm).1; omega)).trans hs
theorem AbideO.beside {β : Type} {T : TypeId → Prop} {D k k' : Nat} {o o' : Obj} {J : List β → World → Prop} (h : AbideO T D J) (ho : o.isCells = false) (ho' : o'.isCells = false) (hk : k < D) (hk' : k' < D) :
    AbideO T D (fun pre W => J pre W ∧ W.heap[k]? = some o ∧ W.heap[k']? = some o') :=
  ⟨h.abide.beside ho ho', h.own.and ((ownFrom_block hk).and (ownFrom_block hk'))⟩
theorem AbideO.some {β γ : Type} {T : TypeId → Prop} {D : Nat} {J : γ → List β → World → Prop} (h : ∀ c, AbideO T D (J c)) : AbideO T D (fun pre W => ∃ c, J c pre W) :=
  ⟨⟨fun pre W W' ⟨c, hc⟩ hb => ⟨c, (h c).abide.new pre W W' hc hb⟩, fun pre W W' b t cs z ⟨c, hc⟩ h1 h2 h3 h4 => ⟨c, (h c).abide.priv pre W W' b t cs z hc h1 h2 h3 h4⟩⟩,
   fun pre W W' row ⟨c, hc⟩ hg hr => ⟨c, (h c).own pre W W' row hc hg hr⟩⟩
theorem AbideO.map {β γ : Type} {T : TypeId → Prop} {D : Nat} {J : List γ → World → Prop} (h : AbideO T D J) (f : List β → List γ) : AbideO T D (fun pre W => J (f pre) W) :=
  ⟨⟨fun _ W W' hj hb => h.abide.new _ W W' hj hb, fun _ W W' b t cs z hj h1 h2 h3 h4 => h.abide.priv _ W W' b t cs z hj h1 h2 h3 h4⟩, fun _ W W' row hj hg hr => h.own _ W W' row hj hg hr⟩
theorem AbideO.pure {β : Type} {T : TypeId → Prop} {D : Nat} {J : List β → World → Prop} (h : AbideO T D J) (p : Prop) : AbideO T D (fun pre W => p ∧ J pre W) :=
  ⟨⟨fun _ W W' hj hb => ⟨hj.1, h.abide.new _ W W' hj.2 hb⟩, fun _ W W' b t cs z hj h1 h2 h3 h4 => ⟨hj.1, h.abide.priv _ W W' b t cs z hj.2 h1 h2 h3 h4⟩⟩, fun _ W W' row hj hg hr => ⟨hj.1, h.own _ W W' row hj.2 hg hr⟩⟩
/-- The contract of an iterator that hands the items RES, one behind the other. -/
def FeedsO {β : Type} (P : Program) (T : TypeId → Prop) (a b : Nat) (enc : β → Array Value) (RES : List β) (F : Fence) (n : Nat) (gf : Nat) (lb : Array Value) (w0 : World) : Prop :=
  ∀ (l : Nat) (J Jx : List β → World → Prop) (W : World), Mid a b w0 W → AbideO T W.heap.size J → AbideO T W.heap.size Jx →
    (∀ pre (x : β) W1, J pre W1 → W.heap.size ≤ W1.heap.size → pre ++ [x] <+: RES →
      YieldAt F (n - 1) P l (enc x) W1 fun e W' =>
        (e = .returned (.bool true) ∧ J (pre ++ [x]) W' ∧ KeepsT T a b W.heap.size W1 W' ∧ KeepsFrom W.heap.size W1 W') ∨ (e = .returned (.bool false) ∧ Jx (pre ++ [x]) W' ∧ KeepsFrom W.heap.size W1 W')) →
    J [] W →
    CallsIn F n P gf (#[.func (.yield l) #[] #[]] ++ lb) W fun e W' => (∃ v, e = .returned v) ∧ (J RES W' ∨ ∃ pre, pre <+: RES ∧ Jx pre W')
theorem FeedsT.toO {β : Type} {P : Program} {T : TypeId → Prop} {a b : Nat} {enc : β → Array Value} {RES : List β} {F : Fence} {n : Nat} {gf : Nat} {lb : Array Value} {w0 : World} (h : FeedsT P T a b enc RES F n gf lb w0) : FeedsO P T a b enc RES F n gf lb w0 :=
  fun l J Jx W hm hj hjx hy => h l J Jx W hm hj.abide hjx.abide fun pre x W1 h1 h2 h3 => by
    obtain ⟨fn, tmps, assign, body, hr, hR⟩ := hy pre x W1 h1 h2 h3
    refine ⟨fn, tmps, assign, body, hr, hR.mono ?_⟩
    rintro e W' (⟨k1, k2, k3, _⟩ | ⟨k1, k2, _⟩)
    · exact .inl ⟨k1, k2, k3⟩
    · exact .inr ⟨k1, k2⟩
theorem keepsFrom_later {B B' : Nat} {W W' : World} (h : KeepsFrom B W W') (hb : B ≤ B') : KeepsFrom B' W W' := ⟨h.size, fun k o hk ho hc => h.same k o (Nat.le_trans hb hk) ho hc⟩
theorem keepsFrom_put {B : Nat} (W : World) {l : Nat} (o : Obj) (hl : l < B) : KeepsFrom B W (W.putObj l o) := ⟨by simp [World.putObj], fun k o hk ho _ => (World.putObj_heap_other (by omega)).trans ho⟩
/-- How a round's body may be left: it goes on; or by a jump. -/
def bodyO {β : Type} (T : TypeId → Prop) (a b D : Nat) (I : List β → World → Prop) (Ix : Code → List β → World → Prop) (xs : List β) (W : World) : Exit → Act → World → Prop
  | .normal, _, W' => KeepsFrom D W W' ∧ KeepsT T a b D W W' ∧ I xs W'
  | .exit id, _, W' => KeepsFrom D W W' ∧ Ix (.exit id) xs W'
  | .ret, _, W' => KeepsFrom D W W' ∧ Ix .ret xs W'
  | _, _, _ => False
/-- A round at the wide fence, however deep, and within a round. -/
theorem RoundIn.wideAny {m n : Nat} {P : Program} {l : Nat} {f : FuncId} {tmps : Array Value} {assign body : Code} {w : World} {R : Ending → World → Prop} (h : RoundIn Fence.wide m P l f tmps assign body w R) : RoundIn Fence.wide n P l f tmps assign body w R :=
  ⟨h.1, fun c cs _ => h.2 c cs (room_wide _)⟩
theorem RoundIn.inRound {F : Fence} {m : Nat} {P : Program} {l : Nat} {f : FuncId} {tmps : Array Value} {assign body : Code} {w : World} {R : Ending → World → Prop} (l' : Nat) (h : RoundIn F m P l f tmps assign body w R) : RoundIn (F.inRound l') m P l f tmps assign body w R := h

set_option maxHeartbeats 1000000 in
theorem wpIn_feedsO {β : Type} {P : Program} {T : TypeId → Prop} {ca cb : Nat} {enc : β → Array Value} {RES : List β} {F : Fence} {n : Nat} {g : Operand} {ps : Array Tmp} {assign body : Code} {Q : Exit → Act → World → Prop} {a : Act} {w w0 : World}
    (hro : F.round = none) (h1 : 1 ≤ n) {gf : Nat} {lb : Array Value} (hg : a.eval g = .func (.func gf) #[] lb) (hFg : F.fn gf) (eg : ∀ args w, (callFunc gf args).run P w = .ok (.enter gf args) w)
    (hf : FeedsO P T ca cb enc RES F (n - 1) gf lb w0) (hb0 : Mid ca cb w0 w) (hcb : cb ≤ w.heap.size) (henc : ∀ x, (enc x).size = ps.size)
    (I : List β → World → Prop) (Ix : Code → List β → World → Prop) (aI : AbideO T w.heap.size I) (aIx : ∀ c, AbideO T w.heap.size (Ix c)) (h0 : I [] w)
    (Ax : β → Act → World → Prop) (hAx : ∀ x a', OwnFrom w.heap.size (fun (_ : Unit) W => Ax x a' W))
    (hassign : ∀ (l : Nat) pre (x : β) (W : World) (K : Act → World → Prop), I pre W → w.heap.size ≤ W.heap.size → pre ++ [x] <+: RES →
      (∀ a' W', KeepsFrom w.heap.size W W' → KeepsT T ca cb w.heap.size W W' → I pre W' → Ax x a' W' → K a' W') →
      assign.wpIn (F.inRound l) (n - 1 - 1) P (Exit.then K (fun _ _ _ => False)) { tmps := (ps.zip (enc x)).foldl (fun t (p, v) => t.setIfInBounds p v) a.tmps, defers := [] } W)
    (hbody : ∀ (l : Nat) pre (x : β) a' (W : World), I pre W → Ax x a' W → w.heap.size ≤ W.heap.size → pre ++ [x] <+: RES → body.wpIn (F.inRound l) (n - 1 - 1) P (bodyO T ca cb w.heap.size I Ix (pre ++ [x]) W) a' W)
    (hdone : ∀ (D : Nat) (W : World), w.heap.size ≤ D → I RES W → W.heap[D]? = some (.deferred (some [])) → Q .normal { a with defers := { target := .collected D, args := #[] } :: a.defers } W)
    (hstop : ∀ (D : Nat) (c : Code) pre (W : World), w.heap.size ≤ D → pre <+: RES → Ix c pre W → W.heap[D]? = some (.deferred (some [])) → c.wpIn F n P Q { a with defers := { target := .collected D, args := #[] } :: a.defers } W) :
    (Code.rangeFunc g ps assign body).wpIn F n P Q a w := by
  have hI := aI.own
  have hIx := fun c => (aIx c).own
  refine wpIn_range_open hro h1 hg hFg eg fun fn hfn W1 hW1 => ?_
  obtain ⟨R, hR⟩ : ∃ R : LoopState → Option Code → Obj, R = fun st pe => .loop { state := st, pending := pe, fn := fn, tmps := a.tmps, params := ps, assign, body, defers := w.heap.size } := ⟨_, rfl⟩
  rw [show Obj.loop { state := .ready, pending := none, fn := fn, tmps := a.tmps, params := ps, assign, body, defers := w.heap.size } = R .ready none from by rw [hR]] at hW1
  have ncl : ∀ st pe, (R st pe).isCells = false := fun st pe => by rw [hR]; rfl
  have ncw : ∀ st pe, (R st pe).isWalk = false := fun st pe => by rw [hR]; rfl
  have hsz : W1.heap.size = w.heap.size + 2 := by rw [← hW1]; simp
  have hL : W1.heap[w.heap.size + 1]? = some (R .ready none) := by
    rw [← hW1]
    have := World.alloc_heap_new (w.alloc (.deferred (some []))) (R .ready none)
    rwa [World.size_alloc] at this
  have hD : W1.heap[w.heap.size]? = some (.deferred (some [])) := by
    rw [← hW1]
    exact (Below.heap_alloc _ _ _ (by simp)).trans (World.alloc_heap_new w _)
  have hI1 : I [] W1 := by rw [← hW1]; exact hI.alloc _ (hI.alloc _ h0)
  have hB1 : Mid ca cb w0 W1 := by
    have b : Below w.heap.size w W1 := by rw [← hW1]; exact ((Below.refl w.heap.size w).alloc (Nat.le_refl _) _).alloc (by simp) _
    exact hb0.trans (Mid.of_below (b.mono hcb))
  refine (hf (w.heap.size + 1)
    (fun pre W => I pre W ∧ W.heap[w.heap.size + 1]? = some (R .ready none) ∧ W.heap[w.heap.size]? = some (.deferred (some [])))
    (fun pre W => ∃ c, Ix c pre W ∧ W.heap[w.heap.size + 1]? = some (R .done (some c)) ∧ W.heap[w.heap.size]? = some (.deferred (some [])))
    W1 hB1 ((aI.later (by omega)).beside (ncl _ _) rfl (by omega) (by omega)) (AbideO.some fun c => ((aIx c).later (by omega)).beside (ncl _ _) rfl (by omega) (by omega)) ?_ ⟨hI1, hL, hD⟩).mono ?_
  · rintro pre x W ⟨hi, hl, hd⟩ hle hpx
    have hl' := hl
    rw [hR] at hl'
    have hy := run_yield (P := P) (args := enc x) hl' (henc x)
    refine ⟨_, _, _, _, hy, roundIn_of_wpIn hfn (hassign _ pre x W _ hi (by omega) hpx ?_)⟩
    intro a' Wa kf kr hia hax
    have hla := kf.same _ _ (by omega) hl (ncl _ _)
    have hda := kf.same _ _ (Nat.le_refl _) hd rfl
    have hlt : w.heap.size + 1 < Wa.heap.size := (Array.getElem?_eq_some_iff.1 hla).1
    have hla' := hla
    rw [hR] at hla'
    have hbr := run_beginRound (P := P) hla' rfl
    refine ⟨_, hbr, ?_⟩
    obtain ⟨W2, hW2⟩ : ∃ W2, Wa.putObj (w.heap.size + 1) (R .busy none) = W2 := ⟨_, rfl⟩
    have hW2' := hW2
    rw [hR] at hW2'
    rw [show Wa.putObj (w.heap.size + 1) _ = W2 from hW2']
    have hl2 : W2.heap[w.heap.size + 1]? = some (R .busy none) := by rw [← hW2]; exact World.putObj_heap_same hlt
    have hd2 : W2.heap[w.heap.size]? = some (.deferred (some [])) := by rw [← hW2]; exact (World.putObj_heap_other (by omega)).trans hda
    have kr2 : KeepsT T ca cb w.heap.size Wa W2 := by rw [← hW2]; exact KeepsT.put hla (ncl _ _) (by omega)
    have kfa : KeepsFrom W1.heap.size W W2 := (keepsFrom_later kf (by omega)).trans (by rw [← hW2]; exact keepsFrom_put _ _ (by omega))
    have hi2 : I pre W2 := by rw [← hW2]; exact hI.putObj _ hia (by omega) hla (ncl _ _)
    have hax2 : Ax x a' W2 := by rw [← hW2]; exact (hAx x a').putObj (s := ()) _ hax (by omega) hla (ncl _ _)
    have hs2 : w.heap.size ≤ W2.heap.size := by have := (Array.getElem?_eq_some_iff.1 hl2).1; omega
    refine wpIn_mono (hbody _ pre x a' W2 hi2 hax2 hs2 hpx) ?_
    clear hW2 hW2' hbr hy hl'
    rintro e a3 W3 hp
    cases e with
    | normal =>
      obtain ⟨kf3, kr3, hi3⟩ := hp
      have hl3 := kf3.same _ _ (by omega) hl2 (ncl _ _)
      have hd3 := kf3.same _ _ (Nat.le_refl _) hd2 rfl
      have hl3' := hl3
      rw [hR] at hl3'
      have hr := run_endRound (P := P) none hl3'
      refine ⟨_, _, hr, .inl ⟨rfl, ⟨hI.putObj _ hi3 (by omega) hl3 (ncl _ _), ?_, ?_⟩, ?_⟩⟩
      · rw [hR]; exact World.putObj_heap_same (Array.getElem?_eq_some_iff.1 hl3).1
      · exact (World.putObj_heap_other (by omega)).trans hd3
      · exact ⟨(((kr.trans kr2).trans kr3).trans (KeepsT.put hl3 (ncl _ _) (by omega))).later (by omega), ((kfa.trans (keepsFrom_later kf3 (by omega))).trans (keepsFrom_put _ _ (by omega)))⟩
    | exit id =>
      obtain ⟨kf3, hi3⟩ := hp
      have hl3 := kf3.same _ _ (by omega) hl2 (ncl _ _)
      have hd3 := kf3.same _ _ (Nat.le_refl _) hd2 rfl
      have hl3' := hl3
      rw [hR] at hl3'
      have hr := run_endRound (P := P) (some (.exit id)) hl3'
      refine ⟨_, _, hr, .inr ⟨rfl, ⟨_, (hIx _).putObj _ hi3 (by omega) hl3 (ncl _ _), ?_, ?_⟩, ((kfa.trans (keepsFrom_later kf3 (by omega))).trans (keepsFrom_put _ _ (by omega)))⟩⟩
      · rw [hR]; exact World.putObj_heap_same (Array.getElem?_eq_some_iff.1 hl3).1
      · exact (World.putObj_heap_other (by omega)).trans hd3
    | ret =>
      obtain ⟨kf3, hi3⟩ := hp
      have hl3 := kf3.same _ _ (by omega) hl2 (ncl _ _)
      have hd3 := kf3.same _ _ (Nat.le_refl _) hd2 rfl
      have hl3' := hl3
      rw [hR] at hl3'
      have hr := run_endRound (P := P) (some .ret) hl3'
      refine ⟨_, _, hr, .inr ⟨rfl, ⟨_, (hIx _).putObj _ hi3 (by omega) hl3 (ncl _ _), ?_, ?_⟩, ((kfa.trans (keepsFrom_later kf3 (by omega))).trans (keepsFrom_put _ _ (by omega)))⟩⟩
      · rw [hR]; exact World.putObj_heap_same (Array.getElem?_eq_some_iff.1 hl3).1
      · exact (World.putObj_heap_other (by omega)).trans hd3
    | goto t => exact hp.elim
    | panic c => exact hp.elim
    | outgrown => exact hp.elim
  · rintro e W2 ⟨⟨v, rfl⟩, (⟨hi, hl, hd⟩ | ⟨pre, hpre, c, hi, hl, hd⟩)⟩
    · have hl' := hl
      rw [hR] at hl'
      have hr := run_endLoop (P := P) hl' (by simp)
      exact ⟨none, _, hr, hdone _ _ (Nat.le_refl _) (hI.putObj _ hi (by omega) hl (ncl _ _)) ((World.putObj_heap_other (by omega)).trans hd)⟩
    · have hl' := hl
      rw [hR] at hl'
      have hr := run_endLoop (P := P) hl' (by simp)
      exact ⟨some c, _, hr, hstop _ c pre _ (Nat.le_refl _) hpre ((hIx c).putObj _ hi (by omega) hl (ncl _ _)) ((World.putObj_heap_other (by omega)).trans hd)⟩
end Go.Proofs.Ytejhegoegmoemaa
