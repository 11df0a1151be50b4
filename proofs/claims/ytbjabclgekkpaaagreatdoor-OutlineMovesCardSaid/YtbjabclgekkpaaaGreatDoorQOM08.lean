/- Joined: FeedV, DecWalk, DecScan, DecVal, DecNear. -/
import Derived.Test.YtbjabclgekkpaaaGreatDoorQOM01
import Derived.Test.YtbjabclgekkpaaaGreatDoorQOM07
import Derived.Deep.QuietTactic
namespace Go.Proofs.YtbjabclgekkpaaaGreatDoor
open Go.RowKit Go.Shelf
/-- What a round keeps: the blocks of Pr that lie below D, and the iterator's own variables (boxes of types among T, from block D on). -/
structure KeepsV (T : TypeId → Prop) (Pr : Nat → Prop) (D : Nat) (A B : World) : Prop where
  size : A.heap.size ≤ B.heap.size
  mid : ∀ k, Pr k → B.heap[k]? = A.heap[k]?
  priv : ∀ c t cs z, D ≤ c → T t → A.heap[c]? = some (.cells cs t z) → B.heap[c]? = some (.cells cs t z)
theorem KeepsV.trans {T : TypeId → Prop} {Pr : Nat → Prop} {D : Nat} {A B C : World} (h : KeepsV T Pr D A B) (k : KeepsV T Pr D B C) : KeepsV T Pr D A C :=
  ⟨Nat.le_trans h.size k.size, fun b hb => (k.mid b hb).trans (h.mid b hb), fun c t cs z hd ht hc => k.priv c t cs z hd ht (h.priv c t cs z hd ht hc)⟩
theorem KeepsV.later {T : TypeId → Prop} {Pr : Nat → Prop} {D D' : Nat} {A B : World} (h : KeepsV T Pr D A B) (hd : D ≤ D') : KeepsV T Pr D' A B :=
  ⟨h.size, h.mid, fun c _ _ _ hc => h.priv c _ _ _ (Nat.le_trans hd hc)⟩
theorem KeepsV.put {T : TypeId → Prop} {Pr : Nat → Prop} {D : Nat} {W : World} {l : Nat} {o o' : Obj} (hl : W.heap[l]? = some o) (ho : o.isCells = false) (hb : ∀ k, Pr k → k ≠ l) : KeepsV T Pr D W (W.putObj l o') := by
  refine ⟨by simp [World.putObj], fun k hk => World.putObj_heap_other (hb k hk), fun c _ _ _ _ _ hc => (World.putObj_heap_other ?_).trans hc⟩
  rintro rfl
  rw [hc] at hl
  cases hl
  cases ho
/-- The blocks of Pr are as they were. -/
def KeepP (Pr : Nat → Prop) (A B : World) : Prop := A.heap.size ≤ B.heap.size ∧ ∀ k, Pr k → B.heap[k]? = A.heap[k]?
theorem KeepP.refl (Pr : Nat → Prop) (A : World) : KeepP Pr A A := ⟨Nat.le_refl _, fun _ _ => rfl⟩
theorem KeepP.trans {Pr : Nat → Prop} {A B C : World} (h : KeepP Pr A B) (k : KeepP Pr B C) : KeepP Pr A C := ⟨Nat.le_trans h.1 k.1, fun b hb => (k.2 b hb).trans (h.2 b hb)⟩
theorem KeepP.below {Pr : Nat → Prop} {A B : World} (b : Below A.heap.size A B) (h : ∀ k, Pr k → k < A.heap.size) : KeepP Pr A B := ⟨b.size, fun k hk => b.block k (h k hk)⟩
/-- The contract of an iterator that hands the items RES, one behind the other, as Enc says. -/
def FeedsV {β : Type} (P : Program) (T : TypeId → Prop) (Pr : Nat → Prop) (Enc : Nat → β → Array Value → World → Prop) (RES : List β) (F : Fence) (n : Nat) (gf : Nat) (lb : Array Value) (w0 : World) : Prop :=
  ∀ (l : Nat) (J Jx : List β → World → Prop) (W : World), KeepP Pr w0 W → AbideO T W.heap.size J → AbideO T W.heap.size Jx →
    (∀ pre (x : β) args W1, J pre W1 → W.heap.size ≤ W1.heap.size → pre ++ [x] <+: RES → Enc W.heap.size x args W1 →
      YieldAt F (n - 1) P l args W1 fun e W' =>
        (e = .returned (.bool true) ∧ J (pre ++ [x]) W' ∧ KeepsV T Pr W.heap.size W1 W' ∧ KeepsFrom W.heap.size W1 W') ∨ (e = .returned (.bool false) ∧ Jx (pre ++ [x]) W' ∧ KeepsFrom W.heap.size W1 W')) →
    J [] W →
    CallsIn F n P gf (#[.func (.yield l) #[] #[]] ++ lb) W fun e W' => (∃ v, e = .returned v) ∧ (J RES W' ∨ ∃ pre, pre <+: RES ∧ Jx pre W')
/-- How a round's body may be left: it goes on; or by a jump. -/
def bodyV {β : Type} (T : TypeId → Prop) (Pr : Nat → Prop) (D : Nat) (I : List β → World → Prop) (Ix : Code → List β → World → Prop) (xs : List β) (W : World) : Exit → Act → World → Prop
  | .normal, _, W' => KeepsFrom D W W' ∧ KeepsV T Pr D W W' ∧ I xs W'
  | .exit id, _, W' => KeepsFrom D W W' ∧ Ix (.exit id) xs W'
  | .ret, _, W' => KeepsFrom D W W' ∧ Ix .ret xs W'
  | _, _, _ => False
set_option maxHeartbeats 1000000 in
theorem wpIn_feedsV {β : Type} {P : Program} {T : TypeId → Prop} {Pr : Nat → Prop} {Enc : Nat → β → Array Value → World → Prop} {RES : List β} {F : Fence} {n : Nat} {g : Operand} {ps : Array Tmp} {assign body : Code} {Q : Exit → Act → World → Prop} {a : Act} {w w0 : World}
    (hro : F.round = none) (h1 : 1 ≤ n) {gf : Nat} {lb : Array Value} (hg : a.eval g = .func (.func gf) #[] lb) (hFg : F.fn gf) (eg : ∀ args w, (callFunc gf args).run P w = .ok (.enter gf args) w)
    (hf : FeedsV P T Pr Enc RES F (n - 1) gf lb w0) (hb0 : KeepP Pr w0 w) (hcb : ∀ k, Pr k → k < w.heap.size) (henc : ∀ R x args W, Enc R x args W → args.size = ps.size) (hlow : ∀ R R' x args W, R' ≤ R → Enc R x args W → Enc R' x args W)
    (I : List β → World → Prop) (Ix : Code → List β → World → Prop) (aI : AbideO T w.heap.size I) (aIx : ∀ c, AbideO T w.heap.size (Ix c)) (h0 : I [] w)
    (Ax : β → Act → World → Prop) (hAx : ∀ x a', OwnFrom w.heap.size (fun (_ : Unit) W => Ax x a' W))
    (hassign : ∀ (l : Nat) pre (x : β) args (W : World) (K : Act → World → Prop), I pre W → w.heap.size ≤ W.heap.size → pre ++ [x] <+: RES → Enc w.heap.size x args W →
      (∀ a' W', KeepsFrom w.heap.size W W' → KeepsV T Pr w.heap.size W W' → I pre W' → Ax x a' W' → K a' W') →
      assign.wpIn (F.inRound l) (n - 1 - 1) P (Exit.then K (fun _ _ _ => False)) { tmps := (ps.zip args).foldl (fun t (p, v) => t.setIfInBounds p v) a.tmps, defers := [] } W)
    (hbody : ∀ (l : Nat) pre (x : β) a' (W : World), I pre W → Ax x a' W → w.heap.size ≤ W.heap.size → pre ++ [x] <+: RES → body.wpIn (F.inRound l) (n - 1 - 1) P (bodyV T Pr w.heap.size I Ix (pre ++ [x]) W) a' W)
    (hdone : ∀ (D : Nat) (W : World), w.heap.size ≤ D → I RES W → W.heap[D]? = some (.deferred (some [])) → Q .normal { a with defers := { target := .collected D, args := #[] } :: a.defers } W)
    (hstop : ∀ (D : Nat) (c : Code) pre (W : World), w.heap.size ≤ D → pre <+: RES → Ix c pre W → W.heap[D]? = some (.deferred (some [])) → c.wpIn F n P Q { a with defers := { target := .collected D, args := #[] } :: a.defers } W) :
    (Code.rangeFunc g ps assign body).wpIn F n P Q a w := by
  have hI := aI.own
  have hIx := fun c => (aIx c).own
  refine wpIn_range_open hro h1 hg hFg eg fun fn hfn W1 hW1 => ?_
  obtain ⟨R, hR⟩ : ∃ R : LoopState → Option Code → Obj, R = fun st pe => .loop { state := st, pending := pe, fn := fn, tmps := a.tmps, params := ps, assign, body, defers := w.heap.size } := ⟨_, rfl⟩
  rw [show Obj.loop { state := .ready, pending := none, fn := fn, tmps := a.tmps, params := ps, assign, body, defers := w.heap.size } = R .ready none from by rw [hR]] at hW1
  have ncl : ∀ st pe, (R st pe).isCells = false := fun st pe => by rw [hR]; rfl
  have ncw : ∀ st pe, (R st pe).isWalk = false := fun st pe => by rw [hR]; rfl
  have hsz : W1.heap.size = w.heap.size + 2 := by rw [← hW1]; simp
  have hL : W1.heap[w.heap.size + 1]? = some (R .ready none) := by
    rw [← hW1]
    have := World.alloc_heap_new (w.alloc (.deferred (some []))) (R .ready none)
    rwa [World.size_alloc] at this
  have hD : W1.heap[w.heap.size]? = some (.deferred (some [])) := by
    rw [← hW1]
    exact (Below.heap_alloc _ _ _ (by simp)).trans (World.alloc_heap_new w _)
  have hI1 : I [] W1 := by rw [← hW1]; exact hI.alloc _ (hI.alloc _ h0)
  have hB1 : KeepP Pr w0 W1 := by
    have b : Below w.heap.size w W1 := by rw [← hW1]; exact ((Below.refl w.heap.size w).alloc (Nat.le_refl _) _).alloc (by simp) _
    exact hb0.trans (KeepP.below b hcb)
  refine (hf (w.heap.size + 1)
    (fun pre W => I pre W ∧ W.heap[w.heap.size + 1]? = some (R .ready none) ∧ W.heap[w.heap.size]? = some (.deferred (some [])))
    (fun pre W => ∃ c, Ix c pre W ∧ W.heap[w.heap.size + 1]? = some (R .done (some c)) ∧ W.heap[w.heap.size]? = some (.deferred (some [])))
    W1 hB1 ((aI.later (by omega)).beside (ncl _ _) rfl (by omega) (by omega)) (AbideO.some fun c => ((aIx c).later (by omega)).beside (ncl _ _) rfl (by omega) (by omega)) ?_ ⟨hI1, hL, hD⟩).mono ?_
  · rintro pre x args W ⟨hi, hl, hd⟩ hle hpx henc0
    have hl' := hl
    rw [hR] at hl'
    have hy := run_yield (P := P) (args := args) hl' (henc _ _ _ _ henc0)
    refine ⟨_, _, _, _, hy, roundIn_of_wpIn hfn (hassign _ pre x args W _ hi (by omega) hpx (hlow _ _ _ _ _ (by omega) henc0) ?_)⟩
    intro a' Wa kf kr hia hax
    have hla := kf.same _ _ (by omega) hl (ncl _ _)
    have hda := kf.same _ _ (Nat.le_refl _) hd rfl
    have hlt : w.heap.size + 1 < Wa.heap.size := (Array.getElem?_eq_some_iff.1 hla).1
    have hla' := hla
    rw [hR] at hla'
    have hbr := run_beginRound (P := P) hla' rfl
    refine ⟨_, hbr, ?_⟩
    obtain ⟨W2, hW2⟩ : ∃ W2, Wa.putObj (w.heap.size + 1) (R .busy none) = W2 := ⟨_, rfl⟩
    have hW2' := hW2
    rw [hR] at hW2'
    rw [show Wa.putObj (w.heap.size + 1) _ = W2 from hW2']
    have hl2 : W2.heap[w.heap.size + 1]? = some (R .busy none) := by rw [← hW2]; exact World.putObj_heap_same hlt
    have hd2 : W2.heap[w.heap.size]? = some (.deferred (some [])) := by rw [← hW2]; exact (World.putObj_heap_other (by omega)).trans hda
    have kr2 : KeepsV T Pr w.heap.size Wa W2 := by rw [← hW2]; exact KeepsV.put hla (ncl _ _) (fun k hk => by have := hcb k hk; omega)
    have kfa : KeepsFrom W1.heap.size W W2 := (keepsFrom_later kf (by omega)).trans (by rw [← hW2]; exact keepsFrom_put _ _ (by omega))
    have hi2 : I pre W2 := by rw [← hW2]; exact hI.putObj _ hia (by omega) hla (ncl _ _)
    have hax2 : Ax x a' W2 := by rw [← hW2]; exact (hAx x a').putObj (s := ()) _ hax (by omega) hla (ncl _ _)
    have hs2 : w.heap.size ≤ W2.heap.size := by have := (Array.getElem?_eq_some_iff.1 hl2).1; omega
    refine wpIn_mono (hbody _ pre x a' W2 hi2 hax2 hs2 hpx) ?_
    clear hW2 hW2' hbr hy hl'
    rintro e a3 W3 hp
    cases e with
    | normal =>
      obtain ⟨kf3, kr3, hi3⟩ := hp
      have hl3 := kf3.same _ _ (by omega) hl2 (ncl _ _)
      have hd3 := kf3.same _ _ (Nat.le_refl _) hd2 rfl
      have hl3' := hl3
      rw [hR] at hl3'
      have hr := run_endRound (P := P) none hl3'
      refine ⟨_, _, hr, .inl ⟨rfl, ⟨hI.putObj _ hi3 (by omega) hl3 (ncl _ _), ?_, ?_⟩, ?_⟩⟩
      · rw [hR]; exact World.putObj_heap_same (Array.getElem?_eq_some_iff.1 hl3).1
      · exact (World.putObj_heap_other (by omega)).trans hd3
      · exact ⟨(((kr.trans kr2).trans kr3).trans (KeepsV.put hl3 (ncl _ _) (fun k hk => by have := hcb k hk; omega))).later (by omega), ((kfa.trans (keepsFrom_later kf3 (by omega))).trans (keepsFrom_put _ _ (by omega)))⟩
    | exit id =>
      obtain ⟨kf3, hi3⟩ := hp
      have hl3 := kf3.same _ _ (by omega) hl2 (ncl _ _)
      have hd3 := kf3.same _ _ (Nat.le_refl _) hd2 rfl
      have hl3' := hl3
      rw [hR] at hl3'
      have hr := run_endRound (P := P) (some (.exit id)) hl3'
      refine ⟨_, _, hr, .inr ⟨rfl, ⟨_, (hIx _).putObj _ hi3 (by omega) hl3 (ncl _ _), ?_, ?_⟩, ((kfa.trans (keepsFrom_later kf3 (by omega))).trans (keepsFrom_put _ _ (by omega)))⟩⟩
      · rw [hR]; exact World.putObj_heap_same (Array.getElem?_eq_some_iff.1 hl3).1
      · exact (World.putObj_heap_other (by omega)).trans hd3
    | ret =>
      obtain ⟨kf3, hi3⟩ := hp
      have hl3 := kf3.same _ _ (by omega) hl2 (ncl _ _)
      have hd3 := kf3.same _ _ (Nat.le_refl _) hd2 rfl
      have hl3' := hl3
      rw [hR] at hl3'
      have hr := run_endRound (P := P) (some .ret) hl3'
      refine ⟨_, _, hr, .inr ⟨rfl, ⟨_, (hIx _).putObj _ hi3 (by omega) hl3 (ncl _ _), ?_, ?_⟩, ((kfa.trans (keepsFrom_later kf3 (by omega))).trans (keepsFrom_put _ _ (by omega)))⟩⟩
      · rw [hR]; exact World.putObj_heap_same (Array.getElem?_eq_some_iff.1 hl3).1
      · exact (World.putObj_heap_other (by omega)).trans hd3
    | goto t => exact hp.elim
    | panic c => exact hp.elim
    | outgrown => exact hp.elim
  · rintro e W2 ⟨⟨v, rfl⟩, (⟨hi, hl, hd⟩ | ⟨pre, hpre, c, hi, hl, hd⟩)⟩
    · have hl' := hl
      rw [hR] at hl'
      have hr := run_endLoop (P := P) hl' (by simp)
      exact ⟨none, _, hr, hdone _ _ (Nat.le_refl _) (hI.putObj _ hi (by omega) hl (ncl _ _)) ((World.putObj_heap_other (by omega)).trans hd)⟩
    · have hl' := hl
      rw [hR] at hl'
      have hr := run_endLoop (P := P) hl' (by simp)
      exact ⟨some c, _, hr, hstop _ c pre _ (Nat.le_refl _) hpre ((hIx c).putObj _ hi (by omega) hl (ncl _ _)) ((World.putObj_heap_other (by omega)).trans hd)⟩
end Go.Proofs.YtbjabclgekkpaaaGreatDoor
namespace Go.Proofs.YtbjabclgekkpaaaGreatDoor
def isDig (b : UInt8) : Bool := decide (48 ≤ b.toNat) && decide (b.toNat ≤ 57)
def isSgn (b : UInt8) : Bool := b.toNat == 43 || b.toNat == 45
def isPt (b : UInt8) : Bool := b.toNat == 46
def isLet (b : UInt8) : Bool := b.toNat == 101 || b.toNat == 69
/-- What a byte is: a digit (0), a sign (1), a point (2), a letter (3), or none of them (4). -/
def kindB (b : UInt8) : Nat := if isDig b then 0 else if isSgn b then 1 else if isPt b then 2 else if isLet b then 3 else 4
def follow : Nat → Nat → Nat
  | 1, 0 => 3 | 1, 1 => 2 | 1, 2 => 4 | 2, 0 => 3 | 2, 2 => 4 | 3, 0 => 3 | 3, 2 => 5 | 3, 3 => 6 | 4, 0 => 5 | 5, 0 => 5 | 5, 3 => 6 | 6, 0 => 8 | 6, 1 => 7 | 7, 0 => 8 | 8, 0 => 8
  | _, _ => 0
/-- Where the walk ends, and in which state. -/
def walkL : List UInt8 → Nat → Nat × Nat
  | [], st => (0, st)
  | b :: t, st => if follow st (kindB b) = 0 then (0, st) else ((walkL t (follow st (kindB b))).1 + 1, (walkL t (follow st (kindB b))).2)
def wholeS (st : Nat) : Bool := st == 3 || st == 5 || st == 8
/-- How many digits there are. -/
def run : List UInt8 → Nat
  | [] => 0
  | b :: t => if isDig b then run t + 1 else 0
def headIs (p : UInt8 → Bool) : List UInt8 → Bool
  | [] => false
  | b :: _ => p b
/-- Behind the letter. -/
def scanPow (t : List UInt8) : Nat × Bool :=
  if headIs isSgn t then (1 + run (t.drop 1), decide (0 < run (t.drop 1))) else (run t, decide (0 < run t))
/-- Behind the digits and the point. -/
def scanTail (t : List UInt8) : Nat × Bool := if headIs isLet t then (1 + (scanPow (t.drop 1)).1, (scanPow (t.drop 1)).2) else (0, true)
/-- Behind the sign. -/
def scanBody (l : List UInt8) : Nat × Bool :=
  if headIs isPt (l.drop (run l)) then
    if run l = 0 ∧ run (l.drop (run l + 1)) = 0 then (1, false)
    else (run l + 1 + run (l.drop (run l + 1)) + (scanTail (l.drop (run l + 1 + run (l.drop (run l + 1))))).1, (scanTail (l.drop (run l + 1 + run (l.drop (run l + 1))))).2)
  else if run l = 0 then (0, false) else (run l + (scanTail (l.drop (run l))).1, (scanTail (l.drop (run l))).2)
def scanL (signed : Bool) (l : List UInt8) : Nat × Bool :=
  if signed && headIs isSgn l then (1 + (scanBody (l.drop 1)).1, (scanBody (l.drop 1)).2) else scanBody l
theorem kind_dig {b : UInt8} (h : isDig b = true) : kindB b = 0 := by simp [kindB, h]
theorem kind_cases (b : UInt8) : (isDig b = true ∧ kindB b = 0) ∨ (isDig b = false ∧ isSgn b = true ∧ kindB b = 1) ∨ (isDig b = false ∧ isSgn b = false ∧ isPt b = true ∧ kindB b = 2) ∨ (isDig b = false ∧ isSgn b = false ∧ isPt b = false ∧ isLet b = true ∧ kindB b = 3) ∨ (isDig b = false ∧ isSgn b = false ∧ isPt b = false ∧ isLet b = false ∧ kindB b = 4) := by
  unfold kindB
  cases h1 : isDig b <;> cases h2 : isSgn b <;> cases h3 : isPt b <;> cases h4 : isLet b <;> simp
theorem sgn_not {b : UInt8} (h : isSgn b = true) : isDig b = false ∧ isPt b = false ∧ isLet b = false := by
  unfold isSgn at h; unfold isDig isPt isLet
  have : b.toNat = 43 ∨ b.toNat = 45 := by simpa using h
  rcases this with e | e <;> simp [e]
theorem pt_not {b : UInt8} (h : isPt b = true) : isDig b = false ∧ isSgn b = false ∧ isLet b = false := by
  unfold isPt at h; unfold isDig isSgn isLet
  have : b.toNat = 46 := by simpa using h
  simp [this]
theorem let_not {b : UInt8} (h : isLet b = true) : isDig b = false ∧ isSgn b = false ∧ isPt b = false := by
  unfold isLet at h; unfold isDig isSgn isPt
  have : b.toNat = 101 ∨ b.toNat = 69 := by simpa using h
  rcases this with e | e <;> simp [e]
theorem dig_not {b : UInt8} (h : isDig b = true) : isSgn b = false ∧ isPt b = false ∧ isLet b = false := by
  unfold isDig at h; unfold isLet isSgn isPt
  have h : 48 ≤ b.toNat ∧ b.toNat ≤ 57 := by simpa using h
  refine ⟨?_, ?_, ?_⟩ <;> simp <;> omega
theorem run_le (l : List UInt8) : run l ≤ l.length := by
  induction l with
  | nil => simp [run]
  | cons b t ih => unfold run; split <;> simp <;> omega
theorem walk_fst_le (l : List UInt8) : ∀ st, (walkL l st).1 ≤ l.length := by
  induction l with
  | nil => intro st; simp [walkL]
  | cons b t ih => intro st; unfold walkL; split; · simp
                   · have := ih (follow st (kindB b)); simp; omega
/-- The digits are gone through in one state. -/
theorem walk_run (st : Nat) (h : follow st 0 = st) (h0 : st ≠ 0) (l : List UInt8) : walkL l st = (run l + (walkL (l.drop (run l)) st).1, (walkL (l.drop (run l)) st).2) := by
  induction l with
  | nil => simp [run]
  | cons b t ih =>
    unfold run
    by_cases hd : isDig b = true
    · simp only [hd, if_true, List.drop_succ_cons]
      conv => lhs; unfold walkL
      rw [kind_dig hd, h, if_neg h0, ih]
      refine Prod.ext ?_ rfl
      simp; omega
    · simp [hd]
theorem walk_first (st st' : Nat) (h : follow st 0 = st') (h' : follow st' 0 = st') (l : List UInt8) (hr : 0 < run l) (h0 : st' ≠ 0) : walkL l st = walkL l st' := by
  cases l with
  | nil => simp [run] at hr
  | cons b t =>
    by_cases hd : isDig b = true
    · unfold walkL; rw [kind_dig hd, h, h', if_neg h0, if_neg h0]
    · simp [run, hd] at hr
end Go.Proofs.YtbjabclgekkpaaaGreatDoor
namespace Go.Proofs.YtbjabclgekkpaaaGreatDoor
open Go.RowKit Go.Shelf
/-- The table of states lies in memory as its text says. -/
def Follows (w : World) : Prop := ∀ st k : Nat, st ≤ 8 → k ≤ 3 → w.cell? ⟨5, st * 4 + k, none⟩ = some (.int .i64 (follow st k : Int))
theorem follow_le (st k : Nat) : follow st k ≤ 8 := by
  unfold follow; split <;> omega
theorem follow_4 (st : Nat) : follow st 4 = 0 := by unfold follow; split <;> simp_all
theorem byte_cases (c : Nat) : (c = 48 ∨ c = 49 ∨ c = 50 ∨ c = 51 ∨ c = 52 ∨ c = 53 ∨ c = 54 ∨ c = 55 ∨ c = 56 ∨ c = 57) ∨ (c = 43 ∨ c = 45) ∨ c = 46 ∨ (c = 101 ∨ c = 69) ∨
    (c ≠ 48 ∧ c ≠ 49 ∧ c ≠ 50 ∧ c ≠ 51 ∧ c ≠ 52 ∧ c ≠ 53 ∧ c ≠ 54 ∧ c ≠ 55 ∧ c ≠ 56 ∧ c ≠ 57 ∧ c ≠ 43 ∧ c ≠ 45 ∧ c ≠ 46 ∧ c ≠ 101 ∧ c ≠ 69) := by omega
theorem drop_cons (s : ByteArray) (k : Nat) (h : k < s.size) : s.data.toList.drop k = s[k] :: s.data.toList.drop (k + 1) := by
  rw [List.drop_eq_getElem_cons (by simpa using h)]; rfl
theorem walk_cons (s : ByteArray) (k q : Nat) (h : k < s.size) : walkL (s.data.toList.drop k) q = if follow q (kindB s[k]) = 0 then (0, q) else ((walkL (s.data.toList.drop (k + 1)) (follow q (kindB s[k]))).1 + 1, (walkL (s.data.toList.drop (k + 1)) (follow q (kindB s[k]))).2) := by
  rw [drop_cons s k h]; rfl
theorem kind_none (b : UInt8) (h : b.toNat ≠ 48 ∧ b.toNat ≠ 49 ∧ b.toNat ≠ 50 ∧ b.toNat ≠ 51 ∧ b.toNat ≠ 52 ∧ b.toNat ≠ 53 ∧ b.toNat ≠ 54 ∧ b.toNat ≠ 55 ∧ b.toNat ≠ 56 ∧ b.toNat ≠ 57 ∧ b.toNat ≠ 43 ∧ b.toNat ≠ 45 ∧ b.toNat ≠ 46 ∧ b.toNat ≠ 101 ∧ b.toNat ≠ 69) : kindB b = 4 := by
  have a1 : isDig b = false := by unfold isDig; simp; omega
  have a2 : isSgn b = false := by unfold isSgn; simp; omega
  have a3 : isPt b = false := by unfold isPt; simp; omega
  have a4 : isLet b = false := by unfold isLet; simp; omega
  simp [kindB, a1, a2, a3, a4]
theorem walk_fin {l : List UInt8} {a st k q : Nat} (h : a + (walkL (l.drop a) st).1 = k + (walkL (l.drop k) q).1 ∧ (walkL (l.drop a) st).2 = (walkL (l.drop k) q).2) (E : walkL (l.drop k) q = (0, q)) :
    Ending.returned (.tuple #[.int .i64 (k : Int), .int .i64 (q : Int)]) = Ending.returned (.tuple #[.int .i64 ((a + (walkL (l.drop a) st).1 : Nat) : Int), .int .i64 ((walkL (l.drop a) st).2 : Int)]) := by
  rw [h.1, h.2, E]; rfl
set_option maxHeartbeats 4000000 in
theorem walk_any (s : ByteArray) (a st : Nat) (w : World) (hs : s.size ≤ maxLen) (ha : a ≤ s.size) (h0 : st ≤ 8) (hF : Follows w) :
    Calls Tryz.prog 229 #[.string s, .int .i64 (a : Int), .int .i64 (st : Int)] w fun e w' => e = .returned (.tuple #[.int .i64 ((a + (walkL (s.data.toList.drop a) st).1 : Nat) : Int), .int .i64 ((walkL (s.data.toList.drop a) st).2 : Int)]) ∧ w = w' := by
  have hs' : s.size ≤ 9223372036854775807 := hs
  clear hs
  have HF := Lib.hid hF
  clear hF
  go_enter Tryz.func229, Tryz.ntmps229
  go_wp2_with fail
  go_step3
  go_wp2_with fail
  go_step3
  go_wp2_with fail
  go_loop [1, 2, 8, 9] (fun i m _ _ => ∃ k q : Nat, k ≤ s.size ∧ q ≤ 8 ∧ i = .int .i64 (k : Int) ∧ m = .int .i64 (q : Int) ∧ Hid (a + (walkL (s.data.toList.drop a) st).1 = k + (walkL (s.data.toList.drop k) q).1 ∧ (walkL (s.data.toList.drop a) st).2 = (walkL (s.data.toList.drop k) q).2)) (fun i _ _ _ => s.size - (intOf i).toNat)
  case atStart => exact ⟨a, st, ha, h0, rfl, rfl, ⟨rfl, rfl⟩⟩
  case round =>
    obtain ⟨k, q, hk, hq, rfl, rfl, hw⟩ := hrel
    by_cases hlt : k < s.size
    · have HST := Lib.hid (walk_cons s k q hlt)
      rcases byte_cases s[k].toNat with h | h | h | h | h
      · have HC := Lib.hid (HF.out q 0 hq (by omega))
        rw [kind_dig (by unfold isDig; rcases h with h | h | h | h | h | h | h | h | h | h <;> simp [h])] at HST
        have hl := follow_le q 0
        generalize follow q 0 = nx at *
        by_cases hz : nx = 0
        · have E := Lib.hid (show walkL (s.data.toList.drop k) q = (0, q) by rw [HST.out, if_pos hz])
          subst hz
          rcases h with h | h | h | h | h | h | h | h | h | h
          all_goals
            have hc := HC.out
            simp only [Nat.add_zero] at hc
            go_wp2_with fail
            go_ret2
            exact ⟨walk_fin hw.out E.out, rfl⟩
        · have hn : ((nx : Int) == 0) = false := by rw [beq_eq_false_iff_ne]; omega
          rcases h with h | h | h | h | h | h | h | h | h | h
          all_goals
            have hc := HC.out
            simp only [Nat.add_zero] at hc
            go_wp2_with fail
            go_round
            case rel => exact ⟨k + 1, nx, by omega, hl, by go_num, rfl, ⟨by have := hw.out; rw [HST.out, if_neg hz] at this; simp at this; omega, by have := hw.out; rw [HST.out, if_neg hz] at this; simpa using this.2⟩⟩
            case measure => simp [intOf]; omega
      · have HC := Lib.hid (HF.out q 1 hq (by omega))
        rw [show kindB s[k] = 1 from by unfold kindB isDig isSgn; rcases h with h | h <;> simp [h]] at HST
        have hl := follow_le q 1
        generalize follow q 1 = nx at *
        by_cases hz : nx = 0
        · have E := Lib.hid (show walkL (s.data.toList.drop k) q = (0, q) by rw [HST.out, if_pos hz])
          subst hz
          rcases h with h | h
          all_goals
            have hc := HC.out
            skip
            go_wp2_with fail
            go_ret2
            exact ⟨walk_fin hw.out E.out, rfl⟩
        · have hn : ((nx : Int) == 0) = false := by rw [beq_eq_false_iff_ne]; omega
          rcases h with h | h
          all_goals
            have hc := HC.out
            skip
            go_wp2_with fail
            go_round
            case rel => exact ⟨k + 1, nx, by omega, hl, by go_num, rfl, ⟨by have := hw.out; rw [HST.out, if_neg hz] at this; simp at this; omega, by have := hw.out; rw [HST.out, if_neg hz] at this; simpa using this.2⟩⟩
            case measure => simp [intOf]; omega
      · have HC := Lib.hid (HF.out q 2 hq (by omega))
        rw [show kindB s[k] = 2 from by unfold kindB isDig isSgn isPt; simp [h]] at HST
        have hl := follow_le q 2
        generalize follow q 2 = nx at *
        by_cases hz : nx = 0
        · have E := Lib.hid (show walkL (s.data.toList.drop k) q = (0, q) by rw [HST.out, if_pos hz])
          subst hz
          · have hc := HC.out
            skip
            go_wp2_with fail
            go_ret2
            exact ⟨walk_fin hw.out E.out, rfl⟩
        · have hn : ((nx : Int) == 0) = false := by rw [beq_eq_false_iff_ne]; omega
          · have hc := HC.out
            skip
            go_wp2_with fail
            go_round
            case rel => exact ⟨k + 1, nx, by omega, hl, by go_num, rfl, ⟨by have := hw.out; rw [HST.out, if_neg hz] at this; simp at this; omega, by have := hw.out; rw [HST.out, if_neg hz] at this; simpa using this.2⟩⟩
            case measure => simp [intOf]; omega
      · have HC := Lib.hid (HF.out q 3 hq (by omega))
        rw [show kindB s[k] = 3 from by unfold kindB isDig isSgn isPt isLet; rcases h with h | h <;> simp [h]] at HST
        have hl := follow_le q 3
        generalize follow q 3 = nx at *
        by_cases hz : nx = 0
        · have E := Lib.hid (show walkL (s.data.toList.drop k) q = (0, q) by rw [HST.out, if_pos hz])
          subst hz
          rcases h with h | h
          all_goals
            have hc := HC.out
            skip
            go_wp2_with fail
            go_ret2
            exact ⟨walk_fin hw.out E.out, rfl⟩
        · have hn : ((nx : Int) == 0) = false := by rw [beq_eq_false_iff_ne]; omega
          rcases h with h | h
          all_goals
            have hc := HC.out
            skip
            go_wp2_with fail
            go_round
            case rel => exact ⟨k + 1, nx, by omega, hl, by go_num, rfl, ⟨by have := hw.out; rw [HST.out, if_neg hz] at this; simp at this; omega, by have := hw.out; rw [HST.out, if_neg hz] at this; simpa using this.2⟩⟩
            case measure => simp [intOf]; omega
      · have E := Lib.hid (show walkL (s.data.toList.drop k) q = (0, q) by rw [HST.out, kind_none _ h, follow_4, if_pos rfl])
        obtain ⟨h1, h2, h3, h4, h5, h6, h7, h8, h9, h10, h11, h12, h13, h14, h15⟩ := h
        have e1 : ((s[k].toNat : Int) == 48) = false := by rw [beq_eq_false_iff_ne]; omega
        have e2 : ((s[k].toNat : Int) == 49) = false := by rw [beq_eq_false_iff_ne]; omega
        have e3 : ((s[k].toNat : Int) == 50) = false := by rw [beq_eq_false_iff_ne]; omega
        have e4 : ((s[k].toNat : Int) == 51) = false := by rw [beq_eq_false_iff_ne]; omega
        have e5 : ((s[k].toNat : Int) == 52) = false := by rw [beq_eq_false_iff_ne]; omega
        have e6 : ((s[k].toNat : Int) == 53) = false := by rw [beq_eq_false_iff_ne]; omega
        have e7 : ((s[k].toNat : Int) == 54) = false := by rw [beq_eq_false_iff_ne]; omega
        have e8 : ((s[k].toNat : Int) == 55) = false := by rw [beq_eq_false_iff_ne]; omega
        have e9 : ((s[k].toNat : Int) == 56) = false := by rw [beq_eq_false_iff_ne]; omega
        have e10 : ((s[k].toNat : Int) == 57) = false := by rw [beq_eq_false_iff_ne]; omega
        have e11 : ((s[k].toNat : Int) == 43) = false := by rw [beq_eq_false_iff_ne]; omega
        have e12 : ((s[k].toNat : Int) == 45) = false := by rw [beq_eq_false_iff_ne]; omega
        have e13 : ((s[k].toNat : Int) == 46) = false := by rw [beq_eq_false_iff_ne]; omega
        have e14 : ((s[k].toNat : Int) == 101) = false := by rw [beq_eq_false_iff_ne]; omega
        have e15 : ((s[k].toNat : Int) == 69) = false := by rw [beq_eq_false_iff_ne]; omega
        clear h1 h2 h3 h4 h5 h6 h7 h8 h9 h10 h11 h12 h13 h14 h15
        go_wp2_with fail
        go_ret2
        exact ⟨walk_fin hw.out E.out, rfl⟩
    · have e : walkL (s.data.toList.drop k) q = (0, q) := by rw [List.drop_of_length_le (by simp; omega)]; rfl
      have E := Lib.hid e
      clear e
      go_wp2_with fail
      go_ret2
      exact ⟨walk_fin hw.out E.out, rfl⟩
/-- Whether a number's text may end there. -/
theorem whole_any (st : Nat) (w : World) (h : st ≤ 8) : Calls Tryz.prog 230 #[.int .i64 (st : Int)] w fun e w' => e = .returned (.bool (wholeS st)) ∧ w = w' := by
  have hh : st = 0 ∨ st = 1 ∨ st = 2 ∨ st = 3 ∨ st = 4 ∨ st = 5 ∨ st = 6 ∨ st = 7 ∨ st = 8 := by omega
  rcases hh with rfl | rfl | rfl | rfl | rfl | rfl | rfl | rfl | rfl
  all_goals
    go_enter Tryz.func230, Tryz.ntmps230
    go_wp2_with fail
    go_ret
    exact ⟨rfl, rfl⟩
theorem walk_snd_le (l : List UInt8) : ∀ st, st ≤ 8 → (walkL l st).2 ≤ 8 := by
  induction l with
  | nil => intro st h; exact h
  | cons b t ih =>
    intro st h
    unfold walkL
    split
    · exact h
    · exact ih _ (follow_le _ _)
/-- Scan: from any place within the text. -/
theorem Scan_any (s : ByteArray) (a : Nat) (signed : Bool) (w : World) (hs : s.size ≤ maxLen) (ha : a ≤ s.size) (hF : Follows w) :
    Calls Tryz.prog 199 #[.string s, .int .i64 (a : Int), .bool signed] w fun e w' => e = .returned (.tuple #[.int .i64 ((a + (walkL (s.data.toList.drop a) (if signed then 1 else 2)).1 : Nat) : Int), .bool (wholeS (walkL (s.data.toList.drop a) (if signed then 1 else 2)).2)]) ∧ w = w' := by
  have hs' : s.size ≤ 9223372036854775807 := hs
  have A := Lib.hid (fun w (hF : Follows w) => walk_any s a (if signed then 1 else 2) w hs ha (by cases signed <;> decide) hF)
  have B := Lib.hid (fun w => whole_any (walkL (s.data.toList.drop a) (if signed then 1 else 2)).2 w (walk_snd_le _ _ (by cases signed <;> decide)))
  have HF := Lib.hid hF
  clear hs hF
  cases signed
  all_goals
    simp only [Bool.false_eq_true, if_true, if_false] at A B ⊢
    generalize (a + (walkL (s.data.toList.drop a) _).1) = x at *
    generalize (walkL (s.data.toList.drop a) _).2 = y at *
    generalize wholeS y = z at *
    go_enter Tryz.func199, Tryz.ntmps199
    go_wp2_with fail
    refine (A.out _ HF.out).mono ?_
    rintro e w1 ⟨rfl, rfl⟩
    go_wp2_with fail
    refine (B.out _).mono ?_
    rintro e w2 ⟨rfl, rfl⟩
    go_wp2_with fail
    go_ret2
    exact ⟨rfl, rfl⟩
end Go.Proofs.YtbjabclgekkpaaaGreatDoor
namespace Go.Proofs.YtbjabclgekkpaaaGreatDoor
def dv (b : UInt8) : Nat := b.toNat - 48
def nat10 (l : List UInt8) : Nat := l.foldl (fun n b => 10 * n + dv b) 0
theorem nat10_snoc (l : List UInt8) (b : UInt8) : nat10 (l ++ [b]) = 10 * nat10 l + dv b := by simp [nat10]
theorem foldl_nat10 (b : List UInt8) : ∀ n : Nat, b.foldl (fun n b => 10 * n + dv b) n = n * 10 ^ b.length + nat10 b := by
  unfold nat10
  induction b with
  | nil => intro n; simp
  | cons x t ih =>
    intro n
    simp only [List.foldl_cons, List.length_cons]
    rw [ih (10 * n + dv x), ih (10 * 0 + dv x), Nat.pow_succ]
    grind
theorem nat10_append (a b : List UInt8) : nat10 (a ++ b) = nat10 a * 10 ^ b.length + nat10 b := by
  unfold nat10
  rw [List.foldl_append, foldl_nat10]
  rfl
theorem dv_lt {b : UInt8} (h : isDig b = true) : dv b < 10 := by
  unfold isDig at h; unfold dv
  have : 48 ≤ b.toNat ∧ b.toNat ≤ 57 := by simpa using h
  omega
def AllDig (l : List UInt8) : Prop := ∀ b ∈ l, isDig b = true
theorem nat10_cons (b : UInt8) (t : List UInt8) : nat10 (b :: t) = dv b * 10 ^ t.length + nat10 t := by
  have := nat10_append [b] t
  simpa [nat10] using this
theorem nat10_lt (l : List UInt8) : AllDig l → nat10 l < 10 ^ l.length := by
  induction l with
  | nil => intro _; simp [nat10]
  | cons b t ih =>
    intro h
    have hb := dv_lt (h b (by simp))
    have hl := ih (fun x hx => h x (by simp [hx]))
    rw [nat10_cons, List.length_cons, Nat.pow_succ]
    have : dv b * 10 ^ t.length ≤ 9 * 10 ^ t.length := Nat.mul_le_mul_right _ (by omega)
    omega
/-- N times 10^e, without what lies behind the point; and whether anything does. -/
def flr (N : Nat) (e : Int) : Nat := N * 10 ^ e.toNat / 10 ^ (-e).toNat
def rst (N : Nat) (e : Int) : Bool := decide (N * 10 ^ e.toNat % 10 ^ (-e).toNat ≠ 0)
theorem flr_nat (N E : Nat) : flr N (E : Int) = N * 10 ^ E := by
  unfold flr
  rw [show ((E : Int)).toNat = E from by omega, show (-(E : Int)).toNat = 0 from by omega]; simp
theorem rst_nat (N E : Nat) : rst N (E : Int) = false := by
  unfold rst
  rw [show (-(E : Int)).toNat = 0 from by omega]; simp [Nat.mod_one]
theorem flr_neg (N m : Nat) : flr N (-(m : Int)) = N / 10 ^ m := by
  unfold flr
  rw [show (-(m : Int)).toNat = 0 from by omega, show (- -(m : Int)).toNat = m from by omega]; simp
theorem rst_neg (N m : Nat) : rst N (-(m : Int)) = decide (N % 10 ^ m ≠ 0) := by
  unfold rst
  rw [show (-(m : Int)).toNat = 0 from by omega, show (- -(m : Int)).toNat = m from by omega]; simp
/-- What is kept of the number N times 10^(e - 17). -/
structure Kept (N : Nat) (e : Int) (wh kp : Nat) (more great : Bool) : Prop where
  sum : wh * 100000000000000000 + kp = flr N e % 10000000000000000000000
  hw : wh < 100000
  hk : kp < 100000000000000000
  hm : more = rst N e
  hg : great = decide (10000000000000000000000 ≤ flr N e)
theorem kept_zero (e : Int) : Kept 0 e 0 0 false false := by
  have h1 : flr 0 e = 0 := by simp [flr]
  have h2 : rst 0 e = false := by simp [rst]
  exact ⟨by rw [h1], by decide, by decide, by rw [h2], by rw [h1]; rfl⟩
theorem ten_div (N d m : Nat) (hd : d < 10) : (10 * N + d) / 10 ^ (m + 1) = N / 10 ^ m ∧ (10 * N + d) % 10 ^ (m + 1) = 10 * (N % 10 ^ m) + d := by
  rw [Nat.pow_succ, Nat.mul_comm (10 ^ m) 10]
  constructor
  · rw [← Nat.div_div_eq_div_mul]
    congr 1; omega
  · rw [Nat.mod_mul, show (10 * N + d) / 10 = N from by omega]
    omega
/-- A digit behind all that is kept. -/
theorem Kept.low {N : Nat} {e : Int} {wh kp : Nat} {more great : Bool} (h : Kept N e wh kp more great) (d : Nat) (hd : d < 10) (he : e ≤ 0) : Kept (10 * N + d) (e - 1) wh kp (more || decide (d ≠ 0)) great := by
  obtain ⟨m, rfl⟩ : ∃ m : Nat, e = -(m : Int) := ⟨(-e).toNat, by omega⟩
  have t := ten_div N d m hd
  have e1 : -(m : Int) - 1 = -((m + 1 : Nat) : Int) := by omega
  obtain ⟨h1, h2, h3, h4, h5⟩ := h
  refine ⟨?_, h2, h3, ?_, ?_⟩
  · rw [h1, e1, flr_neg, flr_neg, t.1]
  · rw [h4, e1, rst_neg, rst_neg, t.2]
    by_cases a : N % 10 ^ m = 0 <;> by_cases b : d = 0 <;> simp [a, b] <;> omega
  · rw [h5, e1, flr_neg, flr_neg, t.1]
/-- A digit ahead of all that is kept. -/
theorem Kept.high {N : Nat} {e : Int} {wh kp : Nat} {more great : Bool} (h : Kept N e wh kp more great) (d : Nat) (he : 23 ≤ e) : Kept (10 * N + d) (e - 1) wh kp more (great || decide (d ≠ 0)) := by
  obtain ⟨E, rfl⟩ : ∃ E : Nat, e = ((E + 23 : Nat) : Int) := ⟨(e - 23).toNat, by omega⟩
  have e1 : ((E + 23 : Nat) : Int) - 1 = ((E + 22 : Nat) : Int) := by omega
  obtain ⟨h1, h2, h3, h4, h5⟩ := h
  rw [flr_nat] at h1 h5
  rw [rst_nat] at h4
  have p1 : 10 ^ (E + 23) = 10 * 10 ^ E * 10000000000000000000000 := by rw [show E + 23 = E + 1 + 22 from by omega, Nat.pow_add, Nat.pow_succ, Nat.mul_comm (10 ^ E) 10]
  have p2 : 10 ^ (E + 22) = 10 ^ E * 10000000000000000000000 := by rw [Nat.pow_add]
  have p0 : 0 < 10 ^ E := Nat.pow_pos (by decide)
  rw [p1] at h1 h5
  generalize 10 ^ E = K at *
  have z : N * (10 * K * 10000000000000000000000) % 10000000000000000000000 = 0 := by rw [← Nat.mul_assoc]; exact Nat.mul_mod_left _ _
  have z2 : (10 * N + d) * (K * 10000000000000000000000) % 10000000000000000000000 = 0 := by rw [← Nat.mul_assoc]; exact Nat.mul_mod_left _ _
  refine ⟨?_, h2, h3, ?_, ?_⟩
  · rw [e1, flr_nat, p2, z2]; omega
  · rw [e1, rst_nat, h4]
  · rw [e1, flr_nat, p2, h5]
    have a1 : (10000000000000000000000 ≤ N * (10 * K * 10000000000000000000000)) ↔ 0 < N := by
      constructor
      · intro h; exact Nat.pos_of_ne_zero (fun e => by subst e; simp at h)
      · intro h
        have : 1 * (1 * 10000000000000000000000) ≤ N * (10 * K * 10000000000000000000000) := Nat.mul_le_mul h (Nat.mul_le_mul_right _ (by omega))
        omega
    have a2 : (10000000000000000000000 ≤ (10 * N + d) * (K * 10000000000000000000000)) ↔ 0 < 10 * N + d := by
      constructor
      · intro h; exact Nat.pos_of_ne_zero (fun e => by rw [e] at h; simp at h)
      · intro h
        have : 1 * (1 * 10000000000000000000000) ≤ (10 * N + d) * (K * 10000000000000000000000) := Nat.mul_le_mul h (Nat.mul_le_mul_right _ (by omega))
        omega
    rw [show decide (10000000000000000000000 ≤ N * (10 * K * 10000000000000000000000)) = decide (0 < N) from decide_eq_decide.2 a1, show decide (10000000000000000000000 ≤ (10 * N + d) * (K * 10000000000000000000000)) = decide (0 < 10 * N + d) from decide_eq_decide.2 a2]
    rw [Bool.eq_iff_iff]
    simp
    omega
/-- A digit among those that are kept. -/
theorem mid_step (N d wh kp K : Nat) (hd : d < 10) (h1 : wh * 100000000000000000 + kp = N * (10 * K) % 10000000000000000000000) (hK : ∃ J, J * (10 * K) = 10000000000000000000000) (hk0 : 0 < K) :
    (10 * N + d) * K % 10000000000000000000000 = wh * 100000000000000000 + kp + d * K ∧ ((10000000000000000000000 ≤ (10 * N + d) * K) ↔ 10000000000000000000000 ≤ N * (10 * K)) := by
  obtain ⟨J, hJ⟩ := hK
  rw [h1]
  have e : (10 * N + d) * K = N * (10 * K) + d * K := by grind
  rw [e, ← hJ]
  have m : N * (10 * K) % (J * (10 * K)) = (N % J) * (10 * K) := Nat.mul_mod_mul_right _ _ _
  have q : N * (10 * K) / (J * (10 * K)) = N / J := Nat.mul_div_mul_right _ _ (by omega)
  have J0 : 0 < J := by
    refine Nat.pos_of_ne_zero fun e => ?_
    subst e; simp at hJ
  have l : N % J + 1 ≤ J := Nat.mod_lt _ J0
  have l2 : (N % J + 1) * (10 * K) ≤ J * (10 * K) := Nat.mul_le_mul_right _ l
  have l3 : d * K ≤ 9 * K := Nat.mul_le_mul_right _ (by omega)
  have dm := Nat.div_add_mod (N * (10 * K)) (J * (10 * K))
  rw [m, q] at dm
  generalize N % J = r at *
  generalize N / J = Q at *
  rw [Nat.add_mul, Nat.one_mul] at l2
  rw [m]
  generalize r * (10 * K) = R at *
  generalize N * (10 * K) = T at *
  generalize d * K = D at *
  generalize J * (10 * K) = M at *
  have lt : R + D < M := by omega
  refine ⟨?_, ?_⟩
  · rw [← dm, Nat.add_assoc, Nat.mul_add_mod]
    exact Nat.mod_eq_of_lt lt
  · rw [← dm]
    rcases Nat.eq_zero_or_pos Q with rfl | hQ
    · simp; omega
    · have : M * 1 ≤ M * Q := Nat.mul_le_mul_left _ hQ
      omega
theorem Kept.mid {N : Nat} {e : Int} {wh kp : Nat} {more great : Bool} (h : Kept N e wh kp more great) (d : Nat) (hd : d < 10) (E : Nat) (he : e = ((E + 1 : Nat) : Int)) (h22 : E < 22) :
    flr (10 * N + d) (e - 1) % 10000000000000000000000 = wh * 100000000000000000 + kp + d * 10 ^ E ∧ more = rst (10 * N + d) (e - 1) ∧ great = decide (10000000000000000000000 ≤ flr (10 * N + d) (e - 1)) := by
  subst he
  have e1 : ((E + 1 : Nat) : Int) - 1 = (E : Int) := by omega
  obtain ⟨h1, h2, h3, h4, h5⟩ := h
  rw [flr_nat, Nat.pow_succ, Nat.mul_comm (10 ^ E) 10] at h1 h5
  rw [rst_nat] at h4
  have m := mid_step N d wh kp (10 ^ E) hd h1 ⟨10 ^ (21 - E), by rw [Nat.mul_comm 10 (10 ^ E), ← Nat.pow_succ, ← Nat.pow_add, show 21 - E + (E + 1) = 22 from by omega]⟩ (Nat.pow_pos (by decide))
  rw [e1, flr_nat, rst_nat]
  exact ⟨m.1, h4, by rw [h5]; exact decide_eq_decide.2 m.2.symm⟩
theorem whole_arith (wh kp x F : Nat) (m : F = wh * 100000000000000000 + kp + x * 100000000000000000) (l : F < 10000000000000000000000) : (wh + x) * 100000000000000000 + kp = F ∧ wh + x < 100000 := by omega
theorem Kept.whole {N : Nat} {e : Int} {wh kp : Nat} {more great : Bool} (h : Kept N e wh kp more great) (d : Nat) (hd : d < 10) (E : Nat) (he : e = ((E + 18 : Nat) : Int)) (h22 : E < 5) : Kept (10 * N + d) (e - 1) (wh + d * 10 ^ E) kp more great := by
  have m := h.mid d hd (E + 17) he (by omega)
  obtain ⟨h1, h2, h3, h4, h5⟩ := h
  have p : d * 10 ^ (E + 17) = d * 10 ^ E * 100000000000000000 := by rw [Nat.pow_add, Nat.mul_assoc]
  rw [p] at m
  have l := Nat.mod_lt (flr (10 * N + d) (e - 1)) (show 10000000000000000000000 > 0 by decide)
  have r := whole_arith wh kp (d * 10 ^ E) _ m.1 l
  exact ⟨r.1, r.2, h3, m.2.1, m.2.2⟩
theorem Kept.frac {N : Nat} {e : Int} {wh kp : Nat} {more great : Bool} (h : Kept N e wh kp more great) (d : Nat) (hd : d < 10) (E : Nat) (he : e = ((E + 1 : Nat) : Int)) (h17 : E < 17) : Kept (10 * N + d) (e - 1) wh (kp + d * 10 ^ E) more great := by
  have m := h.mid d hd E he (by omega)
  obtain ⟨h1, h2, h3, h4, h5⟩ := h
  refine ⟨by rw [m.1, Nat.add_assoc], h2, ?_, m.2.1, m.2.2⟩
  subst he
  rw [flr_nat, Nat.pow_succ] at h1
  have hE : E = 0 ∨ E = 1 ∨ E = 2 ∨ E = 3 ∨ E = 4 ∨ E = 5 ∨ E = 6 ∨ E = 7 ∨ E = 8 ∨ E = 9 ∨ E = 10 ∨ E = 11 ∨ E = 12 ∨ E = 13 ∨ E = 14 ∨ E = 15 ∨ E = 16 := by omega
  clear m
  rcases hE with rfl | rfl | rfl | rfl | rfl | rfl | rfl | rfl | rfl | rfl | rfl | rfl | rfl | rfl | rfl | rfl | rfl <;> simp at h1 ⊢ <;> omega
/-- The number's answer: the nearest whole number to 65536 times D times 10^p, with its sign. -/
def sg (neg : Bool) (x : Nat) : Int := if neg then -(x : Int) else (x : Int)
def nearV (neg : Bool) (D : Nat) (p : Int) : Int := near (sg neg (D * 65536 * 10 ^ p.toNat)) (10 ^ (-p).toNat)
theorem near_pos_arith (Y c : Nat) (hc : 0 < c) : near (65536 * (Y : Int)) c = (((131072 * Y) / c + 1) / 2 : Nat) := by
  unfold near
  have e1 : ((131072 * Y) / c + 1) / 2 = (131072 * Y + c) / (c * 2) := by rw [← Nat.div_div_eq_div_mul, Nat.add_div_right _ hc]
  have e2 : (65536 * Y + c / 2) / c = (131072 * Y + c) / (2 * c) := by
    rw [← Nat.div_div_eq_div_mul, show (131072 * Y + c) / 2 = 65536 * Y + c / 2 from by omega]
  rw [e1, Nat.mul_comm c 2, ← e2, show 65536 * (Y : Int) + (c : Int) / 2 = ((65536 * Y + c / 2 : Nat) : Int) from by omega]
  exact (Int.natCast_ediv _ _).symm
theorem sg_true (x : Nat) : sg true x = -(x : Int) := rfl
theorem sg_false (x : Nat) : sg false x = (x : Int) := rfl
/-- Below 0: the half goes towards 0. -/
theorem near_neg_arith (Y c H r : Nat) (hc : 0 < c) (h : 131072 * Y = H * c + r) (hr : r < c) : near (-(65536 * (Y : Int))) c = -(((H + (if r = 0 then 0 else 1)) / 2 : Nat) : Int) := by
  unfold near
  generalize hM : (H + (if r = 0 then 0 else 1)) / 2 = M
  have hM2 : H + (if r = 0 then 0 else 1) = 2 * M ∨ H + (if r = 0 then 0 else 1) = 2 * M + 1 := by omega
  clear hM
  have key : -(65536 * (Y : Int)) + (c : Int) / 2 = -(M : Int) * c + ((M : Int) * c - 65536 * Y + (c : Int) / 2) := by rw [Int.neg_mul]; omega
  have i : (131072 : Int) * Y = H * c + r := by
    have := congrArg (fun n : Nat => (n : Int)) h
    simp only [Int.natCast_add, Int.natCast_mul] at this
    omega
  have hc2 : (0 : Int) < c := by omega
  rw [key, Int.add_comm, Int.add_mul_ediv_right _ _ (by omega)]
  have z : ((M : Int) * c - 65536 * Y + (c : Int) / 2) / c = 0 := by
    refine Int.ediv_eq_zero_of_lt ?_ ?_
    · by_cases h0 : r = 0
      · subst h0
        rw [if_pos rfl] at hM2
        rcases hM2 with e | e
        · have : (H : Int) * c = 2 * ((M : Int) * c) := by rw [show (H : Int) = 2 * M from by omega, Int.mul_assoc]
          omega
        · have : (H : Int) * c = 2 * ((M : Int) * c) + c := by rw [show (H : Int) = 2 * M + 1 from by omega, Int.add_mul, Int.mul_assoc]; omega
          omega
      · rw [if_neg h0] at hM2
        rcases hM2 with e | e
        · have : (H : Int) * c = 2 * ((M : Int) * c) - c := by rw [show (H : Int) = 2 * M - 1 from by omega, Int.sub_mul, Int.mul_assoc]; omega
          omega
        · have : (H : Int) * c = 2 * ((M : Int) * c) := by rw [show (H : Int) = 2 * M from by omega, Int.mul_assoc]
          omega
    · by_cases h0 : r = 0
      · subst h0
        rw [if_pos rfl] at hM2
        rcases hM2 with e | e
        · have : (H : Int) * c = 2 * ((M : Int) * c) := by rw [show (H : Int) = 2 * M from by omega, Int.mul_assoc]
          omega
        · have : (H : Int) * c = 2 * ((M : Int) * c) + c := by rw [show (H : Int) = 2 * M + 1 from by omega, Int.add_mul, Int.mul_assoc]; omega
          omega
      · rw [if_neg h0] at hM2
        rcases hM2 with e | e
        · have : (H : Int) * c = 2 * ((M : Int) * c) - c := by rw [show (H : Int) = 2 * M - 1 from by omega, Int.sub_mul, Int.mul_assoc]; omega
          omega
        · have : (H : Int) * c = 2 * ((M : Int) * c) := by rw [show (H : Int) = 2 * M from by omega, Int.mul_assoc]
          omega
  rw [z]; omega
end Go.Proofs.YtbjabclgekkpaaaGreatDoor
namespace Go.Proofs.YtbjabclgekkpaaaGreatDoor
def restB (kp : Nat) (more : Bool) : Bool := more || decide (kp % 762939453125 ≠ 0)
def halvesN (wh kp : Nat) : Nat := wh * 131072 + kp / 762939453125
def roundV (neg : Bool) (wh kp : Nat) (more : Bool) : Int :=
  if neg then -(((halvesN wh kp + if restB kp more then 1 else 0) / 2 : Nat) : Int) else ((halvesN wh kp + 1) / 2 : Nat)
/-- The value as a fraction, over what is kept. -/
theorem flr_frac (D : Nat) (p : Int) :
    ∃ ρ, D * 10 ^ p.toNat * 100000000000000000 = flr D (p + 17) * 10 ^ (-p).toNat + ρ ∧ ρ < 10 ^ (-p).toNat ∧ rst D (p + 17) = decide (ρ ≠ 0) := by
  by_cases a : 0 ≤ p
  · obtain ⟨P, rfl⟩ : ∃ P : Nat, p = (P : Int) := ⟨p.toNat, by omega⟩
    have e : (P : Int) + 17 = ((P + 17 : Nat) : Int) := by omega
    refine ⟨0, ?_, Nat.pow_pos (by decide), ?_⟩
    · rw [e, flr_nat, show ((P : Int)).toNat = P from by omega, show (-(P : Int)).toNat = 0 from by omega, Nat.pow_add, Nat.pow_zero, Nat.mul_one, Nat.add_zero, Nat.mul_assoc]
    · rw [e, rst_nat]; rfl
  · by_cases b : -17 ≤ p
    · obtain ⟨m, rfl⟩ : ∃ m : Nat, p = -(m : Int) := ⟨(-p).toNat, by omega⟩
      have e : -(m : Int) + 17 = ((17 - m : Nat) : Int) := by omega
      refine ⟨0, ?_, Nat.pow_pos (by decide), ?_⟩
      · rw [e, flr_nat, show (-(m : Int)).toNat = 0 from by omega, show (- -(m : Int)).toNat = m from by omega, Nat.pow_zero, Nat.mul_one, Nat.add_zero, Nat.mul_assoc, ← Nat.pow_add, show 17 - m + m = 17 from by omega]
      · rw [e, rst_nat]; rfl
    · obtain ⟨m, rfl⟩ : ∃ m : Nat, p = -((m + 17 : Nat) : Int) := ⟨(-p - 17).toNat, by omega⟩
      have e : -((m + 17 : Nat) : Int) + 17 = -(m : Int) := by omega
      have p0 : 0 < 10 ^ m := Nat.pow_pos (by decide)
      refine ⟨D % 10 ^ m * 100000000000000000, ?_, ?_, ?_⟩
      · rw [e, flr_neg, show (-((m + 17 : Nat) : Int)).toNat = 0 from by omega, show (- -((m + 17 : Nat) : Int)).toNat = m + 17 from by omega, Nat.pow_zero, Nat.mul_one, Nat.pow_add]
        show D * 100000000000000000 = D / 10 ^ m * (10 ^ m * 100000000000000000) + D % 10 ^ m * 100000000000000000
        rw [← Nat.mul_assoc, ← Nat.add_mul, Nat.mul_comm (D / 10 ^ m), Nat.div_add_mod]
      · rw [show (- -((m + 17 : Nat) : Int)).toNat = m + 17 from by omega, Nat.pow_add]
        have := Nat.mod_lt D p0
        generalize D % 10 ^ m = x at *
        generalize 10 ^ m = y at *
        show x * 100000000000000000 < y * 100000000000000000
        omega
      · rw [e, rst_neg]
        refine decide_eq_decide.2 ?_
        omega
theorem kept_frac {D : Nat} {p : Int} {wh kp : Nat} {more : Bool} (h : Kept D (p + 17) wh kp more false) :
    ∃ ρ, D * 10 ^ p.toNat * 100000000000000000 = (wh * 100000000000000000 + kp) * 10 ^ (-p).toNat + ρ ∧ ρ < 10 ^ (-p).toNat ∧ more = decide (ρ ≠ 0) := by
  obtain ⟨h1, _, _, h4, h5⟩ := h
  have hlt : flr D (p + 17) < 10000000000000000000000 := by simpa using h5
  rw [Nat.mod_eq_of_lt hlt] at h1
  rw [h1, h4]
  exact flr_frac D p
theorem halves_arith (X c T H t a kp wh ρ : Nat) (hT : T = wh * 100000000000000000 + kp) (hH : H = wh * 131072 + a) (ht : 762939453125 * a + t = kp) (t1 : t ≤ 762939453124) (h : X * 100000000000000000 = T * c + ρ) (hρ : ρ < c) :
    ∃ r, 131072 * X = H * c + r ∧ r < c ∧ (r = 0 ↔ t = 0 ∧ ρ = 0) := by
  have e : T = H * 762939453125 + t := by
    rw [hT, ← ht, hH, Nat.add_mul, Nat.mul_assoc wh, Nat.mul_comm a, Nat.add_assoc]
  rw [e, Nat.add_mul, Nat.mul_right_comm] at h
  have l : t * c ≤ 762939453124 * c := Nat.mul_le_mul_right _ t1
  have z : t * c = 0 ↔ t = 0 := by
    constructor
    · intro e; rcases Nat.mul_eq_zero.1 e with e | e; exact e; omega
    · rintro rfl; simp
  clear hH hT ht e
  refine ⟨131072 * X - H * c, ?_, ?_, ?_⟩
  · generalize H * c = A at *; generalize t * c = B at *; omega
  · generalize H * c = A at *; generalize t * c = B at *; omega
  · rw [← z]; generalize H * c = A at *; generalize t * c = B at *; omega
theorem round_near {D : Nat} {p : Int} {wh kp : Nat} {more : Bool} (neg : Bool) (h : Kept D (p + 17) wh kp more false) : roundV neg wh kp more = nearV neg D p := by
  obtain ⟨ρ, h1, h2, h3⟩ := kept_frac h
  have c0 : 0 < 10 ^ (-p).toNat := Nat.pow_pos (by decide)
  unfold roundV nearV
  rw [show D * 65536 * 10 ^ p.toNat = 65536 * (D * 10 ^ p.toNat) from by rw [Nat.mul_comm D 65536, Nat.mul_assoc]]
  generalize D * 10 ^ p.toNat = X at *
  generalize 10 ^ (-p).toNat = c at *
  obtain ⟨r, r1, r2, r3⟩ := halves_arith X c _ (halvesN wh kp) (kp % 762939453125) (kp / 762939453125) kp wh ρ rfl rfl (Nat.div_add_mod _ _) (Nat.le_of_lt_succ (Nat.mod_lt _ (by decide))) h1 h2
  have hr : (if restB kp more then 1 else 0) = if r = 0 then 0 else 1 := by
    unfold restB
    rw [h3]
    by_cases a : r = 0
    · have := r3.1 a; simp [a, this]
    · rw [if_neg a, if_pos]
      simp only [Bool.or_eq_true, decide_eq_true_eq]
      by_cases b : ρ = 0
      · exact Or.inr fun e => a (r3.2 ⟨e, b⟩)
      · exact Or.inl b
  generalize halvesN wh kp = H at *
  cases neg
  · rw [sg_false]
    have := near_pos_arith X c c0
    rw [r1, Nat.add_comm (H * c), Nat.mul_comm H c, Nat.add_mul_div_left _ _ c0, Nat.div_eq_of_lt r2, Nat.zero_add] at this
    simp only [Bool.false_eq_true, if_false]
    rw [← this]; congr 1
  · rw [sg_true]
    have := near_neg_arith X c H r c0 r1 r2
    simp only [if_true]
    rw [hr, ← this]; congr 1
/-- The answer that is told: the number and the error. -/
def ansV (n : Int) : Int × Int := if -4294967296 < n ∧ n < 4294967296 then (n, 0) else (0, 2)
/-- Too great: a digit ahead of all that is kept. -/
theorem great_near {D : Nat} {p : Int} {wh kp : Nat} {more : Bool} (neg : Bool) (h : Kept D (p + 17) wh kp more true) : ansV (nearV neg D p) = (0, 2) := by
  have hT : 10000000000000000000000 ≤ flr D (p + 17) := by have := h.hg; simpa using this.symm
  obtain ⟨ρ, h1, _, _⟩ := flr_frac D p
  have c0 : 0 < 10 ^ (-p).toNat := Nat.pow_pos (by decide)
  unfold nearV
  rw [show D * 65536 * 10 ^ p.toNat = 65536 * (D * 10 ^ p.toNat) from by rw [Nat.mul_comm D 65536, Nat.mul_assoc]]
  generalize D * 10 ^ p.toNat = X at *
  generalize 10 ^ (-p).toNat = c at *
  generalize flr D (p + 17) = T at *
  have l : 10000000000000000000000 * c ≤ T * c := Nat.mul_le_mul_right _ hT
  have x : 100000 * c ≤ X := by omega
  clear h1 l hT
  refine if_neg ?_
  rintro ⟨a, b⟩
  have ci : (0 : Int) < c := by omega
  unfold near at a b
  cases neg
  · rw [sg_false] at b
    have : (6553600000 : Int) ≤ (((65536 * X : Nat) : Int) + (c : Int) / 2) / c := by
      rw [Int.le_ediv_iff_mul_le ci]; omega
    omega
  · rw [sg_true] at a
    have : (-((65536 * X : Nat) : Int) + (c : Int) / 2) / c ≤ -6553600000 := by
      refine Int.le_of_lt_add_one ?_
      rw [Int.ediv_lt_iff_lt_mul ci]; omega
    omega
end Go.Proofs.YtbjabclgekkpaaaGreatDoor
