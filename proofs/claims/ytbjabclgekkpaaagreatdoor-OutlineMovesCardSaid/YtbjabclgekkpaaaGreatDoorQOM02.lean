/- Joined: PathMath, NormMath, NormRightM, OutMath, RowK, Within, PtMust, AffMust, AffRight, Num. -/
import Derived.Test.YtbjabclgekkpaaaGreatDoorQOM01
import Derived.Defers
import Derived.Recover
import Derived.WalkLawsBesides
namespace Go.Proofs.YtbjabclgekkpaaaGreatDoor
/-- What is read of a text: its length, its bytes, where blanks and gaps end, numbers. -/
structure Tx where
  len : Nat
  byte : Nat → Nat
  blkA : Nat → Nat
  gapA : Nat → Nat
  num : Nat → Bool → Int × Int × Nat
  ends : Nat → Bool → Nat
/-- May a number begin with this byte? -/
def startB (b : Nat) (sg : Bool) : Bool := (48 ≤ b && b ≤ 57) || b == 46 || (sg && (b == 43 || b == 45))
structure Tx.Ok (X : Tx) : Prop where
  blk : ∀ i, i ≤ X.len → i ≤ X.blkA i ∧ X.blkA i ≤ X.len
  gap : ∀ i, i ≤ X.len → i ≤ X.gapA i ∧ X.gapA i ≤ X.len
  comma : ∀ i, i < X.len → X.byte i = 44 → i < X.gapA i
  ends : ∀ i sg, i ≤ X.len → i ≤ X.ends i sg ∧ X.ends i sg ≤ X.len
  er : ∀ i sg, i ≤ X.len → (X.num i sg).2.1 = 0 ∨ (X.num i sg).2.1 = 2 ∨ (X.num i sg).2.1 = 3
  ok : ∀ i sg, i ≤ X.len → (X.num i sg).2.1 = 0 → (X.num i sg).2.2 = X.ends i sg ∧ i < X.ends i sg
  bad : ∀ i sg, i ≤ X.len → (X.num i sg).2.1 = 3 → (X.num i sg).2.2 = X.ends i sg
  great : ∀ i sg, i ≤ X.len → (X.num i sg).2.1 = 2 → (X.num i sg).2.2 = i
  start : ∀ i sg, i < X.len → startB (X.byte i) sg = true → i < X.ends i sg
structure Cmd where
  letter : Nat
  args : List Int
/-- How many arguments a group has; 99: none of the letters. -/
def cntL (c : Nat) : Nat :=
  if c = 77 ∨ c = 109 ∨ c = 76 ∨ c = 108 ∨ c = 84 ∨ c = 116 then 2
  else if c = 72 ∨ c = 104 ∨ c = 86 ∨ c = 118 then 1
  else if c = 67 ∨ c = 99 then 6
  else if c = 83 ∨ c = 115 ∨ c = 81 ∨ c = 113 then 4
  else if c = 65 ∨ c = 97 then 7
  else if c = 90 ∨ c = 122 then 0
  else 99
def isArc (c : Nat) : Bool := c == 65 || c == 97
/-- The letter of the groups behind the first one. -/
def nextL (c : Nat) : Nat := if c = 77 then 76 else if c = 109 then 108 else c
def flagA (X : Tx) (i : Nat) : Int × Int × Nat := if i < X.len ∧ (X.byte i = 48 ∨ X.byte i = 49) then (((X.byte i : Int) - 48), 0, i + 1) else (0, 3, i)
/-- The k-th argument, with the gap ahead of it. -/
def one (X : Tx) (c k i : Nat) : Int × Int × Nat :=
  if isArc c = false then X.num (if k = 0 then i else X.gapA i) true
  else if k = 3 ∧ X.gapA i = i then (0, 3, i)
  else if k = 3 ∨ k = 4 then flagA X (X.gapA i)
  else X.num (if k = 0 then i else X.gapA i) (decide (k ≠ 0 ∧ k ≠ 1))
/-- The arguments from the k-th on, so many of them: what there is, or where it is wrong. -/
def argsL (X : Tx) (c : Nat) : Nat → Nat → Nat → List Int → (List Int × Nat) ⊕ (Nat × Int)
  | 0, _, i, acc => .inl (acc, i)
  | n + 1, k, i, acc => if (one X c k i).2.1 = 0 then argsL X c n (k + 1) (one X c k i).2.2 (acc ++ [(one X c k i).1]) else .inr ((one X c k i).2.2, (one X c k i).2.1)
/-- Path data, from a place on: ahead of a letter (none), or of a group of a letter. -/
def pathL (X : Tx) : Nat → Option Nat → Nat → List Cmd → List Cmd × Int × Int
  | 0, _, _, out => (out, -1, 0)
  | f + 1, none, i, out =>
    if i < X.len then
      if cntL (X.byte i) = 99 ∨ (out = [] ∧ X.byte i ≠ 77 ∧ X.byte i ≠ 109) then (out, (i : Int), 3)
      else if cntL (X.byte i) = 0 then pathL X f none (X.blkA (i + 1)) (out ++ [⟨X.byte i, []⟩])
      else pathL X f (some (X.byte i)) (X.blkA (i + 1)) out
    else (out, -1, 0)
  | f + 1, some c, i, out =>
    match argsL X c (cntL c) 0 i [] with
    | .inr (at', e) => (out, (at' : Int), e)
    | .inl (xs, j) =>
      if X.blkA j < X.len ∧ X.byte (X.blkA j) = 44 then pathL X f (some (nextL c)) (X.gapA (X.blkA j)) (out ++ [⟨c, xs⟩])
      else if X.blkA j < X.len ∧ startB (X.byte (X.blkA j)) (!isArc c) = true then pathL X f (some (nextL c)) (X.blkA j) (out ++ [⟨c, xs⟩])
      else pathL X f none (X.blkA j) (out ++ [⟨c, xs⟩])
theorem flag_ok (X : Tx) (i : Nat) : ((flagA X i).2.1 = 0 ∧ (flagA X i).2.2 = i + 1 ∧ i < X.len) ∨ ((flagA X i).2.1 = 3 ∧ (flagA X i).2.2 = i) := by
  unfold flagA; split
  · rename_i h; exact Or.inl ⟨rfl, rfl, h.1⟩
  · exact Or.inr ⟨rfl, rfl⟩
theorem one_plain (X : Tx) {c : Nat} (k i : Nat) (h : isArc c = false) : one X c k i = X.num (if k = 0 then i else X.gapA i) true := by unfold one; rw [if_pos h]
theorem one_none (X : Tx) {c k i : Nat} (h : isArc c = true) (h1 : k = 3 ∧ X.gapA i = i) : one X c k i = (0, 3, i) := by unfold one; rw [if_neg (by rw [h]; decide), if_pos h1]
theorem one_flag (X : Tx) {c k i : Nat} (h : isArc c = true) (h1 : ¬ (k = 3 ∧ X.gapA i = i)) (h2 : k = 3 ∨ k = 4) : one X c k i = flagA X (X.gapA i) := by unfold one; rw [if_neg (by rw [h]; decide), if_neg h1, if_pos h2]
theorem one_num (X : Tx) {c k : Nat} (i : Nat) (h : isArc c = true) (h2 : ¬ (k = 3 ∨ k = 4)) : one X c k i = X.num (if k = 0 then i else X.gapA i) (decide (k ≠ 0 ∧ k ≠ 1)) := by unfold one; rw [if_neg (by rw [h]; decide), if_neg (fun h => h2 (Or.inl h.1)), if_neg h2]
/-- What an argument is: nothing, a flag or a number. -/
theorem one_cases (X : Tx) (c k i : Nat) : ∃ j : Nat, (j = i ∨ j = X.gapA i) ∧ (j = i → k = 0 ∨ X.gapA i = i) ∧ ((one X c k i = (0, 3, i) ∧ X.gapA i = i) ∨ (one X c k i = flagA X j ∧ j = X.gapA i) ∨ ∃ sg, one X c k i = X.num j sg ∧ (k = 0 → sg = !isArc c)) := by
  unfold one
  by_cases h : isArc c = false
  · rw [if_pos h]
    by_cases hk : k = 0
    · exact ⟨i, Or.inl rfl, fun _ => Or.inl hk, Or.inr (Or.inr ⟨true, by rw [if_pos hk], fun _ => by rw [h]; rfl⟩)⟩
    · exact ⟨X.gapA i, Or.inr rfl, fun e => Or.inr e, Or.inr (Or.inr ⟨true, by rw [if_neg hk], fun _ => by rw [h]; rfl⟩)⟩
  · rw [if_neg h]
    have h' : isArc c = true := by simpa using h
    by_cases h1 : k = 3 ∧ X.gapA i = i
    · rw [if_pos h1]
      exact ⟨i, Or.inl rfl, fun _ => Or.inr h1.2, Or.inl ⟨rfl, h1.2⟩⟩
    · rw [if_neg h1]
      by_cases h2 : k = 3 ∨ k = 4
      · rw [if_pos h2]
        exact ⟨X.gapA i, Or.inr rfl, fun e => Or.inr e, Or.inr (Or.inl ⟨rfl, rfl⟩)⟩
      · rw [if_neg h2]
        by_cases hk : k = 0
        · exact ⟨i, Or.inl rfl, fun _ => Or.inl hk, Or.inr (Or.inr ⟨_, by rw [if_pos hk], fun _ => by rw [h', hk]; rfl⟩)⟩
        · exact ⟨X.gapA i, Or.inr rfl, fun e => Or.inr e, Or.inr (Or.inr ⟨_, by rw [if_neg hk], fun e => absurd e hk⟩)⟩
/-- An argument goes on, or tells where it is wrong. -/
structure OneOk (X : Tx) (c k i : Nat) : Prop where
  hi : (one X c k i).2.2 ≤ X.len
  er : (one X c k i).2.1 = 0 ∨ (one X c k i).2.1 = 2 ∨ (one X c k i).2.1 = 3
  ok : (one X c k i).2.1 = 0 → i < (one X c k i).2.2
  bad : (one X c k i).2.1 = 3 → i ≤ (one X c k i).2.2
theorem num_hi {X : Tx} (H : X.Ok) (j : Nat) (sg : Bool) (h : j ≤ X.len) : (X.num j sg).2.2 ≤ X.len := by
  have he := H.ends j sg h
  rcases H.er j sg h with h0 | h0 | h0
  · rw [(H.ok j sg h h0).1]; exact he.2
  · rw [H.great j sg h h0]; exact h
  · rw [H.bad j sg h h0]; exact he.2
theorem one_ok {X : Tx} (H : X.Ok) (c k i : Nat) (hi : i ≤ X.len) : OneOk X c k i := by
  have hg := H.gap i hi
  obtain ⟨j, hj, _, h⟩ := one_cases X c k i
  have hij : i ≤ j ∧ j ≤ X.len := by rcases hj with rfl | rfl <;> omega
  rcases h with ⟨h, _⟩ | ⟨h, _⟩ | ⟨sg, h, _⟩
  · constructor <;> rw [h]
    · exact hi
    · exact Or.inr (Or.inr rfl)
    · intro e; cases e
    · intro _; exact Nat.le_refl _
  · rcases flag_ok X j with ⟨e1, e2, e3⟩ | ⟨e1, e2⟩
    · constructor <;> rw [h]
      · rw [e2]; omega
      · exact Or.inl e1
      · intro _; rw [e2]; omega
      · intro e; rw [e1] at e; cases e
    · constructor <;> rw [h]
      · rw [e2]; omega
      · exact Or.inr (Or.inr e1)
      · intro e; rw [e1] at e; cases e
      · intro _; rw [e2]; omega
  · constructor <;> rw [h]
    · exact num_hi H j sg hij.2
    · exact H.er j sg hij.2
    · intro e; have := H.ok j sg hij.2 e; omega
    · intro e; have := H.bad j sg hij.2 e; have := H.ends j sg hij.2; omega
theorem args_mono {X : Tx} (H : X.Ok) (c : Nat) : ∀ (n k i : Nat) (acc : List Int), i ≤ X.len →
    (∀ xs j, argsL X c n k i acc = .inl (xs, j) → i ≤ j ∧ j ≤ X.len ∧ (0 < n → i < j)) ∧ (∀ a e, argsL X c n k i acc = .inr (a, e) → a ≤ X.len ∧ (e = 2 ∨ e = 3) ∧ (e = 3 → i ≤ a)) := by
  intro n
  induction n with
  | zero =>
    intro k i acc hi
    refine ⟨fun xs j h => ?_, fun a e h => by cases h⟩
    obtain ⟨rfl, rfl⟩ : acc = xs ∧ i = j := by simpa [argsL] using h
    exact ⟨Nat.le_refl _, hi, fun h => absurd h (by omega)⟩
  | succ n ih =>
    intro k i acc hi
    have O := one_ok H c k i hi
    unfold argsL
    by_cases h0 : (one X c k i).2.1 = 0
    · rw [if_pos h0]
      have hlt := O.ok h0
      have := ih (k + 1) _ (acc ++ [(one X c k i).1]) O.hi
      refine ⟨fun xs j h => ?_, fun a e h => ?_⟩
      · have := this.1 xs j h; omega
      · have := this.2 a e h; exact ⟨this.1, this.2.1, fun h3 => by have := this.2.2 h3; omega⟩
    · rw [if_neg h0]
      refine ⟨(fun xs j h => by cases h), fun a e h => ?_⟩
      obtain ⟨rfl, rfl⟩ : (one X c k i).2.2 = a ∧ (one X c k i).2.1 = e := by simpa using h
      refine ⟨O.hi, ?_, O.bad⟩
      rcases O.er with h | h
      · exact absurd h h0
      · exact h
theorem arc_next (c : Nat) : isArc (nextL c) = isArc c := by
  unfold nextL
  split
  · rename_i h; subst h; decide
  · split
    · rename_i h; subst h; decide
    · rfl
theorem cnt_next (c : Nat) (h : 0 < cntL c) : 0 < cntL (nextL c) := by
  unfold nextL
  split
  · decide
  · split
    · decide
    · exact h
/-- More steps make no difference, once there are enough. -/
theorem path_fuel {X : Tx} (H : X.Ok) : ∀ (f : Nat) (st : Option Nat) (i : Nat) (out : List Cmd), i ≤ X.len → X.len - i + 1 ≤ f → (∀ c, st = some c → 0 < cntL c) → pathL X (f + 1) st i out = pathL X f st i out := by
  intro f
  induction f with
  | zero => intro st i out _ h _; omega
  | succ f ih =>
    intro st i out hi hf hst
    cases st with
    | none =>
      conv => lhs; unfold pathL
      conv => rhs; unfold pathL
      by_cases h1 : i < X.len
      · have hb := H.blk (i + 1) (by omega)
        rw [if_pos h1, if_pos h1]
        by_cases h2 : cntL (X.byte i) = 99 ∨ (out = [] ∧ X.byte i ≠ 77 ∧ X.byte i ≠ 109)
        · rw [if_pos h2, if_pos h2]
        · rw [if_neg h2, if_neg h2]
          by_cases h3 : cntL (X.byte i) = 0
          · rw [if_pos h3, if_pos h3]; exact ih _ _ _ hb.2 (by omega) (fun _ e => by cases e)
          · rw [if_neg h3, if_neg h3]; exact ih _ _ _ hb.2 (by omega) (fun c e => by cases e; omega)
      · rw [if_neg h1, if_neg h1]
    | some c =>
      have hc := hst c rfl
      have hn : ∀ c', some (nextL c) = some c' → 0 < cntL c' := fun c' e => by cases e; exact cnt_next c hc
      have M := args_mono H c (cntL c) 0 i [] hi
      conv => lhs; unfold pathL
      conv => rhs; unfold pathL
      cases he : argsL X c (cntL c) 0 i [] with
      | inr y => rfl
      | inl y =>
        obtain ⟨xs, j⟩ := y
        have hj := M.1 _ _ he
        have hlt := hj.2.2 hc
        have hb := H.blk j hj.2.1
        have hg := H.gap (X.blkA j) hb.2
        simp only
        by_cases h1 : X.blkA j < X.len ∧ X.byte (X.blkA j) = 44
        · rw [if_pos h1, if_pos h1]; exact ih _ _ _ hg.2 (by omega) hn
        · rw [if_neg h1, if_neg h1]
          by_cases h2 : X.blkA j < X.len ∧ startB (X.byte (X.blkA j)) (!isArc c) = true
          · rw [if_pos h2, if_pos h2]; exact ih _ _ _ hb.2 (by omega) hn
          · rw [if_neg h2, if_neg h2]; exact ih _ _ _ hb.2 (by omega) (fun _ e => by cases e)
/-- All of the text. -/
def pathAll (X : Tx) : List Cmd × Int × Int := pathL X (X.len + 1) none (X.blkA 0) []
end Go.Proofs.YtbjabclgekkpaaaGreatDoor
namespace Go.Proofs.YtbjabclgekkpaaaGreatDoor
/-- A segment: its kind, To, C1, C2, radii, turn, flags. -/
structure Seg where
  kind : Int
  tx : Int
  ty : Int
  ax : Int
  ay : Int
  cx : Int
  cy : Int
  rx : Int
  ry : Int
  turn : Int
  lg : Bool
  sw : Bool
def zeroS : Seg := ⟨0, 0, 0, 0, 0, 0, 0, 0, 0, 0, false, false⟩
def segS (k x y a b c d : Int) : Seg := ⟨k, x, y, a, b, c, d, 0, 0, 0, false, false⟩
/-- What the commands ahead have come to. -/
structure NS where
  out : List Seg
  px : Int
  py : Int
  qx : Int
  qy : Int
  op : Bool
  ox : Int
  oy : Int
def NS.zero : NS := ⟨[], 0, 0, 0, 0, false, 0, 0⟩
def begM (s : NS) (x y : Int) : NS := ⟨s.out ++ [segS 1 x y 0 0 0 0], x, y, x, y, true, s.ox, s.oy⟩
def openM (s : NS) : NS := if s.op = true then s else begM s s.px s.py
def addM (s : NS) (g : Seg) : NS := ⟨(openM s).out ++ [g], g.tx, g.ty, (openM s).qx, (openM s).qy, (openM s).op, s.ox, s.oy⟩
def lastM (s : NS) : Seg := s.out.getLastD zeroS
def mirM (s : NS) (k : Int) : Int × Int :=
  if (lastM s).kind = k then (if k = 3 then (2 * s.px - (lastM s).cx, 2 * s.py - (lastM s).cy) else (2 * s.px - (lastM s).ax, 2 * s.py - (lastM s).ay)) else (s.px, s.py)
/-- A letter as a capital. -/
def capL (c : Nat) : Nat := if 97 ≤ c ∧ c ≤ 122 then c - 32 else c
def nA (a : List Int) (i : Nat) : Int := a.getD i 0
def stepM (L : Nat) (s : NS) (a : List Int) : NS :=
  if L = 77 then begM s (s.ox + nA a 0) (s.oy + nA a 1)
  else if L = 76 then addM s (segS 2 (s.ox + nA a 0) (s.oy + nA a 1) 0 0 0 0)
  else if L = 72 then addM s (segS 2 (s.ox + nA a 0) s.py 0 0 0 0)
  else if L = 86 then addM s (segS 2 s.px (s.oy + nA a 0) 0 0 0 0)
  else if L = 67 then addM s (segS 3 (s.ox + nA a 4) (s.oy + nA a 5) (s.ox + nA a 0) (s.oy + nA a 1) (s.ox + nA a 2) (s.oy + nA a 3))
  else if L = 83 then addM s (segS 3 (s.ox + nA a 2) (s.oy + nA a 3) (mirM s 3).1 (mirM s 3).2 (s.ox + nA a 0) (s.oy + nA a 1))
  else if L = 81 then addM s (segS 4 (s.ox + nA a 2) (s.oy + nA a 3) (s.ox + nA a 0) (s.oy + nA a 1) 0 0)
  else if L = 84 then addM s (segS 4 (s.ox + nA a 0) (s.oy + nA a 1) (mirM s 4).1 (mirM s 4).2 0 0)
  else if L = 65 then addM s ⟨5, s.ox + nA a 5, s.oy + nA a 6, 0, 0, 0, 0, nA a 0, nA a 1, nA a 2, nA a 3 == 1, nA a 4 == 1⟩
  else ⟨(addM s (segS 6 s.qx s.qy 0 0 0 0)).out, s.qx, s.qy, (openM s).qx, (openM s).qy, false, s.ox, s.oy⟩
def orgM (s : NS) (c : Nat) : NS := ⟨s.out, s.px, s.py, s.qx, s.qy, s.op, if 97 ≤ c then s.px else 0, if 97 ≤ c then s.py else 0⟩
def takeM (s : NS) (c : Cmd) : NS := stepM (capL c.letter) (orgM s c.letter) c.args
def inB (g : Seg) : Prop := In32 g.tx ∧ In32 g.ty ∧ In32 g.ax ∧ In32 g.ay ∧ In32 g.cx ∧ In32 g.cy ∧ In32 g.rx ∧ In32 g.ry ∧ In32 g.turn
instance (g : Seg) : Decidable (inB g) := by unfold inB; infer_instance
/-- The segments of commands, till one goes too far, and the place of that one, or -1. -/
def bringL (s : NS) : List Cmd → Nat → List Seg × Int
  | [], _ => (s.out, -1)
  | c :: t, i => if inB (lastM (takeM s c)) then bringL (takeM s c) t (i + 1) else (s.out, (i : Int))
def shutL (l : List Seg) : Prop := l = [] ∨ (l.getLastD zeroS).kind = 6
instance (l : List Seg) : Decidable (shutL l) := by
  unfold shutL
  cases l with
  | nil => exact isTrue (Or.inl rfl)
  | cons x t => exact decidable_of_iff (((x :: t).getLastD zeroS).kind = 6) ⟨Or.inr, fun h => by rcases h with h | h; cases h; exact h⟩
def inR (g : Seg) : Prop := (In32 g.tx ∧ In32 g.ty) ∧ (In32 g.ax ∧ In32 g.ay) ∧ (In32 g.cx ∧ In32 g.cy)
instance (g : Seg) : Decidable (inR g) := by unfold inR; infer_instance
/-- A command that can be brought: as many numbers as its letter asks, none too great. -/
def CmdW (x : Cmd) : Prop := cntL x.letter = x.args.length ∧ cntL x.letter ≠ 99 ∧ ∀ v ∈ x.args, In32 v
theorem CmdW.at {x : Cmd} (h : CmdW x) (i : Nat) : In32 (nA x.args i) := by
  unfold nA
  by_cases hi : i < x.args.length
  · rw [List.getD_eq_getElem?_getD, List.getElem?_eq_getElem hi]; exact h.2.2 _ (List.getElem_mem hi)
  · rw [List.getD_eq_getElem?_getD, List.getElem?_eq_none (by omega)]; exact ⟨by decide, by decide⟩
/-- The ten capitals. -/
theorem cap_ten {c : Nat} (h : cntL c ≠ 99) : (capL c = 77 ∨ capL c = 76 ∨ capL c = 72 ∨ capL c = 86 ∨ capL c = 67 ∨ capL c = 83 ∨ capL c = 81 ∨ capL c = 84 ∨ capL c = 65 ∨ capL c = 90) ∧ cntL (capL c) = cntL c := by
  have hlt : c < 256 := by unfold cntL at h; repeat (first | (split at h; omega) | omega)
  have : ∀ c : Fin 256, cntL c.val ≠ 99 → (capL c = 77 ∨ capL c = 76 ∨ capL c = 72 ∨ capL c = 86 ∨ capL c = 67 ∨ capL c = 83 ∨ capL c = 81 ∨ capL c = 84 ∨ capL c = 65 ∨ capL c = 90) ∧ cntL (capL c) = cntL c := by decide +kernel
  exact this ⟨c, hlt⟩ h
theorem last_snoc (l : List Seg) (g : Seg) : (l ++ [g]).getLastD zeroS = g := by simp
theorem last_of {s : NS} {l : List Seg} {g : Seg} (h : s.out = l ++ [g]) : lastM s = g := by unfold lastM; rw [h, last_snoc]
end Go.Proofs.YtbjabclgekkpaaaGreatDoor
namespace Go.Proofs.YtbjabclgekkpaaaGreatDoor
instance : Inhabited Seg := ⟨zeroS⟩
/-- The segment without what its kind doesn't have. -/
def keptS (g : Seg) : Seg :=
  if g.kind = 3 then ⟨g.kind, g.tx, g.ty, g.ax, g.ay, g.cx, g.cy, 0, 0, 0, false, false⟩
  else if g.kind = 4 then ⟨g.kind, g.tx, g.ty, g.ax, g.ay, 0, 0, 0, 0, 0, false, false⟩
  else if g.kind = 5 then ⟨g.kind, g.tx, g.ty, 0, 0, 0, 0, g.rx, g.ry, g.turn, g.lg, g.sw⟩
  else ⟨g.kind, g.tx, g.ty, 0, 0, 0, 0, 0, 0, 0, false, false⟩
def aloneP (g : Seg) : Prop := 1 ≤ g.kind ∧ g.kind ≤ 6 ∧ g = keptS g ∧ inB g ∧ 0 ≤ g.rx ∧ 0 ≤ g.ry
/-- Going along: the last Move's point, and whether a subpath is open. -/
def rightP : List Seg → Int → Int → Bool → Prop
  | [], _, _, _ => True
  | g :: t, bx, by', op => aloneP g ∧ (if g.kind = 1 then rightP t g.tx g.ty true else if op = false then False else if g.kind = 6 then (g.tx = bx ∧ g.ty = by' ∧ rightP t bx by' false) else rightP t bx by' op)
end Go.Proofs.YtbjabclgekkpaaaGreatDoor
namespace Go.Proofs.YtbjabclgekkpaaaGreatDoor
open Go.RowKit Go.Shelf
/-- Where the segments ahead have come to: the point, the beginning, and whether a subpath is open. -/
structure Pen where
  x : Int
  y : Int
  u : Int
  v : Int
  o : Bool
def Pen.zero : Pen := ⟨0, 0, 0, 0, false⟩
def edgO (a b : Pt) : Edg := ⟨a.1, a.2, b.1, b.2⟩
/-- The edge between two points, taken. -/
def lineO (m : Mtx) (a b : Pt) : List Edg × Int :=
  if (allA m [a, b]).2 = 0 then (if (allA m [a, b]).1.getD 0 (0, 0) = (allA m [a, b]).1.getD 1 (0, 0) then [] else [edgO ((allA m [a, b]).1.getD 0 (0, 0)) ((allA m [a, b]).1.getD 1 (0, 0))], 0) else ([], (allA m [a, b]).2)
theorem all_mem {m : Mtx} {l : List Pt} (h : (allA m l).2 = 0) : m.right ∧ (∀ p ∈ l, okP m p) ∧ (allA m l).1 = l.map (imgP m) := by
  unfold allA at *
  by_cases k : m.right
  · rw [if_pos k] at h ⊢
    cases hf : l.find? (fun p => !decide (okP m p)) with
    | none => exact ⟨k, fun p hp => by simpa using List.find?_eq_none.1 hf p hp, rfl⟩
    | some p =>
      rw [hf] at h
      have hp := List.find?_some hf
      simp at hp
      exact absurd h hp
  · rw [if_neg k] at h; simp at h
def finO (m : Mtx) (s : Pen) : List Edg × Int := if s.o = true then lineO m (s.x, s.y) (s.u, s.v) else ([], 0)
def stepO (s : Pen) (g : Seg) : Pen := ⟨g.tx, g.ty, if g.kind = 1 then g.tx else s.u, if g.kind = 1 then g.ty else s.v, if g.kind = 1 then true else if g.kind = 6 then false else s.o⟩
/-- What each segment comes to, and the end. -/
def strO (D : Pen → Seg → List Edg × Int) (m : Mtx) : Pen → List Seg → List (List Edg × Int)
  | s, [] => [finO m s]
  | s, g :: t => D s g :: strO D m (stepO s g) t
/-- All together, or the first error. -/
def joinO : List Edg → List (List Edg × Int) → List Edg × Int
  | acc, [] => (acc, 0)
  | acc, (L, e) :: t => if e = 0 then joinO (acc ++ L) t else ([], e)
noncomputable instance rightPDec (l : List Seg) (a b : Int) (o : Bool) : Decidable (rightP l a b o) := Classical.propDecidable _
noncomputable def allO (D : Pen → Seg → List Edg × Int) (m : Mtx) (l : List Seg) : List (List Edg × Int) :=
  if m.right ∧ rightP l 0 0 false then strO D m Pen.zero l else [([], 1)]
noncomputable def outO (D : Pen → Seg → List Edg × Int) (m : Mtx) (l : List Seg) : List Edg × Int := joinO [] (allO D m l)
/-- Lines alone. -/
def drawL (m : Mtx) (s : Pen) (g : Seg) : List Edg × Int := if g.kind = 2 then lineO m (s.x, s.y) (g.tx, g.ty) else finO m s
theorem lineO_len (m : Mtx) (a b : Pt) : (lineO m a b).1.length ≤ 1 := by
  unfold lineO
  split
  · dsimp only; split <;> simp
  · simp
theorem finO_len (m : Mtx) (s : Pen) : (finO m s).1.length ≤ 1 := by
  unfold finO
  split
  · exact lineO_len _ _ _
  · simp
/-- The points are such as may be taken. -/
def PenIn (s : Pen) : Prop := (In32 s.x ∧ In32 s.y) ∧ (In32 s.u ∧ In32 s.v)
theorem penIn_zero : PenIn Pen.zero := by unfold PenIn Pen.zero In32; decide
theorem penIn_step {s : Pen} {g : Seg} (h : PenIn s) (hg : inB g) : PenIn (stepO s g) := by
  obtain ⟨h1, h2, h3⟩ := h
  obtain ⟨t1, t2, _⟩ := hg
  unfold stepO
  refine ⟨⟨t1, t2⟩, ?_, ?_⟩
  · dsimp only; split <;> assumption
  · dsimp only; split <;> assumption
theorem rightP_all : ∀ {l : List Seg} {a b : Int} {o : Bool}, rightP l a b o → ∀ g ∈ l, aloneP g
  | [], _, _, _, _, _, h => by cases h
  | x :: t, a, b, o, h, g, hg => by
    obtain ⟨h1, h2⟩ := h
    rcases List.mem_cons.1 hg with rfl | hg
    · exact h1
    · split at h2
      · exact rightP_all h2 g hg
      · split at h2
        · exact h2.elim
        · split at h2
          · exact rightP_all h2.2.2 g hg
          · exact rightP_all h2 g hg
/-- Strokes of at most N edges each. -/
theorem strO_len {D : Pen → Seg → List Edg × Int} {m : Mtx} {N : Nat} (hN : 1 ≤ N) (hD : ∀ s g, (D s g).1.length ≤ N) : ∀ (l : List Seg) (s : Pen), ∀ x ∈ strO D m s l, x.1.length ≤ N
  | [], s, x, h => by
    simp only [strO, List.mem_singleton] at h
    subst h
    exact Nat.le_trans (finO_len m s) hN
  | g :: t, s, x, h => by
    simp only [strO, List.mem_cons] at h
    rcases h with rfl | h
    · exact hD s g
    · exact strO_len hN hD t _ x h
theorem strO_length (D : Pen → Seg → List Edg × Int) (m : Mtx) : ∀ (l : List Seg) (s : Pen), (strO D m s l).length = l.length + 1
  | [], _ => rfl
  | g :: t, s => by simp only [strO, List.length_cons]; rw [strO_length D m t]
/-- What lies ahead is joined, as long as there is no error. -/
def cleanO (pre : List (List Edg × Int)) : Prop := ∀ x ∈ pre, x.2 = 0
def catO (pre : List (List Edg × Int)) : List Edg := (pre.map (·.1)).flatten
theorem join_clean : ∀ (pre : List (List Edg × Int)) (acc : List Edg) (post : List (List Edg × Int)), cleanO pre → joinO acc (pre ++ post) = joinO (acc ++ catO pre) post
  | [], acc, post, _ => by simp [catO]
  | (L, e) :: t, acc, post, h => by
    have e0 : e = 0 := h (L, e) List.mem_cons_self
    rw [List.cons_append, joinO, if_pos e0, join_clean t _ post (fun x hx => h x (List.mem_cons_of_mem _ hx))]
    simp [catO]
theorem join_all {pre : List (List Edg × Int)} (h : cleanO pre) : joinO [] pre = (catO pre, 0) := by
  have := join_clean pre [] [] h
  rw [List.append_nil] at this
  rw [this]; simp [joinO]
theorem join_stop {pre post : List (List Edg × Int)} {L : List Edg} {e : Int} (h : cleanO pre) (he : e ≠ 0) : joinO [] (pre ++ (L, e) :: post) = ([], e) := by
  rw [join_clean pre _ _ h, joinO, if_neg he]
theorem catO_snoc (pre : List (List Edg × Int)) (x : List Edg × Int) : catO (pre ++ [x]) = catO pre ++ x.1 := by simp [catO]
theorem catO_len {N : Nat} : ∀ {pre : List (List Edg × Int)}, (∀ x ∈ pre, x.1.length ≤ N) → (catO pre).length ≤ pre.length * N
  | [], _ => by simp [catO]
  | x :: t, h => by
    have h1 := h x List.mem_cons_self
    have h2 := catO_len (pre := t) (fun y hy => h y (List.mem_cons_of_mem _ hy))
    simp only [catO, List.map_cons, List.flatten_cons, List.length_append, List.length_cons] at *
    rw [Nat.add_mul]; omega
theorem cleanO_snoc {pre : List (List Edg × Int)} {x : List Edg × Int} (h : cleanO pre) (hx : x.2 = 0) : cleanO (pre ++ [x]) := by
  intro y hy
  rcases List.mem_append.1 hy with hy | hy
  · exact h y hy
  · rw [List.mem_singleton.1 hy]; exact hx
end Go.Proofs.YtbjabclgekkpaaaGreatDoor
namespace Go.Proofs.YtbjabclgekkpaaaGreatDoor
open Go.ChangeShapes Go.WideShapes Go.ChangeAt Go.RowKit
/-- The live cells of a slice of numbers of the kind k. -/
def IntsK (k : IntKind) (a : Option Addr) (zs : List Int) (w : World) : Prop :=
  zs = [] ∨ ∃ b off : Nat, a = some ⟨b, off, none⟩ ∧ b < w.heap.size ∧ ∀ i, i < zs.length → w.cell? ⟨b, off + i, none⟩ = some (.int k (zs.getD i 0))
theorem IntsK.pos {k : IntKind} {a : Option Addr} {zs : List Int} {w : World} (h : IntsK k a zs w) {j : Nat} (hk : j < zs.length) :
    ∃ b off : Nat, a = some ⟨b, off, none⟩ ∧ b < w.heap.size ∧ ∀ i, i < zs.length → w.cell? ⟨b, off + i, none⟩ = some (.int k (zs.getD i 0)) := by
  rcases h with h | h
  · subst h; simp at hk
  · exact h
end Go.Proofs.YtbjabclgekkpaaaGreatDoor
namespace Go.Proofs.YtbjabclgekkpaaaGreatDoor
open Go.RowKit Go.Shelf
/-- Is it within the bound? -/
def wiB (bound n : Int) : Bool := decide (n < bound ∧ -bound < n)
theorem all_snoc (p : Int → Bool) (zs : List Int) (k : Nat) (hk : k < zs.length) : (zs.take (k + 1)).all p = ((zs.take k).all p && p (zs.getD k 0)) := by
  rw [List.take_succ_eq_append_getElem hk, List.all_append]
  simp [List.getD, List.getElem?_eq_getElem hk]
theorem all_false (p : Int → Bool) (zs : List Int) (k : Nat) (hk : k < zs.length) (h : p (zs.getD k 0) = false) : zs.all p = false := by
  rw [List.all_eq_false]
  refine ⟨zs[k], List.getElem_mem hk, ?_⟩
  simpa [List.getD, List.getElem?_eq_getElem hk] using h
theorem getD_mem7 (zs : List Int) (k : Nat) (hk : k < zs.length) : zs.getD k 0 ∈ zs := by
  simp [List.getD, List.getElem?_eq_getElem hk]
set_option maxHeartbeats 1000000 in
theorem within_any (bound : Int) (a : Option Addr) (zs : List Int) (cap : Nat) (w : World) (hb : I64 bound) (hz : ∀ z ∈ zs, I64 z) (hl : zs.length ≤ maxLen) (h : IntsK .i64 a zs w) :
    Calls Tryz.prog 54 #[.int .i64 bound, .slice a zs.length cap] w fun e w' => e = .returned (.bool (zs.all (wiB bound))) ∧ w = w' := by
  unfold maxLen at hl
  have HZ := Lib.hid hz
  have HI := Lib.hid h
  clear hz h
  go_enter Tryz.func54, Tryz.ntmps54
  go_wp2_with fail
  go_loop [6, 9] (fun _ i => ∃ k : Nat, k ≤ zs.length ∧ i = .int .i64 k ∧ Hid ((zs.take k).all (wiB bound) = true)) (fun _ i => zs.length - (intOf i).toNat)
  case atStart => exact ⟨0, Nat.zero_le _, rfl, by unfold Hid; simp⟩
  case round =>
    obtain ⟨k, hk, rfl, hall⟩ := hrel
    by_cases hlt : k < zs.length
    · obtain ⟨b, off, rfl, hbl, hc⟩ := HI.out.pos hlt
      have hcell := hc k hlt
      have hz := HZ.out _ (getD_mem7 zs k hlt)
      have HS := Lib.hid (all_snoc (wiB bound) zs k hlt)
      have HF := Lib.hid (all_false (wiB bound) zs k hlt)
      clear hc
      generalize zs.getD k 0 = z at *
      unfold I64 at hz hb
      obtain ⟨hz1, hz2⟩ := hz
      obtain ⟨hb1, hb2⟩ := hb
      by_cases h1 : bound ≤ z
      · have hf := HF.out (by unfold wiB; simp; omega)
        have HF2 := Lib.hid hf
        clear hf
        go_wp2_with fail
        go_ret
        exact ⟨by rw [HF2.out]; rfl, rfl⟩
      · by_cases h2 : z ≤ -bound
        · have hf := HF.out (by unfold wiB; simp; omega)
          have HF2 := Lib.hid hf
          clear hf
          go_wp2_with fail
          go_ret
          exact ⟨by rw [HF2.out]; rfl, rfl⟩
        · go_wp2_with fail
          go_round
          case rel => exact ⟨k + 1, by omega, by go_num, by unfold Hid; rw [HS.out, hall.out]; unfold wiB; simp; omega⟩
          case measure => simp [intOf]; omega
    · obtain rfl : k = zs.length := by omega
      have hf : zs.all (wiB bound) = true := by have := hall.out; rwa [List.take_length] at this
      have HF2 := Lib.hid hf
      clear hf
      go_wp2_with fail
      go_ret
      exact ⟨by rw [HF2.out]; rfl, rfl⟩
end Go.Proofs.YtbjabclgekkpaaaGreatDoor
namespace Go.Proofs.YtbjabclgekkpaaaGreatDoor
open Go.RowKit Go.Shelf
theorem wi_in8 (n : Int) : wiB 4294967296 n = decide (In32 n) := by
  unfold wiB In32
  exact decide_eq_decide.2 ⟨fun h => ⟨h.2, h.1⟩, fun h => ⟨h.2, h.1⟩⟩
theorem i64_bound : I64 4294967296 := ⟨by decide, by decide⟩
theorem pe_ret {f : Func} {k : Nat} (hres : f.results = #[ResultVar.cell k 40]) {n : Nat} {w wr : World} {x y : Int} {ts : Array Value} (hp : PBox n x y wr) (hb : Below w.heap.size w wr) (hts : ts[k]? = some (.pointer (some ⟨n, 0, none⟩))) :
    bodyPost Tryz.prog f (fun e w' => e = .returned (.agg #[.int .i64 x, .int .i64 y]) ∧ Below w.heap.size w w') .ret { tmps := ts, defers := [] } wr := by
  have c0 := hp.c0; have c1 := hp.c1
  exact bodyPost_ret (v := .agg #[.int .i64 x, .int .i64 y]) (by simp [results, hres, go_sem, c0, c1, hts]) rfl ⟨rfl, hb⟩
end Go.Proofs.YtbjabclgekkpaaaGreatDoor
namespace Go.Proofs.YtbjabclgekkpaaaGreatDoor
open Go.RowKit Go.Shelf
/-- How a call gives up: it panics with this error's number. -/
def Gives (z : Int) : Ending := .panicked [{ v := .iface 28 (.int .i64 z), recovered := false }]
theorem must_ok (z : Int) (w : World) : Calls Tryz.prog 141 #[.bool true, .int .i64 z] w fun e w' => e = .returned (.tuple #[]) ∧ w = w' := by
  go_enter Tryz.func141, Tryz.ntmps141
  go_wp2
  go_end0
  exact ⟨rfl, rfl⟩
theorem must_no (z : Int) (w : World) : Calls Tryz.prog 141 #[.bool false, .int .i64 z] w fun e w' => e = Gives z ∧ w = w' := by
  go_enter Tryz.func141, Tryz.ntmps141
  go_wp2
  exact ⟨rfl, rfl, rfl⟩
theorem near_any (x y : Int) (w : World) (hx : I64 x) (hy : I64 y) :
    Calls Tryz.prog 173 #[.agg #[.int .i64 x, .int .i64 y]] w fun e w' => e = .returned (.bool (decide (In32 x ∧ In32 y))) ∧ Below w.heap.size w w' := by
  have ed : [x, y].all (wiB 4294967296) = decide (In32 x ∧ In32 y) := by
    simp only [List.all_cons, List.all_nil, wi_in8, Bool.and_true]
    rw [Bool.eq_iff_iff]; simp
  have WI := Lib.hid (show ∀ (w : World) (n : Nat), IntsK .i64 (some ⟨n, 0, none⟩) [x, y] w → Calls Tryz.prog 54 #[.int .i64 4294967296, .slice (some ⟨n, 0, none⟩) 2 2] w fun e w' => e = .returned (.bool (decide (In32 x ∧ In32 y))) ∧ w = w' from fun w n h => by
    have := within_any 4294967296 (some ⟨n, 0, none⟩) [x, y] 2 w i64_bound (by intro z hz; simp at hz; rcases hz with rfl | rfl <;> assumption) (show (2 : Nat) ≤ maxLen by unfold maxLen; omega) h
    rw [ed] at this; exact this)
  generalize decide (In32 x ∧ In32 y) = d at *
  clear ed hx hy
  go_enter Tryz.func173, Tryz.ntmps173
  go_wp2_with fail
  have b1 := (Below.refl w.heap.size w).alloc (Nat.le_refl _) (.cells #[.int .i64 x, .int .i64 y] 40)
  have s1 : (w.alloc (.cells #[.int .i64 x, .int .i64 y] 40)).heap.size = w.heap.size + 1 := by simp
  generalize w.alloc (.cells #[.int .i64 x, .int .i64 y] 40) = W1 at *
  have b2 := b1.alloc b1.size (.cells #[.int .i64 x, .int .i64 y] 2)
  have hn := World.alloc_heap_new W1 (.cells #[.int .i64 x, .int .i64 y] 2)
  have HI : IntsK .i64 (some ⟨w.heap.size + 1, 0, none⟩) [x, y] (W1.alloc (.cells #[.int .i64 x, .int .i64 y] 2)) := by
    rw [s1] at hn
    refine Or.inr ⟨w.heap.size + 1, 0, rfl, by simp; omega, fun i hi => ?_⟩
    rw [Nat.zero_add]
    unfold World.cell?
    rw [hn]
    have hi' : i < 2 := hi
    match i, hi' with
    | 0, _ => rfl
    | 1, _ => rfl
  refine (WI.out _ _ HI).mono ?_
  rintro e w3 ⟨rfl, rfl⟩
  clear HI hn WI
  go_wp2_with fail
  go_ret
  exact ⟨rfl, b2⟩
/-- Numbers such as may lie in memory. -/
def MI64 (m : Mtx) : Prop := I64 m.a ∧ I64 m.b ∧ I64 m.c ∧ I64 m.d ∧ I64 m.e ∧ I64 m.f
theorem me_ret {f : Func} {k : Nat} (hres : f.results = #[ResultVar.cell k 23]) {n : Nat} {w wr : World} {m : Mtx} {ts : Array Value} (hp : MBox n m wr) (hb : Below w.heap.size w wr) (hts : ts[k]? = some (.pointer (some ⟨n, 0, none⟩))) :
    bodyPost Tryz.prog f (fun e w' => e = .returned m.val ∧ Below w.heap.size w w') .ret { tmps := ts, defers := [] } wr := by
  have c0 := hp.c0; have c1 := hp.c1; have c2 := hp.c2; have c3 := hp.c3; have c4 := hp.c4; have c5 := hp.c5
  exact bodyPost_ret (v := m.val) (by simp [results, hres, go_sem, c0, c1, c2, c3, c4, c5, hts, Mtx.val, Mtx.cells]) rfl ⟨rfl, hb⟩
end Go.Proofs.YtbjabclgekkpaaaGreatDoor
namespace Go.Proofs.YtbjabclgekkpaaaGreatDoor
open Go.RowKit Go.Shelf
set_option maxHeartbeats 2000000 in
set_option maxRecDepth 100000 in
theorem aright8 (m : Mtx) (w : World) (h : MI64 m) : Calls Tryz.prog 25 #[m.val] w fun e w' => e = .returned (.bool (decide m.right)) ∧ Below w.heap.size w w' := by
  obtain ⟨h1, h2, h3, h4, h5, h6⟩ := h
  obtain ⟨a, b, c, d, e0, f⟩ := m
  have ed : [a, b, c, d, e0, f].all (wiB 4294967296) = decide (Mtx.right ⟨a, b, c, d, e0, f⟩) := by
    simp only [List.all_cons, List.all_nil, wi_in8, Bool.and_true]
    rw [right_dec]
  have hl6 : [a, b, c, d, e0, f].length = 6 := rfl
  have WI := Lib.hid (show ∀ (w : World) (n : Nat), IntsK .i64 (some ⟨n, 0, none⟩) [a, b, c, d, e0, f] w → Calls Tryz.prog 54 #[.int .i64 4294967296, .slice (some ⟨n, 0, none⟩) 6 6] w fun e w' => e = .returned (.bool (decide (Mtx.right ⟨a, b, c, d, e0, f⟩))) ∧ w = w' from fun w n h => by
    have := within_any 4294967296 (some ⟨n, 0, none⟩) [a, b, c, d, e0, f] 6 w i64_bound (by intro z hz; simp only [List.mem_cons, List.not_mem_nil, or_false] at hz; rcases hz with rfl | rfl | rfl | rfl | rfl | rfl <;> assumption) (by rw [hl6]; unfold maxLen; omega) h
    rw [ed, hl6] at this; exact this)
  generalize decide (Mtx.right ⟨a, b, c, d, e0, f⟩) = D at *
  clear ed hl6 h1 h2 h3 h4 h5 h6
  show Calls _ _ #[.agg #[.int .i64 a, .int .i64 b, .int .i64 c, .int .i64 d, .int .i64 e0, .int .i64 f]] w _
  go_enter Tryz.func25, Tryz.ntmps25
  go_wp2_with fail
  have b1 := (Below.refl w.heap.size w).alloc (Nat.le_refl _) (.cells #[.int .i64 a, .int .i64 b, .int .i64 c, .int .i64 d, .int .i64 e0, .int .i64 f] 23)
  have s1 : (w.alloc (.cells #[.int .i64 a, .int .i64 b, .int .i64 c, .int .i64 d, .int .i64 e0, .int .i64 f] 23)).heap.size = w.heap.size + 1 := by simp
  generalize w.alloc (.cells #[.int .i64 a, .int .i64 b, .int .i64 c, .int .i64 d, .int .i64 e0, .int .i64 f] 23) = W1 at *
  have b2 := b1.alloc b1.size (.cells #[.int .i64 a, .int .i64 b, .int .i64 c, .int .i64 d, .int .i64 e0, .int .i64 f] 2)
  have hn := World.alloc_heap_new W1 (.cells #[.int .i64 a, .int .i64 b, .int .i64 c, .int .i64 d, .int .i64 e0, .int .i64 f] 2)
  have HI : IntsK .i64 (some ⟨w.heap.size + 1, 0, none⟩) [a, b, c, d, e0, f] (W1.alloc (.cells #[.int .i64 a, .int .i64 b, .int .i64 c, .int .i64 d, .int .i64 e0, .int .i64 f] 2)) := by
    rw [s1] at hn
    refine Or.inr ⟨w.heap.size + 1, 0, rfl, by simp; omega, fun i hi => ?_⟩
    rw [Nat.zero_add]
    unfold World.cell?
    rw [hn]
    have hi' : i < 6 := hi
    match i, hi' with
    | 0, _ => rfl
    | 1, _ => rfl
    | 2, _ => rfl
    | 3, _ => rfl
    | 4, _ => rfl
    | 5, _ => rfl
  refine (WI.out _ _ HI).mono ?_
  rintro e w3 ⟨rfl, rfl⟩
  clear HI hn WI
  go_wp2_with fail
  go_ret
  exact ⟨rfl, b2⟩
end Go.Proofs.YtbjabclgekkpaaaGreatDoor
namespace Go.Proofs.YtbjabclgekkpaaaGreatDoor
open Go.RowKit Go.Shelf
/-- Word and its bound. -/
def Word (x : Int) : Prop := 0 ≤ x ∧ x < 18446744073709551616
theorem add64 (x y c : Int) (hx : 0 ≤ x) (hy : 0 ≤ y) (hc0 : 0 ≤ c) (hc : c ≤ 1) (w : World) : (callFunc 217 #[.int .u64 x, .int .u64 y, .int .u64 c]).run Tryz.prog w =
    .ok (.value (.tuple #[.int .u64 ((x + y + c) % 18446744073709551616), .int .u64 ((x + y + c) / 18446744073709551616)])) w := by
  rw [run_callFunc_extern Tryz.func217 (by kernel_rfl) (by kernel_rfl) (by kernel_rfl) (e := add64Entry) (by kernel_rfl), run_add64 x y c hx hy hc0 hc]
  simp only [Result.andThen]
theorem add64_0 (x y : Int) (hx : 0 ≤ x) (hy : 0 ≤ y) (w : World) : (callFunc 217 #[.int .u64 x, .int .u64 y, .int .u64 0]).run Tryz.prog w =
    .ok (.value (.tuple #[.int .u64 ((x + y) % 18446744073709551616), .int .u64 ((x + y) / 18446744073709551616)])) w := by
  simpa using add64 x y 0 hx hy (Int.le_refl 0) (by decide) w
/-- Of the world nothing that was there has turned, but for block b. -/
structure Turn (b : Nat) (w w' : World) : Prop where
  os : w'.os = w.os
  tape : w'.tape = w.tape
  output : w'.output = w.output
  size : w.heap.size ≤ w'.heap.size
  block : ∀ k, k < w.heap.size → k ≠ b → w'.heap[k]? = w.heap[k]?
/-- Block b holds the two words. -/
def Two (b : Nat) (h l : Int) (w : World) : Prop := w.heap[b]? = some (.cells #[.int .u64 h, .int .u64 l] 234)
theorem Two.lt {b : Nat} {h l : Int} {w : World} (H : Two b h l w) : b < w.heap.size := by
  unfold Two at H
  exact (Array.getElem?_eq_some_iff.1 H).1
theorem Two.c0 {b : Nat} {h l : Int} {w : World} (H : Two b h l w) : w.cell? ⟨b, 0, none⟩ = some (.int .u64 h) := by
  unfold Two at H; simp [World.cell?, H]
theorem Two.c1 {b : Nat} {h l : Int} {w : World} (H : Two b h l w) : w.cell? ⟨b, 1, none⟩ = some (.int .u64 l) := by
  unfold Two at H; simp [World.cell?, H]
theorem Two.z0 {b : Nat} {h l : Int} {w : World} (H : Two b h l w) : w.frozen? ⟨b, 0, none⟩ = false := by
  unfold Two at H; simp [World.frozen?, H]
theorem Two.z1 {b : Nat} {h l : Int} {w : World} (H : Two b h l w) : w.frozen? ⟨b, 1, none⟩ = false := by
  unfold Two at H; simp [World.frozen?, H]
/-- Two stores into the block's cells, in whatever order. -/
theorem heap_set {b : Nat} {c : Array Value} {w : World} (o : Nat) (v : Value) (H : w.heap[b]? = some (.cells c 234)) : (w.setCell ⟨b, o, none⟩ v).heap[b]? = some (.cells (c.setIfInBounds o v) 234) := by
  simp only [World.setCell, Array.getElem?_modify, H]
  simp
theorem Turn.refl (b : Nat) (w : World) : Turn b w w := ⟨rfl, rfl, rfl, Nat.le_refl _, fun _ _ _ => rfl⟩
theorem Turn.trans {b : Nat} {u v w : World} (h : Turn b u v) (k : Turn b v w) : Turn b u w :=
  ⟨k.os.trans h.os, k.tape.trans h.tape, k.output.trans h.output, Nat.le_trans h.size k.size, fun i hi hn => (k.block i (Nat.lt_of_lt_of_le hi h.size) hn).trans (h.block i hi hn)⟩
theorem Turn.drew {b : Nat} {u w : World} (h : Turn b u w) : Turn b u w.drew := ⟨h.os, h.tape, h.output, h.size, h.block⟩
theorem Turn.set {b : Nat} {u w : World} (h : Turn b u w) (o : Nat) (v : Value) : Turn b u (w.setCell ⟨b, o, none⟩ v) :=
  h.trans ⟨rfl, rfl, rfl, by simp [World.setCell], fun k _ hn => Below.heap_setCell _ _ _ _ hn⟩
theorem Turn.alloc {b : Nat} {u w : World} (h : Turn b u w) (o : Obj) : Turn b u (w.alloc o) :=
  h.trans ⟨rfl, rfl, rfl, by simp, fun k hk _ => Below.heap_alloc _ _ _ hk⟩
theorem Two.alloc {b : Nat} {h l : Int} {w : World} (H : Two b h l w) (o : Obj) : Two b h l (w.alloc o) := by
  have := H.lt
  unfold Two at *
  rw [Below.heap_alloc _ _ _ this]; exact H
/-- A block that a later call leaves alone. -/
theorem Two.kept {b q : Nat} {h l : Int} {w w' : World} (H : Two b h l w) (t : Turn q w w') (hn : b ≠ q) : Two b h l w' := by
  have := H.lt
  unfold Two at *
  rw [t.block b this hn]; exact H
theorem Two.below {b B : Nat} {h l : Int} {w w' : World} (H : Two b h l w) (t : Below B w w') (hn : b < B) : Two b h l w' := by
  unfold Two at *
  rw [t.block b hn]; exact H
theorem Turn.below {b B : Nat} {w w' : World} (t : Turn b w w') (h : B ≤ b) (hB : B ≤ w.heap.size) : Below B w w' :=
  ⟨t.os, t.tape, t.output, t.size, fun k hk => t.block k (by omega) (by omega)⟩
theorem xor_max (h : Int) (h1 : 0 ≤ h) (h2 : h < 18446744073709551616) : bits BinOp.xor IntKind.u64 (if IntKind.u64.signed = true then -1 else IntKind.u64.max) h = 18446744073709551615 - h := by
  obtain ⟨n, rfl⟩ := Int.eq_ofNat_of_zero_le h1
  have hn : n < 18446744073709551616 := by omega
  have e : (if IntKind.u64.signed = true then -1 else IntKind.u64.max) = ((18446744073709551615 : Nat) : Int) := by decide
  rw [e, bits_xor_u64_nat _ _ (by omega) hn]
  have k := BitVec.allOnes_xor (x := BitVec.ofNat 64 n)
  have k2 := congrArg BitVec.toNat k
  simp only [BitVec.toNat_xor, BitVec.toNat_allOnes, BitVec.toNat_not, BitVec.toNat_ofNat] at k2
  rw [Nat.mod_eq_of_lt (by omega)] at k2
  have k3 : 18446744073709551615 ^^^ n = 18446744073709551615 - n := by
    rw [show (18446744073709551615 : Nat) = 2 ^ 64 - 1 from rfl, k2]
  rw [k3]
  omega
theorem size_neg (a : Int) (w : World) (h : a < 0) (h1 : -9223372036854775808 ≤ a) :
    Calls Tryz.prog 180 #[.int .i64 a] w fun e w' => e = .returned (.int .u64 (-a)) ∧ w = w' := by
  go_enter Tryz.func180, Tryz.ntmps180
  go_wp2
  go_ret
  refine ⟨?_, rfl⟩
  show Ending.returned (.int .u64 _) = _
  rw [show IntKind.u64.wrap (-IntKind.u64.wrap a) = -a from by rw [IntKind.wrap_u64, IntKind.wrap_u64]; omega]
theorem size_pos (a : Int) (w : World) (h : 0 ≤ a) (h1 : a ≤ 9223372036854775807) :
    Calls Tryz.prog 180 #[.int .i64 a] w fun e w' => e = .returned (.int .u64 a) ∧ w = w' := by
  go_enter Tryz.func180, Tryz.ntmps180
  go_wp2
  go_ret
  refine ⟨?_, rfl⟩
  show Ending.returned (.int .u64 _) = _
  first
    | rfl
    | rw [show IntKind.u64.wrap a = a from by rw [IntKind.wrap_u64]; omega]
/-- size: the number without its sign. -/
theorem size_any (a : Int) (w : World) (h0 : -9223372036854775808 ≤ a) (h1 : a ≤ 9223372036854775807) :
    Calls Tryz.prog 180 #[.int .i64 a] w fun e w' => e = .returned (.int .u64 (a.natAbs : Int)) ∧ w = w' := by
  by_cases h : a < 0
  · rw [show (a.natAbs : Int) = -a from by omega]; exact size_neg a w h h0
  · rw [show (a.natAbs : Int) = a from by omega]; exact size_pos a w (by omega) h1
/-- widen: the two words of a plain number. -/
theorem widen_any (a : Int) (w : World) (h0 : -9223372036854775808 ≤ a) (h1 : a ≤ 9223372036854775807) :
    Calls Tryz.prog 211 #[.int .i64 a] w fun e w' => e = .returned (.agg #[.int .u64 (a / 18446744073709551616 % 18446744073709551616), .int .u64 (a % 18446744073709551616)]) ∧ w' = w.alloc (.cells #[.int .u64 (a / 18446744073709551616 % 18446744073709551616), .int .u64 (a % 18446744073709551616)] 234) := by
  have e1 : IntKind.u64.wrap (a / 9223372036854775808) = a / 18446744073709551616 % 18446744073709551616 := by rw [IntKind.wrap_u64]; omega
  have e2 : IntKind.u64.wrap a = a % 18446744073709551616 := by rw [IntKind.wrap_u64]
  go_enter Tryz.func211, Tryz.ntmps211
  go_wp2
  exact bodyPost_ret (v := .agg #[.int .u64 (a / 18446744073709551616 % 18446744073709551616), .int .u64 (a % 18446744073709551616)]) (by simp [results, Tryz.results211, go_sem]) rfl ⟨rfl, rfl⟩
theorem invert_any (b : Nat) (h l : Int) (w : World) (hh : Word h) (hl : Word l) (H : Two b h l w) :
    Calls Tryz.prog 208 #[.pointer (some ⟨b, 0, none⟩)] w fun e w' => e = .returned (.tuple #[]) ∧ Turn b w w' ∧ Two b (18446744073709551615 - h) (18446744073709551615 - l) w' := by
  obtain ⟨h1, h2⟩ := hh; obtain ⟨l1, l2⟩ := hl
  have c0 := H.c0; have c1 := H.c1; have z0 := H.z0; have z1 := H.z1
  have x0 := xor_max h h1 h2; have x1 := xor_max l l1 l2
  go_enter Tryz.func208, Tryz.ntmps208
  go_wp2
  go_region
  all_goals
    go_end0
    refine ⟨rfl, ?_, ?_⟩
    · exact (((Turn.refl b w).set 0 _).set 1 _).drew
    · exact heap_set 1 _ (heap_set 0 _ H)
theorem add_any (b : Nat) (h l h' l' : Int) (w : World) (hh : Word h) (hl : Word l) (hh' : Word h') (hl' : Word l') (H : Two b h l w) :
    Calls Tryz.prog 209 #[.pointer (some ⟨b, 0, none⟩), .agg #[.int .u64 h', .int .u64 l']] w fun e w' => e = .returned (.tuple #[]) ∧ Turn b w w' ∧ Two b ((h + h' + (l + l') / 18446744073709551616) % 18446744073709551616) ((l + l') % 18446744073709551616) w' := by
  obtain ⟨h1, h2⟩ := hh; obtain ⟨l1, l2⟩ := hl; obtain ⟨h3, h4⟩ := hh'; obtain ⟨l3, l4⟩ := hl'
  have c0 := H.c0; have c1 := H.c1; have z0 := H.z0; have z1 := H.z1; have hb := H.lt
  have ea := World.new_ne w ⟨b, 0, none⟩ c0
  have k0 : 0 ≤ (l + l') / 18446744073709551616 := by omega
  have k1 : (l + l') / 18446744073709551616 ≤ 1 := by omega
  have a0 := add64_0 l l' l1 l3
  have a1 := add64 h h' _ h1 h3 k0 k1
  go_enter Tryz.func209, Tryz.ntmps209
  go_wp2
  go_region
  go_wp2
  go_region
  go_end0
  refine ⟨rfl, ?_, ?_⟩
  · exact ((((Turn.refl b w).set 1 _).set 0 _).alloc _).drew.drew
  · exact Two.alloc (w := (w.setCell ⟨b, 1, none⟩ _).setCell ⟨b, 0, none⟩ _) (heap_set 0 _ (heap_set 1 _ H)) _
end Go.Proofs.YtbjabclgekkpaaaGreatDoor
