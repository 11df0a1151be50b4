/-
  Segments, as plain mathematics: what commands come to, by a state that goes from command to command, and by the document's words; they are one. No memory, no program.
-/
import Derived.Test.YtgiibcnakiggaaaDoorJMath
namespace Go.Proofs.YtgiibcnakiggaaaDoor

/-- A segment: its kind, To, C1, C2, radii, turn, flags. -/
structure Seg where
  kind : Int
  tx : Int
  ty : Int
  ax : Int
  ay : Int
  cx : Int
  cy : Int
  rx : Int
  ry : Int
  turn : Int
  lg : Bool
  sw : Bool
def zeroS : Seg := ⟨0, 0, 0, 0, 0, 0, 0, 0, 0, 0, false, false⟩
def segS (k x y a b c d : Int) : Seg := ⟨k, x, y, a, b, c, d, 0, 0, 0, false, false⟩
/-- What the commands ahead have come to. -/
structure NS where
  out : List Seg
  px : Int
  py : Int
  qx : Int
  qy : Int
  op : Bool
  ox : Int
  oy : Int
def NS.zero : NS := ⟨[], 0, 0, 0, 0, false, 0, 0⟩
def begM (s : NS) (x y : Int) : NS := ⟨s.out ++ [segS 1 x y 0 0 0 0], x, y, x, y, true, s.ox, s.oy⟩
def openM (s : NS) : NS := if s.op = true then s else begM s s.px s.py
def addM (s : NS) (g : Seg) : NS := ⟨(openM s).out ++ [g], g.tx, g.ty, (openM s).qx, (openM s).qy, (openM s).op, s.ox, s.oy⟩
def lastM (s : NS) : Seg := s.out.getLastD zeroS
def mirM (s : NS) (k : Int) : Int × Int :=
  if (lastM s).kind = k then (if k = 3 then (2 * s.px - (lastM s).cx, 2 * s.py - (lastM s).cy) else (2 * s.px - (lastM s).ax, 2 * s.py - (lastM s).ay)) else (s.px, s.py)
/-- A letter as a capital. -/
def capL (c : Nat) : Nat := if 97 ≤ c ∧ c ≤ 122 then c - 32 else c
def nA (a : List Int) (i : Nat) : Int := a.getD i 0
def stepM (L : Nat) (s : NS) (a : List Int) : NS :=
  if L = 77 then begM s (s.ox + nA a 0) (s.oy + nA a 1)
  else if L = 76 then addM s (segS 2 (s.ox + nA a 0) (s.oy + nA a 1) 0 0 0 0)
  else if L = 72 then addM s (segS 2 (s.ox + nA a 0) s.py 0 0 0 0)
  else if L = 86 then addM s (segS 2 s.px (s.oy + nA a 0) 0 0 0 0)
  else if L = 67 then addM s (segS 3 (s.ox + nA a 4) (s.oy + nA a 5) (s.ox + nA a 0) (s.oy + nA a 1) (s.ox + nA a 2) (s.oy + nA a 3))
  else if L = 83 then addM s (segS 3 (s.ox + nA a 2) (s.oy + nA a 3) (mirM s 3).1 (mirM s 3).2 (s.ox + nA a 0) (s.oy + nA a 1))
  else if L = 81 then addM s (segS 4 (s.ox + nA a 2) (s.oy + nA a 3) (s.ox + nA a 0) (s.oy + nA a 1) 0 0)
  else if L = 84 then addM s (segS 4 (s.ox + nA a 0) (s.oy + nA a 1) (mirM s 4).1 (mirM s 4).2 0 0)
  else if L = 65 then addM s ⟨5, s.ox + nA a 5, s.oy + nA a 6, 0, 0, 0, 0, nA a 0, nA a 1, nA a 2, nA a 3 == 1, nA a 4 == 1⟩
  else ⟨(addM s (segS 6 s.qx s.qy 0 0 0 0)).out, s.qx, s.qy, (openM s).qx, (openM s).qy, false, s.ox, s.oy⟩
def orgM (s : NS) (c : Nat) : NS := ⟨s.out, s.px, s.py, s.qx, s.qy, s.op, if 97 ≤ c then s.px else 0, if 97 ≤ c then s.py else 0⟩
def takeM (s : NS) (c : Cmd) : NS := stepM (capL c.letter) (orgM s c.letter) c.args
def In32 (z : Int) : Prop := -4294967296 < z ∧ z < 4294967296
instance (z : Int) : Decidable (In32 z) := by unfold In32; infer_instance
def inB (g : Seg) : Prop := In32 g.tx ∧ In32 g.ty ∧ In32 g.ax ∧ In32 g.ay ∧ In32 g.cx ∧ In32 g.cy ∧ In32 g.rx ∧ In32 g.ry ∧ In32 g.turn
instance (g : Seg) : Decidable (inB g) := by unfold inB; infer_instance
/-- The segments of commands, till one goes too far, and the place of that one, or -1. -/
def bringL (s : NS) : List Cmd → Nat → List Seg × Int
  | [], _ => (s.out, -1)
  | c :: t, i => if inB (lastM (takeM s c)) then bringL (takeM s c) t (i + 1) else (s.out, (i : Int))

/-- The document's words. -/
def begL (l : List Seg) : Int × Int := l.foldl (fun b g => if g.kind = 1 then (g.tx, g.ty) else b) (0, 0)
def pairL (f : Int × Int) (a : List Int) (k : Nat) : Int × Int := (f.1 + nA a k, f.2 + nA a (k + 1))
def mirL (p c : Int × Int) : Int × Int := (2 * p.1 - c.1, 2 * p.2 - c.2)
def fromL (c : Cmd) (p : Int × Int) : Int × Int := if 97 ≤ c.letter then p else (0, 0)
def oneS (c : Cmd) (p : Int × Int) (l : List Seg) (was : Nat) : Seg :=
  let f := fromL c p
  let n := c.args
  let last := l.getLastD zeroS
  if capL c.letter = 77 then segS 1 (pairL f n 0).1 (pairL f n 0).2 0 0 0 0
  else if capL c.letter = 76 then segS 2 (pairL f n 0).1 (pairL f n 0).2 0 0 0 0
  else if capL c.letter = 72 then segS 2 (f.1 + nA n 0) p.2 0 0 0 0
  else if capL c.letter = 86 then segS 2 p.1 (f.2 + nA n 0) 0 0 0 0
  else if capL c.letter = 67 then segS 3 (pairL f n 4).1 (pairL f n 4).2 (pairL f n 0).1 (pairL f n 0).2 (pairL f n 2).1 (pairL f n 2).2
  else if capL c.letter = 83 then
    (if was = 67 ∨ was = 83 then segS 3 (pairL f n 2).1 (pairL f n 2).2 (mirL p (last.cx, last.cy)).1 (mirL p (last.cx, last.cy)).2 (pairL f n 0).1 (pairL f n 0).2
     else segS 3 (pairL f n 2).1 (pairL f n 2).2 p.1 p.2 (pairL f n 0).1 (pairL f n 0).2)
  else if capL c.letter = 81 then segS 4 (pairL f n 2).1 (pairL f n 2).2 (pairL f n 0).1 (pairL f n 0).2 0 0
  else if capL c.letter = 84 then
    (if was = 81 ∨ was = 84 then segS 4 (pairL f n 0).1 (pairL f n 0).2 (mirL p (last.ax, last.ay)).1 (mirL p (last.ax, last.ay)).2 0 0
     else segS 4 (pairL f n 0).1 (pairL f n 0).2 p.1 p.2 0 0)
  else if capL c.letter = 65 then ⟨5, (pairL f n 5).1, (pairL f n 5).2, 0, 0, 0, 0, nA n 0, nA n 1, nA n 2, nA n 3 == 1, nA n 4 == 1⟩
  else segS 6 (begL l).1 (begL l).2 0 0 0 0
def ptL7 (l : List Seg) : Int × Int := ((l.getLastD zeroS).tx, (l.getLastD zeroS).ty)
def shutL (l : List Seg) : Prop := l = [] ∨ (l.getLastD zeroS).kind = 6
instance (l : List Seg) : Decidable (shutL l) := by
  unfold shutL
  cases l with
  | nil => exact isTrue (Or.inl rfl)
  | cons x t => exact decidable_of_iff (((x :: t).getLastD zeroS).kind = 6) ⟨Or.inr, fun h => by rcases h with h | h; cases h; exact h⟩
def openL (l : List Seg) (c : Cmd) : List Seg := if shutL l ∧ capL c.letter ≠ 77 then l ++ [segS 1 (ptL7 l).1 (ptL7 l).2 0 0 0 0] else l
def inR (g : Seg) : Prop := (In32 g.tx ∧ In32 g.ty) ∧ (In32 g.ax ∧ In32 g.ay) ∧ (In32 g.cx ∧ In32 g.cy)
instance (g : Seg) : Decidable (inR g) := by unfold inR; infer_instance
def walkR (l : List Seg) (was : Nat) : List Cmd → Nat → List Seg × Int
  | [], _ => (l, -1)
  | c :: t, i => if inR (oneS c (ptL7 l) (openL l c) was) then walkR (openL l c ++ [oneS c (ptL7 l) (openL l c) was]) (capL c.letter) t (i + 1) else (l, (i : Int))

/-- A command that can be brought: as many numbers as its letter asks, none too great. -/
def CmdW (x : Cmd) : Prop := cntL x.letter = x.args.length ∧ cntL x.letter ≠ 99 ∧ ∀ v ∈ x.args, In32 v
theorem CmdW.at {x : Cmd} (h : CmdW x) (i : Nat) : In32 (nA x.args i) := by
  unfold nA
  by_cases hi : i < x.args.length
  · rw [List.getD_eq_getElem?_getD, List.getElem?_eq_getElem hi]; exact h.2.2 _ (List.getElem_mem hi)
  · rw [List.getD_eq_getElem?_getD, List.getElem?_eq_none (by omega)]; exact ⟨by decide, by decide⟩
/-- The ten capitals. -/
theorem cap_ten {c : Nat} (h : cntL c ≠ 99) : (capL c = 77 ∨ capL c = 76 ∨ capL c = 72 ∨ capL c = 86 ∨ capL c = 67 ∨ capL c = 83 ∨ capL c = 81 ∨ capL c = 84 ∨ capL c = 65 ∨ capL c = 90) ∧ cntL (capL c) = cntL c := by
  have hlt : c < 256 := by unfold cntL at h; repeat (first | (split at h; omega) | omega)
  have : ∀ c : Fin 256, cntL c.val ≠ 99 → (capL c = 77 ∨ capL c = 76 ∨ capL c = 72 ∨ capL c = 86 ∨ capL c = 67 ∨ capL c = 83 ∨ capL c = 81 ∨ capL c = 84 ∨ capL c = 65 ∨ capL c = 90) ∧ cntL (capL c) = cntL c := by decide +kernel
  exact this ⟨c, hlt⟩ h
theorem last_snoc (l : List Seg) (g : Seg) : (l ++ [g]).getLastD zeroS = g := by simp
theorem begL_snoc (l : List Seg) (g : Seg) : begL (l ++ [g]) = if g.kind = 1 then (g.tx, g.ty) else begL l := by
  unfold begL; rw [List.foldl_append]; rfl
/-- The state is what the segments tell. -/
structure Rel7 (s : NS) (l : List Seg) (was : Nat) : Prop where
  out : s.out = l
  pt : (s.px, s.py) = ptL7 l
  bg : (s.qx, s.qy) = begL l
  op : s.op = true ↔ ¬ shutL l
  cubic : (l.getLastD zeroS).kind = 3 ↔ (was = 67 ∨ was = 83)
  quad : (l.getLastD zeroS).kind = 4 ↔ (was = 81 ∨ was = 84)
  shut : (l ≠ [] ∧ (l.getLastD zeroS).kind = 6) → begL l = ptL7 l
theorem rel_zero : Rel7 NS.zero [] 0 := ⟨rfl, rfl, rfl, ⟨(fun h => by cases h), fun h => absurd (Or.inl rfl) h⟩, by decide, by decide, fun h => absurd rfl h.1⟩
theorem Rel7.org {s : NS} {l : List Seg} {was : Nat} (R : Rel7 s l was) (c : Nat) : Rel7 (orgM s c) l was := ⟨R.out, R.pt, R.bg, R.op, R.cubic, R.quad, R.shut⟩
/-- The Move that comes ahead where no subpath is open. -/
theorem rel_open {s : NS} {l : List Seg} {was : Nat} (R : Rel7 s l was) (c : Cmd) (hc : capL c.letter ≠ 77) :
    (openM s).out = openL l c ∧ ((openM s).qx, (openM s).qy) = begL (openL l c) ∧ (openM s).op = true ∧ begL (openL l c) = (s.qx, s.qy) := by
  have e1 : s.px = (ptL7 l).1 := congrArg Prod.fst R.pt
  have e2 : s.py = (ptL7 l).2 := congrArg Prod.snd R.pt
  unfold openM openL
  by_cases h : s.op = true
  · have hn := R.op.1 h
    rw [if_pos h, if_neg (fun k => hn k.1)]
    exact ⟨R.out, R.bg, h, R.bg.symm⟩
  · have hs : shutL l := Decidable.byContradiction fun k => h (R.op.2 k)
    rw [if_neg h, if_pos ⟨hs, hc⟩, begL_snoc, if_pos (show (segS 1 (ptL7 l).1 (ptL7 l).2 0 0 0 0).kind = 1 from rfl)]
    have hq : (s.qx, s.qy) = ptL7 l := by
      rw [R.bg]
      by_cases hl : l = []
      · subst hl; rfl
      · rcases hs with k | hk
        · exact absurd k hl
        · exact R.shut ⟨hl, hk⟩
    refine ⟨?_, ?_, rfl, hq.symm⟩
    · show s.out ++ _ = _
      rw [R.out, ← e1, ← e2]
    · exact R.pt
theorem shut_snoc (l : List Seg) (g : Seg) : shutL (l ++ [g]) ↔ g.kind = 6 := by
  unfold shutL; rw [last_snoc]; simp
theorem pt_snoc (l : List Seg) (g : Seg) : ptL7 (l ++ [g]) = (g.tx, g.ty) := by unfold ptL7; rw [last_snoc]
/-- A segment is added. -/
theorem rel_add {s : NS} {l : List Seg} {was : Nat} (R : Rel7 s l was) (c : Cmd) (hc : capL c.letter ≠ 77) (g : Seg) (w' : Nat) (h1 : g.kind ≠ 1) (h6 : g.kind ≠ 6) (h3 : g.kind = 3 ↔ (w' = 67 ∨ w' = 83)) (h4 : g.kind = 4 ↔ (w' = 81 ∨ w' = 84)) :
    (addM s g).out = openL l c ++ [g] ∧ Rel7 (addM s g) (openL l c ++ [g]) w' := by
  obtain ⟨o1, o2, o3, _⟩ := rel_open R c hc
  have e : (addM s g).out = openL l c ++ [g] := by unfold addM; rw [o1]
  refine ⟨e, e, (pt_snoc _ _).symm, ?_, ?_, ?_, ?_, ?_⟩
  · rw [begL_snoc, if_neg h1]; exact o2
  · rw [shut_snoc]; exact ⟨fun _ => h6, fun _ => o3⟩
  · rw [last_snoc]; exact h3
  · rw [last_snoc]; exact h4
  · rw [last_snoc]; exact fun k => absurd k.2 h6
theorem last_of {s : NS} {l : List Seg} {g : Seg} (h : s.out = l ++ [g]) : lastM s = g := by unfold lastM; rw [h, last_snoc]
/-- The mirror's point: by the last segment's kind, or by the letter ahead. -/
theorem mir_rel {s : NS} {l : List Seg} {was : Nat} (R : Rel7 s l was) (c : Cmd) (hne : l ≠ []) :
    ((was = 67 ∨ was = 83) → mirM s 3 = mirL (ptL7 l) ((((openL l c).getLastD zeroS)).cx, (((openL l c).getLastD zeroS)).cy)) ∧ (¬ (was = 67 ∨ was = 83) → mirM s 3 = ptL7 l) ∧
    ((was = 81 ∨ was = 84) → mirM s 4 = mirL (ptL7 l) ((((openL l c).getLastD zeroS)).ax, (((openL l c).getLastD zeroS)).ay)) ∧ (¬ (was = 81 ∨ was = 84) → mirM s 4 = ptL7 l) := by
  have e1 : s.px = (ptL7 l).1 := congrArg Prod.fst R.pt
  have e2 : s.py = (ptL7 l).2 := congrArg Prod.snd R.pt
  have hl : lastM s = l.getLastD zeroS := by unfold lastM; rw [R.out]
  have ho : (l.getLastD zeroS).kind ≠ 6 → openL l c = l := fun h => by
    unfold openL; rw [if_neg]; rintro ⟨h1, _⟩; rcases h1 with h1 | h1; exact hne h1; exact h h1
  unfold mirM mirL
  rw [hl, e1, e2]
  refine ⟨fun h => ?_, fun h => ?_, fun h => ?_, fun h => ?_⟩
  · have k := R.cubic.2 h
    rw [if_pos k, if_pos rfl, ho (by omega)]
  · rw [if_neg (fun k => h (R.cubic.1 k))]
  · have k := R.quad.2 h
    rw [if_pos k, if_neg (by decide), ho (by omega)]
  · rw [if_neg (fun k => h (R.quad.1 k))]
def kindL (L : Nat) : Int := if L = 77 then 1 else if L = 76 ∨ L = 72 ∨ L = 86 then 2 else if L = 67 ∨ L = 83 then 3 else if L = 81 ∨ L = 84 then 4 else if L = 65 then 5 else 6
theorem kind_one (c : Cmd) (p : Int × Int) (l : List Seg) (was : Nat) (hc : cntL c.letter ≠ 99) : (oneS c p l was).kind = kindL (capL c.letter) := by
  obtain ⟨ten, _⟩ := cap_ten hc
  unfold oneS
  rcases ten with h | h | h | h | h | h | h | h | h | h <;> rw [h]
  case inr.inr.inr.inr.inr.inl => by_cases hw : was = 67 ∨ was = 83 <;> simp only [if_pos, if_neg, hw, not_false_eq_true] <;> rfl
  case inr.inr.inr.inr.inr.inr.inr.inl => by_cases hw : was = 81 ∨ was = 84 <;> simp only [if_pos, if_neg, hw, not_false_eq_true] <;> rfl
  all_goals rfl
/-- One command: the state's step is the document's segment. -/
theorem rel_step {s : NS} {l : List Seg} {was : Nat} (R0 : Rel7 s l was) (c : Cmd) (hc : CmdW c) (h0 : l = [] → capL c.letter = 77) :
    (takeM s c).out = openL l c ++ [oneS c (ptL7 l) (openL l c) was] ∧ Rel7 (takeM s c) (openL l c ++ [oneS c (ptL7 l) (openL l c) was]) (capL c.letter) := by
  have R := R0.org c.letter
  have e1 : s.px = (ptL7 l).1 := congrArg Prod.fst R0.pt
  have e2 : s.py = (ptL7 l).2 := congrArg Prod.snd R0.pt
  have p1 : (orgM s c.letter).px = (ptL7 l).1 := e1
  have p2 : (orgM s c.letter).py = (ptL7 l).2 := e2
  have o1 : (orgM s c.letter).ox = (fromL c (ptL7 l)).1 := by
    unfold orgM fromL; by_cases h : 97 ≤ c.letter
    · simp only [if_pos h]; exact e1
    · simp only [if_neg h]
  have o2 : (orgM s c.letter).oy = (fromL c (ptL7 l)).2 := by
    unfold orgM fromL; by_cases h : 97 ≤ c.letter
    · simp only [if_pos h]; exact e2
    · simp only [if_neg h]
  obtain ⟨ten, _⟩ := cap_ten hc.2.1
  unfold takeM
  generalize hT : orgM s c.letter = T at *
  by_cases h77 : capL c.letter = 77
  · have eO : openL l c = l := by unfold openL; rw [if_neg (fun k => k.2 h77)]
    have eS : stepM (capL c.letter) T c.args = begM T (T.ox + nA c.args 0) (T.oy + nA c.args 1) := by unfold stepM; rw [if_pos h77]
    have eG : oneS c (ptL7 l) (openL l c) was = segS 1 (T.ox + nA c.args 0) (T.oy + nA c.args 1) 0 0 0 0 := by unfold oneS; rw [if_pos h77, o1, o2]; rfl
    rw [eS, eG, eO, h77]
    have e : (begM T (T.ox + nA c.args 0) (T.oy + nA c.args 1)).out = l ++ [segS 1 (T.ox + nA c.args 0) (T.oy + nA c.args 1) 0 0 0 0] := by unfold begM; rw [R.out]
    refine ⟨e, e, ?_, ?_, ?_, ?_, ?_, ?_⟩
    · rw [pt_snoc]; rfl
    · rw [begL_snoc]; rfl
    · rw [shut_snoc]; exact ⟨fun _ => (by show ¬ (1 : Int) = 6; decide), fun _ => rfl⟩
    · rw [last_snoc]; show (1 : Int) = 3 ↔ _; decide
    · rw [last_snoc]; show (1 : Int) = 4 ↔ _; decide
    · rw [last_snoc]; exact fun k => absurd k.2 (by show ¬ (1 : Int) = 6; decide)
  · have hne : l ≠ [] := fun e => h77 (h0 e)
    obtain ⟨m1, m2, m3, m4⟩ := mir_rel R c hne
    rcases ten with h | h | h | h | h | h | h | h | h | h
    · exact absurd h h77
    · have eS : stepM (capL c.letter) T c.args = addM T (oneS c (ptL7 l) (openL l c) was) := by unfold stepM oneS; rw [h, o1, o2]; rfl
      rw [eS, h]
      exact rel_add R c h77 _ _ (by rw [kind_one _ _ _ _ hc.2.1, h]; decide) (by rw [kind_one _ _ _ _ hc.2.1, h]; decide) (by rw [kind_one _ _ _ _ hc.2.1, h]; decide) (by rw [kind_one _ _ _ _ hc.2.1, h]; decide)
    · have eS : stepM (capL c.letter) T c.args = addM T (oneS c (ptL7 l) (openL l c) was) := by unfold stepM oneS; rw [h, o1, p2]; rfl
      rw [eS, h]
      exact rel_add R c h77 _ _ (by rw [kind_one _ _ _ _ hc.2.1, h]; decide) (by rw [kind_one _ _ _ _ hc.2.1, h]; decide) (by rw [kind_one _ _ _ _ hc.2.1, h]; decide) (by rw [kind_one _ _ _ _ hc.2.1, h]; decide)
    · have eS : stepM (capL c.letter) T c.args = addM T (oneS c (ptL7 l) (openL l c) was) := by unfold stepM oneS; rw [h, o2, p1]; rfl
      rw [eS, h]
      exact rel_add R c h77 _ _ (by rw [kind_one _ _ _ _ hc.2.1, h]; decide) (by rw [kind_one _ _ _ _ hc.2.1, h]; decide) (by rw [kind_one _ _ _ _ hc.2.1, h]; decide) (by rw [kind_one _ _ _ _ hc.2.1, h]; decide)
    · have eS : stepM (capL c.letter) T c.args = addM T (oneS c (ptL7 l) (openL l c) was) := by unfold stepM oneS; rw [h, o1, o2]; rfl
      rw [eS, h]
      exact rel_add R c h77 _ _ (by rw [kind_one _ _ _ _ hc.2.1, h]; decide) (by rw [kind_one _ _ _ _ hc.2.1, h]; decide) (by rw [kind_one _ _ _ _ hc.2.1, h]; decide) (by rw [kind_one _ _ _ _ hc.2.1, h]; decide)
    · by_cases hw : was = 67 ∨ was = 83
      · have eS : stepM (capL c.letter) T c.args = addM T (oneS c (ptL7 l) (openL l c) was) := by unfold stepM oneS; rw [h, o1, o2, m1 hw]; simp only [if_pos hw]; rfl
        rw [eS, h]
        exact rel_add R c h77 _ _ (by rw [kind_one _ _ _ _ hc.2.1, h]; decide) (by rw [kind_one _ _ _ _ hc.2.1, h]; decide) (by rw [kind_one _ _ _ _ hc.2.1, h]; decide) (by rw [kind_one _ _ _ _ hc.2.1, h]; decide)
      · have eS : stepM (capL c.letter) T c.args = addM T (oneS c (ptL7 l) (openL l c) was) := by unfold stepM oneS; rw [h, o1, o2, m2 hw]; simp only [if_neg hw]; rfl
        rw [eS, h]
        exact rel_add R c h77 _ _ (by rw [kind_one _ _ _ _ hc.2.1, h]; decide) (by rw [kind_one _ _ _ _ hc.2.1, h]; decide) (by rw [kind_one _ _ _ _ hc.2.1, h]; decide) (by rw [kind_one _ _ _ _ hc.2.1, h]; decide)
    · have eS : stepM (capL c.letter) T c.args = addM T (oneS c (ptL7 l) (openL l c) was) := by unfold stepM oneS; rw [h, o1, o2]; rfl
      rw [eS, h]
      exact rel_add R c h77 _ _ (by rw [kind_one _ _ _ _ hc.2.1, h]; decide) (by rw [kind_one _ _ _ _ hc.2.1, h]; decide) (by rw [kind_one _ _ _ _ hc.2.1, h]; decide) (by rw [kind_one _ _ _ _ hc.2.1, h]; decide)
    · by_cases hw : was = 81 ∨ was = 84
      · have eS : stepM (capL c.letter) T c.args = addM T (oneS c (ptL7 l) (openL l c) was) := by unfold stepM oneS; rw [h, o1, o2, m3 hw]; simp only [if_pos hw]; rfl
        rw [eS, h]
        exact rel_add R c h77 _ _ (by rw [kind_one _ _ _ _ hc.2.1, h]; decide) (by rw [kind_one _ _ _ _ hc.2.1, h]; decide) (by rw [kind_one _ _ _ _ hc.2.1, h]; decide) (by rw [kind_one _ _ _ _ hc.2.1, h]; decide)
      · have eS : stepM (capL c.letter) T c.args = addM T (oneS c (ptL7 l) (openL l c) was) := by unfold stepM oneS; rw [h, o1, o2, m4 hw]; simp only [if_neg hw]; rfl
        rw [eS, h]
        exact rel_add R c h77 _ _ (by rw [kind_one _ _ _ _ hc.2.1, h]; decide) (by rw [kind_one _ _ _ _ hc.2.1, h]; decide) (by rw [kind_one _ _ _ _ hc.2.1, h]; decide) (by rw [kind_one _ _ _ _ hc.2.1, h]; decide)
    · have eS : stepM (capL c.letter) T c.args = addM T (oneS c (ptL7 l) (openL l c) was) := by unfold stepM oneS; rw [h, o1, o2]; rfl
      rw [eS, h]
      exact rel_add R c h77 _ _ (by rw [kind_one _ _ _ _ hc.2.1, h]; decide) (by rw [kind_one _ _ _ _ hc.2.1, h]; decide) (by rw [kind_one _ _ _ _ hc.2.1, h]; decide) (by rw [kind_one _ _ _ _ hc.2.1, h]; decide)
    · obtain ⟨b1, b2, b3, b4⟩ := rel_open R c h77
      have eG : oneS c (ptL7 l) (openL l c) was = segS 6 T.qx T.qy 0 0 0 0 := by unfold oneS; rw [h, b4]; rfl
      have e : (stepM (capL c.letter) T c.args).out = openL l c ++ [segS 6 T.qx T.qy 0 0 0 0] := by unfold stepM; rw [h]; show (openM T).out ++ _ = _; rw [b1]
      rw [eG]
      refine ⟨e, e, ?_, ?_, ?_, ?_, ?_, ?_⟩
      · rw [pt_snoc, h]; rfl
      · rw [begL_snoc, if_neg (show ¬ (segS 6 T.qx T.qy 0 0 0 0).kind = 1 by show ¬ (6 : Int) = 1; decide), h, ← b2]; rfl
      · rw [shut_snoc, h]; exact ⟨(fun k => by cases k), fun k => absurd rfl k⟩
      · rw [last_snoc, h]; show (6 : Int) = 3 ↔ _; decide
      · rw [last_snoc, h]; show (6 : Int) = 4 ↔ _; decide
      · intro _
        rw [begL_snoc, if_neg (show ¬ (segS 6 T.qx T.qy 0 0 0 0).kind = 1 by show ¬ (6 : Int) = 1; decide), pt_snoc, b4]; rfl
theorem in_zero : In32 0 := ⟨by decide, by decide⟩
/-- Of a command whose numbers are within the bound, the points decide. -/
theorem one_in (c : Cmd) (hc : CmdW c) (p : Int × Int) (l : List Seg) (was : Nat) : inB (oneS c p l was) ↔ inR (oneS c p l was) := by
  have A := hc.at
  have z := in_zero
  have key : In32 (oneS c p l was).rx ∧ In32 (oneS c p l was).ry ∧ In32 (oneS c p l was).turn := by
    unfold oneS
    obtain ⟨ten, _⟩ := cap_ten hc.2.1
    rcases ten with h | h | h | h | h | h | h | h | h | h <;> rw [h]
    case inr.inr.inr.inr.inr.inl => by_cases hw : was = 67 ∨ was = 83 <;> simp only [if_pos, if_neg, hw, not_false_eq_true] <;> exact ⟨z, z, z⟩
    case inr.inr.inr.inr.inr.inr.inr.inl => by_cases hw : was = 81 ∨ was = 84 <;> simp only [if_pos, if_neg, hw, not_false_eq_true] <;> exact ⟨z, z, z⟩
    case inr.inr.inr.inr.inr.inr.inr.inr.inl => exact ⟨A 0, A 1, A 2⟩
    all_goals exact ⟨z, z, z⟩
  unfold inB inR
  generalize oneS c p l was = g at *
  constructor
  · rintro ⟨a, b, c, d, e, f, _⟩; exact ⟨⟨a, b⟩, ⟨c, d⟩, e, f⟩
  · rintro ⟨⟨a, b⟩, ⟨c, d⟩, e, f⟩; exact ⟨a, b, c, d, e, f, key⟩
/-- Both ways come to the same. -/
theorem bring_walk : ∀ (t : List Cmd) (s : NS) (l : List Seg) (was i : Nat), Rel7 s l was → (∀ x ∈ t, CmdW x) → (l = [] → ∀ x r, t = x :: r → capL x.letter = 77) → bringL s t i = walkR l was t i := by
  intro t
  induction t with
  | nil => intro s l was i R _ _; unfold bringL walkR; rw [R.out]
  | cons c t ih =>
    intro s l was i R hc h0
    obtain ⟨e, R'⟩ := rel_step R c (hc c (List.mem_cons_self ..)) (fun hl => h0 hl c t rfl)
    have e2 := last_of e
    unfold bringL walkR
    rw [e2]
    by_cases h : inR (oneS c (ptL7 l) (openL l c) was)
    · rw [if_pos h, if_pos ((one_in c (hc c (List.mem_cons_self ..)) _ _ _).2 h)]
      exact ih _ _ _ _ R' (fun x hx => hc x (List.mem_cons_of_mem _ hx)) (fun e => by simp at e)
    · rw [if_neg h, if_neg (fun k => h ((one_in c (hc c (List.mem_cons_self ..)) _ _ _).1 k)), R.out]
end Go.Proofs.YtgiibcnakiggaaaDoor
