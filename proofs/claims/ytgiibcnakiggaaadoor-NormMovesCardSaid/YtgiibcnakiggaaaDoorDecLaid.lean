/-
  What the rows list of the package variables, read off memory: the table of states; and a wrap that keeps both that and the world's shape.
-/
import Derived.Test.YtgiibcnakiggaaaDoorJDec
import Derived.Test.YtgiibcnakiggaaaDoorTie
import Derived.Test.YtgiibcnakiggaaaDoorCards
import Derived.ProofKit
import Derived.OpenShut
import Derived.LaidMore
import Derived.Lay
import Derived.SevenTiedAt
import Derived.Stop.Joined
import Derived.HandedShaped
import Derived.Shelf.Vars
namespace Go.Proofs.YtgiibcnakiggaaaDoor
open Go.ChangeShapes Go.WideShapes Go.ChangeAt Go.RowKit Go.Shelf

/-- A row of numbers. -/
theorem row_ints {H : Type} {enc : TypeId × Value → H} {P : Program} {w : World} {base : Nat} {sp : Nat → Bool} {held : Bool} {fuel : Nat} {t e : TypeId} {n : Nat} {k : IntKind} {cs : List Value} {zs : List Int} {p : List MemPlace}
    (ht : P.underlying t = some (.array n e)) (he : P.underlying e = some (.int k)) (hc : P.cellsOf e = 1) (h : DataW.trod enc P w base sp held fuel t cs = some (.agg (zs.map fun z => .lit (.int k z)), p)) :
    ∀ (i : Nat) (z : Int), zs[i]? = some z → cs[i]? = some (Value.int k z) := by
  obtain ⟨xs, m, _, ex, _, hl, hel⟩ := DataW.trod_array ht h
  intro i z hz
  have e3 : (xs.map (·.1)) = zs.map fun n => .lit (.int k n) := (DataW.agg.inj (Prod.mk.inj ex).1).symm
  have e4 : (xs.map (·.1))[i]? = (zs.map fun n => (DataW.lit (.int k n) : DataW H))[i]? := by rw [e3]
  rw [List.getElem?_map, List.getElem?_map, hz] at e4
  have hi : i < xs.length := by
    refine Nat.lt_of_not_le fun hn => ?_
    rw [List.getElem?_eq_none hn] at e4
    cases e4
  have hE := hel i (by omega)
  rw [hc, Nat.mul_one, List.getElem?_eq_getElem hi] at hE
  obtain ⟨y, e1, e2, _⟩ := DataW.trod_int he hE
  rw [List.getElem?_eq_getElem hi, e2] at e4
  have hy : y = z := by simpa using e4
  subst hy
  have h0 : ((cs.drop i).take 1)[0]? = some (Value.int k y) := by rw [e1]; rfl
  simpa using h0
/-- Rows of numbers. -/
theorem rows_ints {H : Type} {enc : TypeId × Value → H} {P : Program} {w : World} {base : Nat} {sp : Nat → Bool} {held : Bool} {fuel : Nat} {t e e' : TypeId} {n m : Nat} {k : IntKind} {cs : List Value} {zs : List (List Int)} {p : List MemPlace}
    (ht : P.underlying t = some (.array n e')) (ht' : P.underlying e' = some (.array m e)) (he : P.underlying e = some (.int k)) (hc : P.cellsOf e = 1) (hc' : P.cellsOf e' = m)
    (h : DataW.trod enc P w base sp held fuel t cs = some (.agg (zs.map fun r => .agg (r.map fun z => .lit (.int k z))), p)) :
    ∀ (i j : Nat) (r : List Int) (z : Int), zs[i]? = some r → r[j]? = some z → j < m → cs[i * m + j]? = some (Value.int k z) := by
  obtain ⟨xs, q, _, ex, _, hl, hel⟩ := DataW.trod_array ht h
  intro i j r z hr hz hj
  have e3 : (xs.map (·.1)) = zs.map fun r => .agg (r.map fun z => .lit (.int k z)) := (DataW.agg.inj (Prod.mk.inj ex).1).symm
  have e4 : (xs.map (·.1))[i]? = (zs.map fun r => (DataW.agg (r.map fun z => .lit (.int k z)) : DataW H))[i]? := by rw [e3]
  rw [List.getElem?_map, List.getElem?_map, hr] at e4
  have hi : i < xs.length := by
    refine Nat.lt_of_not_le fun hn => ?_
    rw [List.getElem?_eq_none hn] at e4
    cases e4
  have hE := hel i (by omega)
  rw [hc', List.getElem?_eq_getElem hi] at hE
  rw [List.getElem?_eq_getElem hi] at e4
  have e5 : xs[i] = (.agg (r.map fun z => .lit (.int k z)), xs[i].2) := by
    have : xs[i].1 = .agg (r.map fun z => .lit (.int k z)) := by simpa using e4
    rw [← this]
  rw [e5] at hE
  have := row_ints ht' he hc hE j z hz
  rw [List.getElem?_take, if_pos hj, List.getElem?_drop] at this
  exact this

def tabZ : List (List Int) := [[0, 0, 0, 0], [3, 2, 4, 0], [3, 0, 4, 0], [3, 0, 5, 6], [5, 0, 0, 0], [5, 0, 0, 6], [8, 7, 0, 0], [8, 0, 0, 0], [8, 0, 0, 0]]
theorem tab_follow : ∀ st k : Nat, st ≤ 8 → k ≤ 3 → ∃ r, tabZ[st]? = some r ∧ r[k]? = some (follow st k : Int) := by
  intro st k h1 h2
  have a : st = 0 ∨ st = 1 ∨ st = 2 ∨ st = 3 ∨ st = 4 ∨ st = 5 ∨ st = 6 ∨ st = 7 ∨ st = 8 := by omega
  have b : k = 0 ∨ k = 1 ∨ k = 2 ∨ k = 3 := by omega
  rcases a with rfl | rfl | rfl | rfl | rfl | rfl | rfl | rfl | rfl <;> rcases b with rfl | rfl | rfl | rfl <;> exact ⟨_, rfl, rfl⟩

/-- The listed variables. -/
def laid3 : List (String × DataW Unit) := [("unicode/utf8.acceptRanges", Rows.laid_unicode_utf8_acceptRanges), ("pointillist/dec.follows", Rows.laid_pointillist_dec_follows), ("unicode/utf8.first", Rows.laid_unicode_utf8_first)]

theorem follows_of {W : World} {t : TypeId} {cs : Array Value} {fuel : Nat} {sp : Nat → Bool} {base : Nat} {p : List MemPlace} {g : Nat} (hg : Tryd.prog.globalNamed "pointillist/dec.follows" = some g) (ht : (Tryd.prog.globals[g]?).map (·.type) = some t) (hv : W.var? Tryd.prog "pointillist/dec.follows" = some cs)
    (hd : DataW.trod (fun _ => ()) Tryd.prog W base sp false fuel t cs.toList = some (Rows.laid_pointillist_dec_follows, p)) : Follows W := by
  obtain rfl := Option.some.inj ((show Tryd.prog.globalNamed "pointillist/dec.follows" = some 3 by kernel_rfl).symm.trans hg)
  obtain rfl := Option.some.inj ((show (Tryd.prog.globals[3]?).map (·.type) = some 138 by kernel_rfl).symm.trans ht)
  have hr := rows_ints (zs := tabZ) (k := .i64) (m := 4) (e := 132) (e' := 137) (n := 9) (by kernel_rfl) (by kernel_rfl) (by kernel_rfl) (by kernel_rfl) (by kernel_rfl) hd
  intro st k h1 h2
  obtain ⟨r, e1, e2⟩ := tab_follow st k h1 h2
  rw [World.var?_cell hg hv (st * 4 + k)]
  have := hr st k r _ e1 e2 (by omega)
  simpa using this
theorem follows_laid3 {W : World} (h : laidMetH Tryd.prog laid3 W) : Follows W := by
  rw [MakeChecks.laidMetH_plain _ _ _ (by kernel_rfl)] at h
  obtain ⟨ps, ⟨_, _, _, _, _, _, _, _, _, _, ⟨g, t, cs, fuel, p, q, hg, ht, hv, hd, _, _⟩, _⟩, _, _⟩ := h
  exact follows_of hg ht hv hd

theorem someMax_of {W : World} (h : W.ShapedOpen Tryd.prog) : SomeMax W :=
  cell_of_shapedOpen_int (P := Tryd.prog) (g := 2) (t := 3) (zero := #[.int .i64 0]) (k := .i64) h (of_decide_eq_true (by kernel_rfl)) (by kernel_rfl) rfl (by kernel_rfl) (by kernel_rfl) (by kernel_rfl)
theorem size_of {W : World} (h : W.ShapedOpen Tryd.prog) : gN ≤ W.heap.size := by
  obtain ⟨⟨zero, t⟩, e⟩ := Option.isSome_iff_exists.1 (show (((begin Tryd.prog (fun _ _ => 0) default).world.heap[gN - 1]?).bind Obj.row?).isSome = true by kernel_rfl)
  obtain ⟨cs, hh, _, _⟩ := h.1 (gN - 1) zero t (of_decide_eq_true (by kernel_rfl)) e
  have := (Array.getElem?_eq_some_iff.1 hh).1
  omega
theorem tabs_of {W : World} (h : laidMetH Tryd.prog laid3 W) (hs : W.ShapedOpen Tryd.prog) : Tabs W := ⟨follows_laid3 h, someMax_of hs, size_of hs⟩

/-- The wrap, with what is laid and the world's shape. -/
theorem wrap_laid {H : Type} {enc : TypeId × Value → H} {a : Assume} {C : Checked} {os : Os} {f : FuncId} {fn : Func} {s : ChangeSpec} {conds : List PathCond} {apart fresh handsOn again : Bool} {X : World → Array Value → Prop}
    (hX : ∀ (w w' : World) (args : Array Value), w.heap = w'.heap → X w args → X w' args)
    (own : ownKnob C.prog.godebug = none) (started : os.Started) (noInit : C.prog.inits.idxOf? f = none) (hfn : C.prog.funcs[f]? = some fn)
    (witness : ∃ (w : World) (tape : Tape) (i : Input), w.os = os ∧ (w.forCall tape i).Shaped C.prog ∧ i.vars = [] ∧ Input.okWide C.prog (w.forCall tape i) .any w.heap.size f i ∧
      ((s.pre enc C.prog fn conds apart (w.forCall tape i).memory i.args ∧ X (w.forCall tape i).memory i.args) ∧ sizedMet enc C.prog fn (OpenSpec.ofChange s) apart (w.forCall tape i).memory i.args) ∧ a.holds C.prog (lone (Frame.enter C.prog f i.args .normal) [] (w.forCall tape i)))
    (contract : ∀ (W : World) (base : Nat) (args : Array Value) (ds gs : List (DataW H)) (before : List MemPlace),
      (∀ (j : Nat) t v, fn.params[j]? = some t → args[j]? = some v → Value.okWide C.prog W .any base t v) →
      DataW.Whole enc C.prog fn.params.toList s.vars apart W args.toList ds gs before →
      conds.all (PathCond.test C.prog ⟨fn.params.toList, ds, s.plain.varTypes C.prog, gs⟩) = true →
      (DataW.weightsEach C.prog (fn.params.toList ++ s.plain.varTypes C.prog) (ds ++ gs)).all (· ≤ reachBytes) = true → X W args →
      W.ShapedOpen C.prog →
      a.holds C.prog (lone (Frame.enter C.prog f args .normal) [] W) →
      Calls C.prog f args W fun e W' => ∃ v, e = .returned v ∧ s.post enc C.prog fn apart fresh handsOn again W args v W') :
    ReturnsInHanded a C os f .any (fun w args => (s.pre enc C.prog fn conds apart w args ∧ X w args) ∧ sizedMet enc C.prog fn (OpenSpec.ofChange s) apart w args) (s.post enc C.prog fn apart fresh handsOn again) := by
  refine returnsInHanded_of_calls own started noInit witness ?_
  intro w tape i _ hsh _ hok hpre hholds
  obtain ⟨_, _, _, fn', hfn', _, _, _, _, hval⟩ := hok
  have e : fn' = fn := Option.some.inj (hfn'.symm.trans hfn)
  subst e
  obtain ⟨⟨⟨ds, gs, before, hw, hc⟩, hx⟩, hz⟩ := hpre
  have hw' := DataW.Whole.of_heap (w' := w.forCall tape i) (by rfl) hw
  refine (contract (w.forCall tape i) w.heap.size i.args ds gs before hval hw' hc (hz.weights hw) (hX _ _ _ (by rfl) hx) hsh hholds).mono fun e W' ⟨v, he, hp⟩ => ?_
  subst he
  exact ChangeSpec.post_blind hp
end Go.Proofs.YtgiibcnakiggaaaDoor
