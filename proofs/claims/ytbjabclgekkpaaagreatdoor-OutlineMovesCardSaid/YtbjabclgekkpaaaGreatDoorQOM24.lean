/- Joined: TwoTrod, DecLaid, ScanLaid, PathLaid. -/
import Derived.Test.YtbjabclgekkpaaaGreatDoorCards
import Derived.Test.YtbjabclgekkpaaaGreatDoorQOM01
import Derived.Test.YtbjabclgekkpaaaGreatDoorQOM10
import Derived.Test.YtbjabclgekkpaaaGreatDoorQOM11
import Derived.Test.YtbjabclgekkpaaaGreatDoorQOM18
import Derived.Test.YtbjabclgekkpaaaGreatDoorTie
import Derived.ChangeSame
import Derived.HandedShaped
import Derived.LaidMore
import Derived.Lay
import Derived.OpenShut
import Derived.ProofKit
import Derived.SevenTiedAt
import Derived.Shelf.Vars
import Derived.Stop.Joined
namespace Go.Proofs.YtbjabclgekkpaaaGreatDoor
open Go.ChangeShapes Go.WideShapes Go.ChangeAt Go.RowKit
theorem trod_array2 {H : Type} {enc : TypeId × Value → H} {P : Program} {w : World} {base : Nat} {spare : Nat → Bool} {held : Bool} {t e : TypeId} {fuel : Nat} {c0 c1 : Value} {x : DataW H × List MemPlace} (ht : P.underlying t = some (.array 2 e)) (hce : P.cellsOf e = 1)
    (h : DataW.trod enc P w base spare held fuel t [c0, c1] = some x) :
    ∃ y0 y1 n, DataW.trod enc P w base spare held n e [c0] = some y0 ∧ DataW.trod enc P w base spare held n e [c1] = some y1 := by
  cases fuel with
  | zero => simp [DataW.trod] at h
  | succ n =>
    unfold DataW.trod at h
    rw [ht] at h
    have r2 : List.range 2 = [0, 1] := rfl
    simp [r2, hce] at h
    obtain ⟨_, h⟩ := h
    cases h0 : DataW.trod enc P w base spare held n e [c0] with
    | none => simp [h0] at h
    | some y0 =>
      cases h1 : DataW.trod enc P w base spare held n e [c1] with
      | none => simp [h0, h1] at h
      | some y1 => exact ⟨y0, y1, n, h0, h1⟩
theorem cells_two : Tryz.prog.cellsOf 49 = 2 := by kernel_rfl
theorem cells_i32 : Tryz.prog.cellsOf 21 = 1 := by kernel_rfl
theorem i32_wf {a : Int} (h : (Lit.int .i32 a).wf = true) : -2147483648 ≤ a ∧ a ≤ 2147483647 := by
  simpa [Lit.wf, IntKind.min, IntKind.max, IntKind.signed, IntKind.bits] using h
set_option maxRecDepth 100000 in
theorem two_of_trod {H : Type} {enc : TypeId × Value → H} {W : World} {base : Nat} {v : Value} {d : DataW H} {p : List MemPlace}
    (hok : Value.okWide Tryz.prog W .any base 49 v) (h : DataW.Trod enc Tryz.prog W 0 (fun _ => true) true 49 v d p) :
    ∃ a b : Int, v = .agg #[.int .i32 a, .int .i32 b] ∧ (-2147483648 ≤ a ∧ a ≤ 2147483647) ∧ (-2147483648 ≤ b ∧ b ≤ 2147483647) := by
  simp only [Value.okWide, Tryz.underlying49] at hok
  obtain ⟨cs, rfl, h2, _⟩ := hok
  rw [cells_two] at h2
  obtain ⟨l⟩ := cs
  match l, h2 with
  | [c0, c1], _ =>
    obtain ⟨fuel, hf⟩ := h
    have hf' : DataW.trod enc Tryz.prog W 0 (fun _ => true) true fuel 49 [c0, c1] = some (d, p) := by simpa [Value.cells] using hf
    obtain ⟨y0, y1, n, t0, t1⟩ := trod_array2 Tryz.underlying49 cells_i32 hf'
    obtain ⟨a, ea, _, wa⟩ := DataW.trod_int Tryz.underlying21 t0
    obtain ⟨b, eb, _, wb⟩ := DataW.trod_int Tryz.underlying21 t1
    simp at ea eb
    subst ea eb
    exact ⟨a, b, rfl, i32_wf wa, i32_wf wb⟩
end Go.Proofs.YtbjabclgekkpaaaGreatDoor
namespace Go.Proofs.YtbjabclgekkpaaaGreatDoor
open Go.ChangeShapes Go.WideShapes Go.ChangeAt Go.RowKit Go.Shelf
/-- A row of numbers. -/
theorem row_ints {H : Type} {enc : TypeId × Value → H} {P : Program} {w : World} {base : Nat} {sp : Nat → Bool} {held : Bool} {fuel : Nat} {t e : TypeId} {n : Nat} {k : IntKind} {cs : List Value} {zs : List Int} {p : List MemPlace}
    (ht : P.underlying t = some (.array n e)) (he : P.underlying e = some (.int k)) (hc : P.cellsOf e = 1) (h : DataW.trod enc P w base sp held fuel t cs = some (.agg (zs.map fun z => .lit (.int k z)), p)) :
    ∀ (i : Nat) (z : Int), zs[i]? = some z → cs[i]? = some (Value.int k z) := by
  obtain ⟨xs, m, _, ex, _, hl, hel⟩ := DataW.trod_array ht h
  intro i z hz
  have e3 : (xs.map (·.1)) = zs.map fun n => .lit (.int k n) := (DataW.agg.inj (Prod.mk.inj ex).1).symm
  have e4 : (xs.map (·.1))[i]? = (zs.map fun n => (DataW.lit (.int k n) : DataW H))[i]? := by rw [e3]
  rw [List.getElem?_map, List.getElem?_map, hz] at e4
  have hi : i < xs.length := by
    refine Nat.lt_of_not_le fun hn => ?_
    rw [List.getElem?_eq_none hn] at e4
    cases e4
  have hE := hel i (by omega)
  rw [hc, Nat.mul_one, List.getElem?_eq_getElem hi] at hE
  obtain ⟨y, e1, e2, _⟩ := DataW.trod_int he hE
  rw [List.getElem?_eq_getElem hi, e2] at e4
  have hy : y = z := by simpa using e4
  subst hy
  have h0 : ((cs.drop i).take 1)[0]? = some (Value.int k y) := by rw [e1]; rfl
  simpa using h0
/-- Rows of numbers. -/
theorem rows_ints {H : Type} {enc : TypeId × Value → H} {P : Program} {w : World} {base : Nat} {sp : Nat → Bool} {held : Bool} {fuel : Nat} {t e e' : TypeId} {n m : Nat} {k : IntKind} {cs : List Value} {zs : List (List Int)} {p : List MemPlace}
    (ht : P.underlying t = some (.array n e')) (ht' : P.underlying e' = some (.array m e)) (he : P.underlying e = some (.int k)) (hc : P.cellsOf e = 1) (hc' : P.cellsOf e' = m)
    (h : DataW.trod enc P w base sp held fuel t cs = some (.agg (zs.map fun r => .agg (r.map fun z => .lit (.int k z))), p)) :
    ∀ (i j : Nat) (r : List Int) (z : Int), zs[i]? = some r → r[j]? = some z → j < m → cs[i * m + j]? = some (Value.int k z) := by
  obtain ⟨xs, q, _, ex, _, hl, hel⟩ := DataW.trod_array ht h
  intro i j r z hr hz hj
  have e3 : (xs.map (·.1)) = zs.map fun r => .agg (r.map fun z => .lit (.int k z)) := (DataW.agg.inj (Prod.mk.inj ex).1).symm
  have e4 : (xs.map (·.1))[i]? = (zs.map fun r => (DataW.agg (r.map fun z => .lit (.int k z)) : DataW H))[i]? := by rw [e3]
  rw [List.getElem?_map, List.getElem?_map, hr] at e4
  have hi : i < xs.length := by
    refine Nat.lt_of_not_le fun hn => ?_
    rw [List.getElem?_eq_none hn] at e4
    cases e4
  have hE := hel i (by omega)
  rw [hc', List.getElem?_eq_getElem hi] at hE
  rw [List.getElem?_eq_getElem hi] at e4
  have e5 : xs[i] = (.agg (r.map fun z => .lit (.int k z)), xs[i].2) := by
    have : xs[i].1 = .agg (r.map fun z => .lit (.int k z)) := by simpa using e4
    rw [← this]
  rw [e5] at hE
  have := row_ints ht' he hc hE j z hz
  rw [List.getElem?_take, if_pos hj, List.getElem?_drop] at this
  exact this
def tabZ : List (List Int) := [[0, 0, 0, 0], [3, 2, 4, 0], [3, 0, 4, 0], [3, 0, 5, 6], [5, 0, 0, 0], [5, 0, 0, 6], [8, 7, 0, 0], [8, 0, 0, 0], [8, 0, 0, 0]]
theorem tab_follow : ∀ st k : Nat, st ≤ 8 → k ≤ 3 → ∃ r, tabZ[st]? = some r ∧ r[k]? = some (follow st k : Int) := by
  intro st k h1 h2
  have a : st = 0 ∨ st = 1 ∨ st = 2 ∨ st = 3 ∨ st = 4 ∨ st = 5 ∨ st = 6 ∨ st = 7 ∨ st = 8 := by omega
  have b : k = 0 ∨ k = 1 ∨ k = 2 ∨ k = 3 := by omega
  rcases a with rfl | rfl | rfl | rfl | rfl | rfl | rfl | rfl | rfl <;> rcases b with rfl | rfl | rfl | rfl <;> exact ⟨_, rfl, rfl⟩
theorem follows_of {W : World} {t : TypeId} {cs : Array Value} {fuel : Nat} {sp : Nat → Bool} {base : Nat} {p : List MemPlace} {g : Nat} (hg : Tryz.prog.globalNamed "pointillist/dec.follows" = some g) (ht : (Tryz.prog.globals[g]?).map (·.type) = some t) (hv : W.var? Tryz.prog "pointillist/dec.follows" = some cs)
    (hd : DataW.trod (fun _ => ()) Tryz.prog W base sp false fuel t cs.toList = some (Rows.laid_pointillist_dec_follows, p)) : Follows W := by
  obtain rfl := Option.some.inj ((show Tryz.prog.globalNamed "pointillist/dec.follows" = some 5 by kernel_rfl).symm.trans hg)
  obtain rfl := Option.some.inj ((show (Tryz.prog.globals[5]?).map (·.type) = some 290 by kernel_rfl).symm.trans ht)
  have hr := rows_ints (zs := tabZ) (k := .i64) (m := 4) (e := 274) (e' := 289) (n := 9) (by kernel_rfl) (by kernel_rfl) (by kernel_rfl) (by kernel_rfl) (by kernel_rfl) hd
  intro st k h1 h2
  obtain ⟨r, e1, e2⟩ := tab_follow st k h1 h2
  rw [World.var?_cell hg hv (st * 4 + k)]
  have := hr st k r _ e1 e2 (by omega)
  simpa using this
theorem someMax_of {W : World} (h : W.ShapedOpen Tryz.prog) : SomeMax W :=
  cell_of_shapedOpen_int (P := Tryz.prog) (g := 4) (t := 3) (zero := #[.int .i64 0]) (k := .i64) h (of_decide_eq_true (by kernel_rfl)) (by kernel_rfl) rfl (by kernel_rfl) (by kernel_rfl) (by kernel_rfl)
theorem size_of {W : World} (h : W.ShapedOpen Tryz.prog) : gN ≤ W.heap.size := by
  obtain ⟨⟨zero, t⟩, e⟩ := Option.isSome_iff_exists.1 (show (((begin Tryz.prog (fun _ _ => 0) default).world.heap[gN - 1]?).bind Obj.row?).isSome = true by kernel_rfl)
  obtain ⟨cs, hh, _, _⟩ := h.1 (gN - 1) zero t (of_decide_eq_true (by kernel_rfl)) e
  have := (Array.getElem?_eq_some_iff.1 hh).1
  omega
/-- The wrap, with what is laid and the world's shape. -/
theorem wrap_laid {H : Type} {enc : TypeId × Value → H} {a : Assume} {C : Checked} {os : Os} {f : FuncId} {fn : Func} {s : ChangeSpec} {conds : List PathCond} {apart fresh handsOn again : Bool} {X : World → Array Value → Prop}
    (hX : ∀ (w w' : World) (args : Array Value), w.heap = w'.heap → X w args → X w' args)
    (own : ownKnob C.prog.godebug = none) (started : os.Started) (noInit : C.prog.inits.idxOf? f = none) (hfn : C.prog.funcs[f]? = some fn)
    (witness : ∃ (w : World) (tape : Tape) (i : Input), w.os = os ∧ (w.forCall tape i).Shaped C.prog ∧ i.vars = [] ∧ Input.okWide C.prog (w.forCall tape i) .any w.heap.size f i ∧
      ((s.pre enc C.prog fn conds apart (w.forCall tape i).memory i.args ∧ X (w.forCall tape i).memory i.args) ∧ sizedMet enc C.prog fn (OpenSpec.ofChange s) apart (w.forCall tape i).memory i.args) ∧ a.holds C.prog (lone (Frame.enter C.prog f i.args .normal) [] (w.forCall tape i)))
    (contract : ∀ (W : World) (base : Nat) (args : Array Value) (ds gs : List (DataW H)) (before : List MemPlace),
      (∀ (j : Nat) t v, fn.params[j]? = some t → args[j]? = some v → Value.okWide C.prog W .any base t v) →
      DataW.Whole enc C.prog fn.params.toList s.vars apart W args.toList ds gs before →
      conds.all (PathCond.test C.prog ⟨fn.params.toList, ds, s.plain.varTypes C.prog, gs⟩) = true →
      (DataW.weightsEach C.prog (fn.params.toList ++ s.plain.varTypes C.prog) (ds ++ gs)).all (· ≤ reachBytes) = true → X W args →
      W.ShapedOpen C.prog →
      a.holds C.prog (lone (Frame.enter C.prog f args .normal) [] W) →
      Calls C.prog f args W fun e W' => ∃ v, e = .returned v ∧ s.post enc C.prog fn apart fresh handsOn again W args v W') :
    ReturnsInHanded a C os f .any (fun w args => (s.pre enc C.prog fn conds apart w args ∧ X w args) ∧ sizedMet enc C.prog fn (OpenSpec.ofChange s) apart w args) (s.post enc C.prog fn apart fresh handsOn again) := by
  refine returnsInHanded_of_calls own started noInit witness ?_
  intro w tape i _ hsh _ hok hpre hholds
  obtain ⟨_, _, _, fn', hfn', _, _, _, _, hval⟩ := hok
  have e : fn' = fn := Option.some.inj (hfn'.symm.trans hfn)
  subst e
  obtain ⟨⟨⟨ds, gs, before, hw, hc⟩, hx⟩, hz⟩ := hpre
  have hw' := DataW.Whole.of_heap (w' := w.forCall tape i) (by rfl) hw
  refine (contract (w.forCall tape i) w.heap.size i.args ds gs before hval hw' hc (hz.weights hw) (hX _ _ _ (by rfl) hx) hsh hholds).mono fun e W' ⟨v, he, hp⟩ => ?_
  subst he
  exact ChangeSpec.post_blind hp
end Go.Proofs.YtbjabclgekkpaaaGreatDoor
namespace Go.Proofs.YtbjabclgekkpaaaGreatDoor
open Go.ChangeShapes Go.WideShapes Go.ChangeAt Go.RowKit Go.Shelf
/-- A row of bools. -/
theorem row_bools {H : Type} {enc : TypeId × Value → H} {P : Program} {w : World} {base : Nat} {sp : Nat → Bool} {held : Bool} {fuel : Nat} {t e : TypeId} {n : Nat} {cs : List Value} {zs : List Bool} {p : List MemPlace}
    (ht : P.underlying t = some (.array n e)) (he : P.underlying e = some .bool) (hc : P.cellsOf e = 1) (h : DataW.trod enc P w base sp held fuel t cs = some (.agg (zs.map fun z => .lit (.bool z)), p)) :
    ∀ (i : Nat) (z : Bool), zs[i]? = some z → cs[i]? = some (Value.bool z) := by
  obtain ⟨xs, m, _, ex, _, hl, hel⟩ := DataW.trod_array ht h
  intro i z hz
  have e3 : (xs.map (·.1)) = zs.map fun n => .lit (.bool n) := (DataW.agg.inj (Prod.mk.inj ex).1).symm
  have e4 : (xs.map (·.1))[i]? = (zs.map fun n => (DataW.lit (.bool n) : DataW H))[i]? := by rw [e3]
  rw [List.getElem?_map, List.getElem?_map, hz] at e4
  have hi : i < xs.length := by
    refine Nat.lt_of_not_le fun hn => ?_
    rw [List.getElem?_eq_none hn] at e4
    cases e4
  have hE := hel i (by omega)
  rw [hc, Nat.mul_one, List.getElem?_eq_getElem hi] at hE
  obtain ⟨y, e1, e2⟩ := DataW.trod_bool he hE
  rw [List.getElem?_eq_getElem hi, e2] at e4
  have hy : y = z := by simpa using e4
  subst hy
  have h0 : ((cs.drop i).take 1)[0]? = some (Value.bool y) := by rw [e1]; rfl
  simpa using h0
def blkZ : List Bool := (List.range 33).map isBlN
theorem blkZ_at (i : Nat) (h : i ≤ 32) : blkZ[i]? = some (isBlN i) := by
  unfold blkZ; rw [List.getElem?_map, List.getElem?_range (by omega)]; rfl
theorem blks_of {W : World} {t : TypeId} {cs : Array Value} {fuel : Nat} {sp : Nat → Bool} {base : Nat} {p : List MemPlace} {g : Nat} (hg : Tryz.prog.globalNamed "pointillist/scan.isBlank" = some g) (ht : (Tryz.prog.globals[g]?).map (·.type) = some t) (hv : W.var? Tryz.prog "pointillist/scan.isBlank" = some cs)
    (hd : DataW.trod (fun _ => ()) Tryz.prog W base sp false fuel t cs.toList = some (Rows.laid_pointillist_scan_isBlank, p)) : Blks W := by
  obtain rfl := Option.some.inj ((show Tryz.prog.globalNamed "pointillist/scan.isBlank" = some 0 by kernel_rfl).symm.trans hg)
  obtain rfl := Option.some.inj ((show (Tryz.prog.globals[0]?).map (·.type) = some 222 by kernel_rfl).symm.trans ht)
  have hr := row_bools (zs := blkZ) (e := 4) (n := 33) (by kernel_rfl) (by kernel_rfl) (by kernel_rfl) (hd.trans (by congr 2))
  intro i hi
  rw [World.var?_cell hg hv i]
  have := hr i _ (blkZ_at i hi)
  simpa using this
end Go.Proofs.YtbjabclgekkpaaaGreatDoor
namespace Go.Proofs.YtbjabclgekkpaaaGreatDoor
open Go.ChangeShapes Go.WideShapes Go.ChangeAt Go.RowKit Go.Shelf
/-- Rows of two texts. -/
theorem rows_strs {H : Type} {enc : TypeId × Value → H} {P : Program} {w : World} {base : Nat} {sp : Nat → Bool} {held : Bool} {fuel : Nat} {t e' : TypeId} {f0 f1 : Field} {n : Nat} {cs : List Value} {zs : List (List UInt8 × List UInt8)} {p : List MemPlace}
    (ht : P.underlying t = some (.array n e')) (ht' : P.underlying e' = some (.struct #[f0, f1])) (h0 : P.underlying f0.type = some .string) (h1 : P.underlying f1.type = some .string) (hc' : P.cellsOf e' = 2) (hc0 : P.cellsOf f0.type = 1) (hc1 : P.cellsOf f1.type = 1) (o0 : f0.offset = 0) (o1 : f1.offset = 1)
    (h : DataW.trod enc P w base sp held fuel t cs = some (.agg (zs.map fun r => .agg [.lit (.string r.1), .lit (.string r.2)]), p)) :
    ∀ (i : Nat) (r : List UInt8 × List UInt8), zs[i]? = some r → ∃ u v : ByteArray, cs[i * 2]? = some (Value.string u) ∧ cs[i * 2 + 1]? = some (Value.string v) ∧ u.data.toList = r.1 ∧ v.data.toList = r.2 := by
  obtain ⟨xs, q, _, ex, _, hl, hel⟩ := DataW.trod_array ht h
  intro i r hr
  have e3 : (xs.map (·.1)) = zs.map fun r => .agg [.lit (.string r.1), .lit (.string r.2)] := (DataW.agg.inj (Prod.mk.inj ex).1).symm
  have e4 : (xs.map (·.1))[i]? = (zs.map fun r => (DataW.agg [.lit (.string r.1), .lit (.string r.2)] : DataW H))[i]? := by rw [e3]
  rw [List.getElem?_map, List.getElem?_map, hr] at e4
  have hi : i < xs.length := by
    refine Nat.lt_of_not_le fun hn => ?_
    rw [List.getElem?_eq_none hn] at e4
    cases e4
  have hE := hel i (by omega)
  rw [hc', List.getElem?_eq_getElem hi] at hE
  rw [List.getElem?_eq_getElem hi] at e4
  obtain ⟨y0, y1, m, hx, _, hy0, hy1⟩ := trod_struct2 ht' hE
  rw [hx] at e4
  have e5 : y0.1 = .lit (.string r.1) ∧ y1.1 = .lit (.string r.2) := by simpa using e4
  rw [hc0, o0] at hy0
  rw [hc1, o1] at hy1
  obtain ⟨u, hu, hu2, _⟩ := DataW.trod_string h0 hy0
  obtain ⟨v, hv, hv2, _⟩ := DataW.trod_string h1 hy1
  refine ⟨u, v, ?_, ?_, ?_, ?_⟩
  · have : ((((cs.drop (i * 2)).take 2).drop 0).take 1)[0]? = some (Value.string u) := by rw [hu]; rfl
    simpa using this
  · have : ((((cs.drop (i * 2)).take 2).drop 1).take 1)[0]? = some (Value.string v) := by rw [hv]; rfl
    simpa using this
  · have := e5.1; rw [hu2] at this; simpa using this
  · have := e5.2; rw [hv2] at this; simpa using this
/-- The listed variables: without, and with, what printing a number takes. -/
def laid5 : List (String × DataW Unit) := [("unicode/utf8.acceptRanges", Rows.laid_unicode_utf8_acceptRanges), ("pointillist/dec.follows", Rows.laid_pointillist_dec_follows), ("pointillist/scan.isBlank", Rows.laid_pointillist_scan_isBlank), ("pointillist/path.rows", Rows.laid_pointillist_path_rows), ("unicode/utf8.first", Rows.laid_unicode_utf8_first)]
def rowZ : List (List UInt8 × List UInt8) := (List.range 6).map fun i => ((letR i).data.toList, (kinR i).data.toList)
theorem rows_of {W : World} {t : TypeId} {cs : Array Value} {fuel : Nat} {sp : Nat → Bool} {base : Nat} {p : List MemPlace} {g : Nat} (hg : Tryz.prog.globalNamed "pointillist/path.rows" = some g) (ht : (Tryz.prog.globals[g]?).map (·.type) = some t) (hv : W.var? Tryz.prog "pointillist/path.rows" = some cs)
    (hd : DataW.trod (fun _ => ()) Tryz.prog W base sp false fuel t cs.toList = some (Rows.laid_pointillist_path_rows, p)) : Rws W := by
  obtain rfl := Option.some.inj ((show Tryz.prog.globalNamed "pointillist/path.rows" = some 1 by kernel_rfl).symm.trans hg)
  obtain rfl := Option.some.inj ((show (Tryz.prog.globals[1]?).map (·.type) = some 225 by kernel_rfl).symm.trans ht)
  have hr := rows_strs (zs := rowZ) (e' := 224) (n := 6) (by kernel_rfl) Tryz.underlying224 (by kernel_rfl) (by kernel_rfl) (by kernel_rfl) (by kernel_rfl) (by kernel_rfl) rfl rfl (hd.trans (by congr 2))
  intro i hi
  have hz : rowZ[i]? = some ((letR i).data.toList, (kinR i).data.toList) := by unfold rowZ; rw [List.getElem?_map, List.getElem?_range hi]; rfl
  obtain ⟨u, v, h0, h1, e0, e1⟩ := hr i _ hz
  have eb : ∀ a b : ByteArray, a.data.toList = b.data.toList → a = b := fun a b h => ByteArray.ext (Array.ext' h)
  rw [eb u _ e0] at h0
  rw [eb v _ e1] at h1
  rw [World.var?_cell hg hv (2 * i), World.var?_cell hg hv (2 * i + 1)]
  rw [show i * 2 = 2 * i from Nat.mul_comm _ _] at h0 h1
  exact ⟨by simpa using h0, by simpa using h1⟩
theorem ptabs_of {W : World} (h : laidMetH Tryz.prog laid5 W) (hs : W.ShapedOpen Tryz.prog) : PTabs W := by
  rw [MakeChecks.laidMetH_plain _ _ _ (by kernel_rfl)] at h
  obtain ⟨ps, ⟨_, _, _, _, _, _, _, _, _, _, ⟨g, t, cs, fuel, p, q, hg, ht, hv, hd, ⟨g', t', cs', fuel', p', q', hg', ht', hv', hd', ⟨g2, t2, cs2, fuel2, p2, q2, hg2, ht2, hv2, hd2, _, _⟩, _⟩, _⟩, _⟩, _, _⟩ := h
  exact ⟨⟨⟨follows_of hg ht hv hd, someMax_of hs, size_of hs⟩, blks_of hg' ht' hv' hd'⟩, rows_of hg2 ht2 hv2 hd2⟩
end Go.Proofs.YtbjabclgekkpaaaGreatDoor
