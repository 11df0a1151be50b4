/- Joined: Add, Make, RowV, Mul, Mulz, Plain, Half. -/
import Derived.Test.YtbjabclgekkpaaaGreatDoorQOM06
import Derived.Test.YtbjabclgekkpaaaGreatDoorQOM13
namespace Go.Proofs.YtbjabclgekkpaaaGreatDoor
open Go.RowKit Go.Shelf
theorem bcell {B : Nat} {W w1 : World} (hb : Below B W w1) : (∀ b o, b < B → w1.cell? ⟨b, o, none⟩ = W.cell? ⟨b, o, none⟩) ∧ (∀ b o, b < B → w1.frozen? ⟨b, o, none⟩ = W.frozen? ⟨b, o, none⟩) :=
  ⟨fun b o h => hb.cell (p := ⟨b, o, none⟩) h, fun b o h => hb.frozen (p := ⟨b, o, none⟩) h⟩
theorem Row.alloc {a : Option Addr} {zs : List Nat} {w : World} (h : Row a zs w) (o : Obj) : Row a zs (w.alloc o) := h.below ((Below.refl w.heap.size w).alloc (Nat.le_refl _) o) (Nat.le_refl _)
theorem NumAt.new3 (w : World) (o1 o2 : Obj) (k : Nat) : NumAt (w.heap.size + 1 + 1) false (.slice none 0 0) (World.drewN (((w.alloc o1).alloc o2).alloc (.cells #[.bool false, .slice none 0 0] 131)) k) := by
  have := NumAt.new ((w.alloc o1).alloc o2) false (.slice none 0 0)
  rw [show ((w.alloc o1).alloc o2).heap.size = w.heap.size + 1 + 1 from by simp] at this
  exact this
theorem below3 (w : World) (o1 o2 o3 : Obj) (k : Nat) : Below w.heap.size w (World.drewN (((w.alloc o1).alloc o2).alloc o3) k) := by
  have h := (((Below.refl w.heap.size w).alloc (Nat.le_refl _) o1).alloc (by simp) o2).alloc (by simp; omega) o3
  exact ⟨h.os, h.tape, h.output, h.size, h.block⟩
theorem add_close {w w' : World} {N : Nat} {neg : Bool} {a' : Option Addr} {cap' : Nat} {ts : Array Value} {o1 o2 : Obj} (k : Nat)
    (hb : Below (World.drewN (((w.alloc o1).alloc o2).alloc (.cells #[.bool false, .slice none 0 0] 131)) k).heap.size (World.drewN (((w.alloc o1).alloc o2).alloc (.cells #[.bool false, .slice none 0 0] 131)) k) w')
    (F : Row a' (dg N) w' ∧ (dg N).length ≤ cap' ∧ cap' ≤ maxLen) (hts : ts[4]? = some (.pointer (some ⟨w.heap.size + 1 + 1, 0, none⟩))) :
    bodyPost Tryz.prog Tryz.f119 (GivesNum neg N w) Exit.ret { tmps := ts, defers := [] } ((w'.setCell ⟨w.heap.size + 1 + 1, 0, none⟩ (.bool neg)).setCell ⟨w.heap.size + 1 + 1, 1, none⟩ (.slice a' (dg N).length cap')) := by
  have NA0 := NumAt.new3 w o1 o2 k
  have NA := NA0.below hb NA0.lt
  have F1 := NA.set (neg' := neg) (s' := .slice a' (dg N).length cap')
  refine bodyPost_ret (v := .agg #[.bool neg, .slice a' (dg N).length cap']) (by simp [results, Tryz.results119, go_sem, F1.c0, F1.c1, hts]) rfl ⟨a', cap', rfl, F.1.far NA, F.2.1, F.2.2, ?_⟩
  have h3 := below3 w o1 o2 (.cells #[.bool false, .slice none 0 0] 131) k
  exact Below.setCell (Below.setCell (h3.trans (hb.mono h3.size)) (by show w.heap.size ≤ w.heap.size + 1 + 1; omega) _) (by show w.heap.size ≤ w.heap.size + 1 + 1; omega) _
theorem add_same (n : Bool) (x y : Nat) (a b : Option Addr) (c1 c2 : Nat) (w : World) (l1 : (dg x).length ≤ 100000000) (l2 : (dg y).length ≤ 100000000) (h1 : Row a (dg x) w) (h2 : Row b (dg y) w) :
    Calls Tryz.prog 119 #[.agg #[.bool n, .slice a (dg x).length c1], .agg #[.bool n, .slice b (dg y).length c2]] w (GivesNum n (x + y) w) := by
  have P := Lib.hid (fun w k1 k2 => plus_any x y a b c1 c2 w l1 l2 k1 k2)
  have H1 := Lib.hid h1
  have H2 := Lib.hid h2
  clear h1 h2 l1 l2
  generalize (dg x).length = nx at *
  generalize (dg y).length = ny at *
  have t1 : (n == n) = true := by simp
  go_enter Tryz.func119, Tryz.ntmps119
  go_wp2_with fail
  go_region_held3 (fun w' => w'.cell? ⟨w.heap.size, 0, none⟩ = some (.bool n) ∧ w'.cell? ⟨w.heap.size, 1, none⟩ = some (.slice a nx c1) ∧ w'.cell? ⟨w.heap.size + 1, 1, none⟩ = some (.slice b ny c2)) (simp [go_sem, World.cell?_alloc_past, *])
    (first | (go_at_call 157; refine (P.out _ ?_ ?_).mono ?_; (exact ((H1.out.alloc _).alloc _).alloc _); (exact ((H2.out.alloc _).alloc _).alloc _); rintro e w' ⟨a', cap', rfl, hr, hl, hm, hb⟩; obtain ⟨hc, hf⟩ := bcell hb))
  clear hc hf
  go_wp2_with fail
  exact add_close 1 hb ⟨hr, hl, hm⟩ rfl
theorem add_less (n m : Bool) (hnm : (n == m) = false) (x y : Nat) (hxy : x < y) (a b : Option Addr) (c1 c2 : Nat) (w : World) (l1 : (dg x).length ≤ 100000000) (l2 : (dg y).length ≤ 100000000) (h1 : Row a (dg x) w) (h2 : Row b (dg y) w) :
    Calls Tryz.prog 119 #[.agg #[.bool n, .slice a (dg x).length c1], .agg #[.bool m, .slice b (dg y).length c2]] w (GivesNum m (y - x) w) := by
  have P := Lib.hid (fun w k1 k2 => minus_any y x b a c2 c1 w (by omega) l2 k2 k1)
  have L := Lib.hid (fun w k1 k2 => less_any a b (dg x) (dg y) c1 c2 w (small_dg x) (small_dg y) (by omega) k1 k2)
  rw [less_dg, show decide (x < y) = true from by simp [hxy]] at L
  have H1 := Lib.hid h1
  have H2 := Lib.hid h2
  clear h1 h2 l1 l2
  generalize (dg x).length = nx at *
  generalize (dg y).length = ny at *
  clear hxy
  go_enter Tryz.func119, Tryz.ntmps119
  go_wp2_with fail
  refine (L.out _ (by exact ((H1.out.alloc _).alloc _).alloc _) (by exact ((H2.out.alloc _).alloc _).alloc _)).mono ?_
  rintro e w1 ⟨rfl, q, rfl⟩
  go_wp2_with fail
  go_region_held3 (fun w' => w'.cell? ⟨w.heap.size, 1, none⟩ = some (.slice a nx c1) ∧ w'.cell? ⟨w.heap.size + 1, 0, none⟩ = some (.bool m) ∧ w'.cell? ⟨w.heap.size + 1, 1, none⟩ = some (.slice b ny c2)) (simp [go_sem, World.cell?_alloc_past, *])
    (first | (go_at_call 159; refine (P.out _ ?_ ?_).mono ?_; (exact ((H1.out.alloc _).alloc _).alloc _); (exact ((H2.out.alloc _).alloc _).alloc _); rintro e w' ⟨a', cap', rfl, hr, hl, hm, hb⟩; obtain ⟨hc, hf⟩ := bcell hb))
  clear hc hf
  go_wp2_with fail
  exact add_close (q + 1) hb ⟨hr, hl, hm⟩ rfl
theorem add_more (n m : Bool) (hnm : (n == m) = false) (x y : Nat) (hxy : y ≤ x) (a b : Option Addr) (c1 c2 : Nat) (w : World) (l1 : (dg x).length ≤ 100000000) (h1 : Row a (dg x) w) (h2 : Row b (dg y) w) :
    Calls Tryz.prog 119 #[.agg #[.bool n, .slice a (dg x).length c1], .agg #[.bool m, .slice b (dg y).length c2]] w (GivesNum n (x - y) w) := by
  have P := Lib.hid (fun w k1 k2 => minus_any x y a b c1 c2 w hxy l1 k1 k2)
  have L := Lib.hid (fun w k1 k2 => less_any a b (dg x) (dg y) c1 c2 w (small_dg x) (small_dg y) (by omega) k1 k2)
  rw [less_dg, show decide (x < y) = false from by simp; omega] at L
  have H1 := Lib.hid h1
  have H2 := Lib.hid h2
  clear h1 h2 l1
  generalize (dg x).length = nx at *
  generalize (dg y).length = ny at *
  clear hxy
  go_enter Tryz.func119, Tryz.ntmps119
  go_wp2_with fail
  refine (L.out _ (by exact ((H1.out.alloc _).alloc _).alloc _) (by exact ((H2.out.alloc _).alloc _).alloc _)).mono ?_
  rintro e w1 ⟨rfl, q, rfl⟩
  go_wp2_with fail
  go_region_held3 (fun w' => w'.cell? ⟨w.heap.size, 0, none⟩ = some (.bool n) ∧ w'.cell? ⟨w.heap.size, 1, none⟩ = some (.slice a nx c1) ∧ w'.cell? ⟨w.heap.size + 1, 1, none⟩ = some (.slice b ny c2)) (simp [go_sem, World.cell?_alloc_past, *])
    (first | (go_at_call 159; refine (P.out _ ?_ ?_).mono ?_; (exact ((H1.out.alloc _).alloc _).alloc _); (exact ((H2.out.alloc _).alloc _).alloc _); rintro e w' ⟨a', cap', rfl, hr, hl, hm, hb⟩; obtain ⟨hc, hf⟩ := bcell hb))
  clear hc hf
  go_wp2_with fail
  exact add_close (q + 1) hb ⟨hr, hl, hm⟩ rfl
/-- A number with its sign. -/
def sgn (neg : Bool) (x : Nat) : Int := if neg then -(x : Int) else (x : Int)
theorem sgn_natAbs (neg : Bool) (x : Nat) : (sgn neg x).natAbs = x := by cases neg <;> simp [sgn]
/-- The value is a number of the document's: its sign and its digits. -/
def NumV (v : Value) (z : Int) (w : World) : Prop :=
  ∃ (neg : Bool) (x : Nat) (a : Option Addr) (cap : Nat), v = .agg #[.bool neg, .slice a (dg x).length cap] ∧ Row a (dg x) w ∧ (dg x).length ≤ cap ∧ cap ≤ maxLen ∧ z = sgn neg x
theorem NumV.below {v : Value} {z : Int} {w w' : World} (h : NumV v z w) {B : Nat} (hb : Below B w w') (hB : w.heap.size ≤ B) : NumV v z w' := by
  obtain ⟨neg, x, a, cap, h1, h2, h3, h4, h5⟩ := h
  exact ⟨neg, x, a, cap, h1, h2.below hb hB, h3, h4, h5⟩
def GivesZ (z : Int) (w : World) (e : Ending) (w' : World) : Prop := ∃ v, e = .returned v ∧ NumV v z w' ∧ Below w.heap.size w w'
theorem GivesNum.toZ {neg : Bool} {x : Nat} {w : World} {e : Ending} {w' : World} (h : GivesNum neg x w e w') : GivesZ (sgn neg x) w e w' := by
  obtain ⟨a, cap, he, h1, h2, h3, h4⟩ := h
  exact ⟨_, he, ⟨neg, x, a, cap, rfl, h1, h2, h3, rfl⟩, h4⟩
/-- No number here has more than a thousand digits. -/
def Fair (z : Int) : Prop := z.natAbs < 65536 ^ 246
theorem Fair.len {neg : Bool} {x : Nat} (h : Fair (sgn neg x)) : (dg x).length ≤ 100000000 := by
  unfold Fair at h
  rw [sgn_natAbs] at h
  have := dg_length 246 x h
  omega
/-- Add: the sum of any two numbers. -/
theorem add_z (v1 v2 : Value) (z1 z2 : Int) (w : World) (f1 : Fair z1) (f2 : Fair z2) (h1 : NumV v1 z1 w) (h2 : NumV v2 z2 w) :
    Calls Tryz.prog 119 #[v1, v2] w (GivesZ (z1 + z2) w) := by
  obtain ⟨n, x, a, c1, rfl, r1, _, _, rfl⟩ := h1
  obtain ⟨m, y, b, c2, rfl, r2, _, _, rfl⟩ := h2
  by_cases hnm : n = m
  · subst hnm
    rw [show sgn n x + sgn n y = sgn n (x + y) from by cases n <;> simp [sgn] <;> omega]
    exact (add_same n x y a b c1 c2 w f1.len f2.len r1 r2).mono fun e w' hg => hg.toZ
  · have hb : (n == m) = false := by simp [hnm]
    by_cases hxy : x < y
    · rw [show sgn n x + sgn m y = sgn m (y - x) from by cases n <;> cases m <;> simp [sgn] at * <;> omega]
      exact (add_less n m hb x y hxy a b c1 c2 w f1.len f2.len r1 r2).mono fun e w' hg => hg.toZ
    · rw [show sgn n x + sgn m y = sgn n (x - y) from by cases n <;> cases m <;> simp [sgn] at * <;> omega]
      exact (add_more n m hb x y (by omega) a b c1 c2 w f1.len r1 r2).mono fun e w' hg => hg.toZ
end Go.Proofs.YtbjabclgekkpaaaGreatDoor
namespace Go.Proofs.YtbjabclgekkpaaaGreatDoor
open Go.RowKit Go.Shelf
/-- A new row of noughts. -/
theorem make_zeros {ops : Array Oper} {rest : List Oper} {o : Oper} {a : Act} {Q : Exit → Act → World → Prop} (w : World) (hg : o.guard = none) (l c : Operand) (hop : o.op = Op.makeSlice 129 l c)
    (n : Nat) (L : Int) (hl : a.eval l = .int .i64 L) (hc : a.eval c = .int .i64 L) (hL : L = (n : Int)) (hn : n ≤ 1000000000)
    (hK : ∀ w', w'.ownsRow w.heap.size 3 1 (.slice (some ⟨w.heap.size, 0, none⟩) n n) n (cellsN (List.replicate n 0)) → Below w.heap.size w w' → wpList Tryz.prog ops Q rest (a.put o.dst (.slice (some ⟨w.heap.size, 0, none⟩) n n)) w') :
    wpList Tryz.prog ops Q (o :: rest) a w := by
  obtain ⟨i0, hi, hz0, hz1, hz2⟩ := info_parts info_int
  refine wpList_make_full w hg l c 129 hop w.heap.size 3 i0 (.int .i64 0) 1 Tryz.underlying129 hi hz0 hz1 .i64 .i64 L L n hl hc hL hL (by rw [hz2]; omega) (by unfold maxLen; omega) (Nat.le_refl _) ?_
  intro w' hown hgr
  refine hK w' ?_ ((Below.refl _ _).grown hgr (Nat.le_refl _) (fun k hk => by cases hk))
  have e : (madeCells (Value.cells (.int .i64 0)) (n * 1)).toList = cellsN (List.replicate n 0) := by
    rw [show Value.cells (.int .i64 0) = #[.int .i64 0] from rfl, toList_madeCells_one]
    simp [cellsN]
  rw [← e]; exact hown
/-- One number appended to a row of the call's own: of all that was there no block has turned but the row's own. -/
theorem append_digit' {ops : Array Oper} {rest : List Oper} {o : Oper} {a : Act} {Q : Exit → Act → World → Prop} (w : World) (hgd : o.guard = none) (s x : Operand)
    (ho : o.op = .call { callee := .builtin .append, args := #[s, x], argTypes := #[129, 129] }) {B k : Nat} {v : Value} {os : List Value} (d : Int) (hown : w.ownsRow B 3 1 v k os) (hs : a.eval s = v)
    (hx : a.eval x = .slice (some ⟨w.heap.size, 0, none⟩) 1 1) (hk : k ≤ 1000000000) (hB : B ≤ w.heap.size)
    (h : ∀ v' w', w'.ownsRow B 3 1 v' (k + 1) (os ++ [.int .i64 d]) → Below B w w' → (∀ q, q < w.heap.size → some q ≠ v.ownBlock → w'.heap[q]? = w.heap[q]?) → wpList Tryz.prog ops Q rest (a.put o.dst v') w') :
    wpList Tryz.prog ops Q (o :: rest) a (w.alloc (.cells #[.int .i64 d] 3)) := by
  obtain ⟨i0, hi, hz0, hz1, hz2⟩ := info_parts info_int
  refine wpList_append_own _ hgd s x 129 ho B 3 i0 (.int .i64 0) 1 8 Tryz.underlying129 hi hz0 hz1 hz2 rfl (by decide) v k os hs (hown.alloc _) ⟨w.heap.size, 0, none⟩ 1 1 [.int .i64 d] hx rfl ?_ ?_ ?_ ?_ ?_ ?_
  · intro j u hj
    match j, hj with
    | 0, hj => simp at hj; subst hj; simp [Addr.add]
  · intro u hu; simp at hu; subst hu; rfl
  · unfold maxLen; omega
  · omega
  · simp; omega
  · intro v' w' hown' hg _
    refine h v' w' hown' ?_ (fun q hq hne => (hg.block q (by simp; omega) hne).trans (Below.heap_alloc _ _ _ hq))
    refine ((Below.refl B w).alloc hB _).grown hg (by simp; omega) ?_
    intro q hq
    exact (hown.lt q hq).1
/-- A store into a row of the call's own. -/
theorem own_set {w : World} {B g n : Nat} {zs : List Nat} (h : w.ownsRow B 3 1 (.slice (some ⟨g, 0, none⟩) n n) n (cellsN zs)) (hl : zs.length = n) (i d : Nat) (hi : i < n) :
    (w.setCell ⟨g, i, none⟩ (.int .i64 (d : Int))).ownsRow B 3 1 (.slice (some ⟨g, 0, none⟩) n n) n (cellsN (zs.set i d)) ∧ w.cell? ⟨g, i, none⟩ = some (.int .i64 (zs.getD i 0 : Nat)) ∧ w.frozen? ⟨g, i, none⟩ = false := by
  have hn := h
  rcases h.2 with ⟨h0, _⟩ | ⟨g', cap, cur, h0, hB, hh, hc, hm, hs, ht⟩
  · simp at h0
  · obtain ⟨rfl, rfl⟩ : g = g' ∧ n = cap := by simpa using h0
    have hcur : cur.toList = cellsN zs := by
      rw [Nat.mul_one] at ht hs
      rw [← ht, List.take_of_length_le (by simp; omega)]
    refine ⟨⟨by simp [cellsN, hl], .inr ⟨g, n, cur.setIfInBounds i (.int .i64 (d : Int)), rfl, hB, heap_put i _ hh, hc, hm, by simpa using hs, ?_⟩⟩, ?_, by simp [World.frozen?, hh]⟩
    · rw [List.take_of_length_le (by simp; omega), Array.toList_setIfInBounds, hcur]
      simp [cellsN, List.map_set]
    · have hcl : (cellsN zs)[i]? = some (.int .i64 (zs.getD i 0 : Nat)) := by simp [cellsN, List.getElem?_eq_getElem (show i < zs.length by omega), List.getD]
      rw [← hcur] at hcl
      simp only [World.cell?, hh]
      simpa using hcl
theorem small_zeros (n : Nat) : Small (List.replicate n 0) := fun z hz => by rw [(List.mem_replicate.1 hz).2]; decide
end Go.Proofs.YtbjabclgekkpaaaGreatDoor
namespace Go.Proofs.YtbjabclgekkpaaaGreatDoor
open Go.RowKit Go.Shelf
/-- The value is the row of a number. -/
def RowV (v : Value) (x : Nat) (w : World) : Prop := ∃ a cap, v = .slice a (dg x).length cap ∧ Row a (dg x) w ∧ (dg x).length ≤ cap ∧ cap ≤ maxLen
theorem RowV.below {v : Value} {x : Nat} {w w' : World} (h : RowV v x w) {B : Nat} (hb : Below B w w') (hB : w.heap.size ≤ B) : RowV v x w' := by
  obtain ⟨a, cap, h1, h2, h3, h4⟩ := h
  exact ⟨a, cap, h1, h2.below hb hB, h3, h4⟩
theorem RowV.alloc {v : Value} {x : Nat} {w : World} (h : RowV v x w) (o : Obj) : RowV v x (w.alloc o) := h.below ((Below.refl w.heap.size w).alloc (Nat.le_refl _) o) (Nat.le_refl _)
theorem RowV.nil (w : World) : RowV (.slice none 0 0) 0 w := ⟨none, 0, by rw [dg_zero]; rfl, Or.inl dg_zero, by rw [dg_zero]; exact Nat.le_refl _, by simp⟩
theorem dg_one : dg 1 = [1] := by rw [dg_pos 1 (by decide), show 1 / 65536 = 0 from rfl, dg_zero]
theorem RowV.one (w : World) : RowV (.slice (some ⟨w.heap.size, 0, none⟩) 1 1) 1 (w.alloc (.cells #[.int .i64 1] 3)) := by
  refine ⟨_, 1, by rw [dg_one]; rfl, ?_, by rw [dg_one]; exact Nat.le_refl _, by unfold maxLen; omega⟩
  rw [dg_one]
  refine Or.inr ⟨w.heap.size, 0, rfl, by simp, fun i hi => ?_⟩
  have : i = 0 := by simpa using hi
  subst this
  simp
def GivesV (z : Nat) (w : World) (e : Ending) (w' : World) : Prop := ∃ v, e = .returned v ∧ RowV v z w' ∧ Below w.heap.size w w'
theorem GivesRow.toV {z : Nat} {w : World} {e : Ending} {w' : World} (h : GivesRow z w e w') : GivesV z w e w' := by
  obtain ⟨a, cap, h1, h2, h3, h4, h5⟩ := h
  exact ⟨_, h1, ⟨a, cap, rfl, h2, h3, h4⟩, h5⟩
/-- No number here is greater than this. -/
def Big : Nat := 65536 ^ 236
theorem big_len (x : Nat) (h : x ≤ 4 * Big) : (dg x).length ≤ 100000000 := by
  have h1 : 4 * Big < 65536 ^ 237 := by unfold Big; decide
  have := dg_length 237 x (Nat.lt_of_le_of_lt h h1)
  omega
theorem plus_v (v1 v2 : Value) (x y : Nat) (w : World) (b1 : x ≤ 4 * Big) (b2 : y ≤ 4 * Big) (h1 : RowV v1 x w) (h2 : RowV v2 y w) : Calls Tryz.prog 157 #[v1, v2] w (GivesV (x + y) w) := by
  obtain ⟨a, c1, rfl, r1, _, _⟩ := h1
  obtain ⟨b, c2, rfl, r2, _, _⟩ := h2
  exact (plus_any x y a b c1 c2 w (big_len x b1) (big_len y b2) r1 r2).mono fun e w' hg => hg.toV
theorem minus_v (v1 v2 : Value) (x y : Nat) (w : World) (hxy : y ≤ x) (b1 : x ≤ 4 * Big) (h1 : RowV v1 x w) (h2 : RowV v2 y w) : Calls Tryz.prog 159 #[v1, v2] w (GivesV (x - y) w) := by
  obtain ⟨a, c1, rfl, r1, _, _⟩ := h1
  obtain ⟨b, c2, rfl, r2, _, _⟩ := h2
  exact (minus_any x y a b c1 c2 w hxy (big_len x b1) r1 r2).mono fun e w' hg => hg.toV
theorem less_v (v1 v2 : Value) (x y : Nat) (w : World) (b1 : x ≤ 4 * Big) (h1 : RowV v1 x w) (h2 : RowV v2 y w) : Calls Tryz.prog 158 #[v1, v2] w fun e w' => e = .returned (.bool (decide (x < y))) ∧ Below w.heap.size w w' := by
  obtain ⟨a, c1, rfl, r1, _, _⟩ := h1
  obtain ⟨b, c2, rfl, r2, _, _⟩ := h2
  have k := less_any a b (dg x) (dg y) c1 c2 w (small_dg x) (small_dg y) (by have := big_len x b1; omega) r1 r2
  rw [less_dg] at k
  exact k.mono fun e w' ⟨he, n, hw⟩ => ⟨he, by subst hw; exact ⟨rfl, rfl, rfl, Nat.le_refl _, fun _ _ => rfl⟩⟩
theorem own_below {w w' : World} {B : Nat} {v : Value} {n : Nat} {xs : List Value} (h : w.ownsRow B 3 1 v n xs) (hb : Below w.heap.size w w') : w'.ownsRow B 3 1 v n xs :=
  h.kept (row := none) ⟨hb.os, hb.tape, hb.output, hb.size, fun k hk _ => hb.block k hk⟩ (by cases hv : v.ownBlock with | none => exact Or.inl rfl | some q => exact Or.inr (by simp))
/-- A row that lies in a block that stays. -/
theorem RowV.stays {v : Value} {x : Nat} {w w' : World} (h : RowV v x w) {g : Nat} (hg : v.ownBlock = some g) (hs : w.heap.size ≤ w'.heap.size) (hb : w'.heap[g]? = w.heap[g]?) : RowV v x w' := by
  obtain ⟨a, cap, rfl, hr, h3, h4⟩ := h
  refine ⟨a, cap, rfl, ?_, h3, h4⟩
  rcases hr with hr | ⟨b, off, rfl, hlt, hc⟩
  · exact Or.inl hr
  · have : b = g := by simpa [Value.ownBlock] using hg
    subst this
    exact Or.inr ⟨b, off, rfl, by omega, fun i hi => (World.cell?_of_block (w := w) (a := ⟨b, off + i, none⟩) hb).trans (hc i hi)⟩
theorem RowV.zero {v : Value} {w : World} (h : RowV v 0 w) : ∃ a cap, v = .slice a 0 cap := by
  obtain ⟨a, cap, h1, _⟩ := h
  rw [dg_zero] at h1
  exact ⟨a, cap, h1⟩
theorem RowV.posn {v : Value} {x : Nat} {w : World} (h : RowV v x w) (hx : x ≠ 0) : ∃ a n cap, v = .slice a (n + 1) cap ∧ n ≤ 1000000000000 + n := by
  obtain ⟨a, cap, h1, _⟩ := h
  rw [dg_pos x hx] at h1
  exact ⟨a, _, cap, h1, by omega⟩
theorem own_len {w : World} {B : Nat} {v : Value} {n : Nat} {xs : List Value} (h : w.ownsRow B 3 1 v n xs) : lenOf v = n := by
  rcases h.2 with ⟨rfl, rfl⟩ | ⟨g, cap, cur, rfl, _⟩ <;> rfl
/-- A result that is a number, stored at last. -/
theorem num_close {f : Func} (hres : f.results = #[ResultVar.cell 4 131]) {w wf : World} {r N : Nat} {neg b0 : Bool} {x a' : Option Addr} {n c cap' : Nat} {ts : Array Value}
    (NA : NumAt r b0 (.slice x n c) wf) (hB : Below w.heap.size w wf) (hr : w.heap.size ≤ r) (F : Row a' (dg N) wf ∧ (dg N).length ≤ cap' ∧ cap' ≤ maxLen) (hts : ts[4]? = some (.pointer (some ⟨r, 0, none⟩))) :
    bodyPost Tryz.prog f (GivesNum neg N w) Exit.ret { tmps := ts, defers := [] } ((wf.setCell ⟨r, 0, none⟩ (.bool neg)).setCell ⟨r, 1, none⟩ (.slice a' (dg N).length cap')) := by
  have F1 := NA.set (neg' := neg) (s' := .slice a' (dg N).length cap')
  refine bodyPost_ret (v := .agg #[.bool neg, .slice a' (dg N).length cap']) (by simp [results, hres, go_sem, F1.c0, F1.c1, hts]) rfl ⟨a', cap', rfl, F.1.far NA, F.2.1, F.2.2, ?_⟩
  exact Below.setCell (Below.setCell hB hr _) hr _
theorem num_close' {f : Func} (hres : f.results = #[ResultVar.cell 4 131]) {w wf : World} {r N n' : Nat} {neg b0 : Bool} {x a' : Option Addr} {n c cap' : Nat} {ts : Array Value} (hn : n' = (dg N).length)
    (NA : NumAt r b0 (.slice x n c) wf) (hB : Below w.heap.size w wf) (hr : w.heap.size ≤ r) (F : Row a' (dg N) wf ∧ (dg N).length ≤ cap' ∧ cap' ≤ maxLen) (hts : ts[4]? = some (.pointer (some ⟨r, 0, none⟩))) :
    bodyPost Tryz.prog f (GivesNum neg N w) Exit.ret { tmps := ts, defers := [] } ((wf.setCell ⟨r, 0, none⟩ (.bool neg)).setCell ⟨r, 1, none⟩ (.slice a' n' cap')) := by
  subst hn
  exact num_close hres NA hB hr F hts
end Go.Proofs.YtbjabclgekkpaaaGreatDoor
namespace Go.Proofs.YtbjabclgekkpaaaGreatDoor
open Go.RowKit Go.Shelf
theorem below_drewN (B : Nat) (w : World) (n : Nat) : Below B w (w.drewN n) := ⟨rfl, rfl, rfl, Nat.le_refl _, fun _ _ => rfl⟩
theorem val_zeros (n : Nat) : val (List.replicate n 0) = 0 := by
  induction n with
  | zero => rfl
  | succ n ih => rw [List.replicate_succ, val, ih]
/-- One digit of one row of the product. -/
theorem mul_step (os ys : List Nat) (i k p cy s : Nat) (hl : os.length = i + k) (h : val os + 65536 ^ (i + k) * cy = 65536 ^ i * (p * val (ys.take k))) (hs : s = cy + p * ys.getD k 0) :
    val (os ++ [s % 65536]) + 65536 ^ (i + k + 1) * (s / 65536) = 65536 ^ i * (p * val (ys.take (k + 1))) := by
  rw [val_snoc, val_take', hl, Nat.pow_succ]
  have e : 65536 ^ (i + k) * s = 65536 ^ (i + k) * (s % 65536) + 65536 ^ (i + k) * 65536 * (s / 65536) := by
    rw [Nat.mul_assoc, ← Nat.mul_add, Nat.mod_add_div]
  have e2 : 65536 ^ (i + k) * s = 65536 ^ (i + k) * cy + 65536 ^ i * (p * (65536 ^ k * ys.getD k 0)) := by
    rw [hs, Nat.mul_add, Nat.pow_add, Nat.mul_assoc, Nat.mul_assoc, Nat.mul_left_comm p]
  rw [Nat.mul_add p, Nat.mul_add]
  omega
/-- What Mul's inner loop keeps. -/
def MulInv (ys : List Nat) (i p B : Nat) (w : World) (v c kv : Value) (wr : World) : Prop :=
  ∃ (k cy : Nat) (os : List Nat), kv = .int .i64 (k : Int) ∧ c = .int .i64 (cy : Int) ∧ os.length = i + k ∧ Small os ∧ cy ≤ 65535 ∧ wr.ownsRow B 3 1 v (i + k) (cellsN os) ∧ Below B w wr ∧
    val os + 65536 ^ (i + k) * cy = 65536 ^ i * (p * val (ys.take k)) ∧ (k ≤ ys.length ∨ k = ys.length + 1 ∧ cy = 0)
theorem mul_next (ys os : List Nat) (i p B : Nat) (w wr w1 : World) (k cy s : Nat) (t : Int) (v' : Value) (hy : Small ys) (hp : p ≤ 65535) (hl : os.length = i + k) (ho : Small os) (hc : cy ≤ 65535)
    (hb : Below B w wr) (hv : val os + 65536 ^ (i + k) * cy = 65536 ^ i * (p * val (ys.take k))) (hk : k ≤ ys.length ∨ k = ys.length + 1 ∧ cy = 0)
    (hs : s = cy + p * ys.getD k 0) (ht : t = (s : Int))
    (hown : w1.ownsRow B 3 1 v' (i + k + 1) (cellsN os ++ [.int .i64 (t % 65536)])) (hb1 : Below B wr w1) (hgo : k < ys.length ∨ cy ≠ 0) :
    MulInv ys i p B w v' (.int .i64 (t / 65536)) (.int .i64 ((k : Int) + 1)) w1 := by
  subst ht
  have g2 := small_get hy k
  have hm : p * ys.getD k 0 ≤ 65535 * 65535 := Nat.mul_le_mul hp (by omega)
  refine ⟨k + 1, s / 65536, os ++ [s % 65536], by rw [show (k : Int) + 1 = ((k + 1 : Nat) : Int) from by omega], rfl, by simp [hl]; omega, small_snoc ho (by omega), by omega, by rw [cellsN_snoc]; exact hown, hb.trans hb1, mul_step os ys i k p cy s hl hv hs, ?_⟩
  by_cases h2 : k < ys.length
  · left; omega
  · rw [getD_past ys k h2, Nat.mul_zero] at hs
    right; omega
/-- What Mul's outer loop keeps. -/
def MulOut (xs : List Nat) (y : Nat) (w : World) (o iv : Value) (wr : World) : Prop :=
  ∃ i : Nat, i ≤ xs.length ∧ iv = .int .i64 (i : Int) ∧ RowV o (val (xs.take i) * y) wr ∧ Below w.heap.size w wr
theorem prod_dg (x y i : Nat) (h : x * y ≤ Big) : val ((dg x).take i) * y ≤ 4 * Big := by
  have h1 : val ((dg x).take i) ≤ x := by
    conv => rhs; rw [← val_dg x, ← List.take_append_drop i (dg x)]
    rw [val_append]; omega
  have := Nat.mul_le_mul_right y h1
  omega
theorem row_dg (x y i : Nat) (h : x * y ≤ Big) : 65536 ^ i * ((dg x).getD i 0 * y) ≤ 4 * Big := by
  have h1 : val ((dg x).take (i + 1)) ≤ x := by
    conv => rhs; rw [← val_dg x, ← List.take_append_drop (i + 1) (dg x)]
    rw [val_append]; omega
  rw [val_take'] at h1
  have := Nat.mul_le_mul_right y (show 65536 ^ i * (dg x).getD i 0 ≤ x by omega)
  rw [Nat.mul_assoc] at this
  omega
set_option maxHeartbeats 4000000 in
set_option maxRecDepth 100000 in
theorem mul_any (n m : Bool) (x y : Nat) (a b : Option Addr) (c1 c2 : Nat) (w : World) (hxy : x * y ≤ Big) (bx : x ≤ Big) (by' : y ≤ Big) (h1 : Row a (dg x) w) (h2 : Row b (dg y) w) :
    Calls Tryz.prog 118 #[.agg #[.bool n, .slice a (dg x).length c1], .agg #[.bool m, .slice b (dg y).length c2]] w (GivesNum (n != m) (x * y) w) := by
  have l1 := big_len x (by omega)
  have l2 := big_len y (by omega)
  have H1 := Lib.hid (((h1.alloc (.cells #[.bool n, .slice a (dg x).length c1] 131)).alloc (.cells #[.bool m, .slice b (dg y).length c2] 131)).alloc (.cells #[.bool false, .slice none 0 0] 131))
  have H2 := Lib.hid (((h2.alloc (.cells #[.bool n, .slice a (dg x).length c1] 131)).alloc (.cells #[.bool m, .slice b (dg y).length c2] 131)).alloc (.cells #[.bool false, .slice none 0 0] 131))
  have N1 := Lib.hid (((NumAt.new w n (.slice a (dg x).length c1)).alloc (.cells #[.bool m, .slice b (dg y).length c2] 131)).alloc (.cells #[.bool false, .slice none 0 0] 131))
  have N2 := Lib.hid ((NumAt.new (w.alloc (.cells #[.bool n, .slice a (dg x).length c1] 131)) m (.slice b (dg y).length c2)).alloc (.cells #[.bool false, .slice none 0 0] 131))
  rw [show (w.alloc (.cells #[.bool n, .slice a (dg x).length c1] 131)).heap.size = w.heap.size + 1 from by simp] at N2
  have N3 := Lib.hid (NumAt.new3 w (.cells #[.bool n, .slice a (dg x).length c1] 131) (.cells #[.bool m, .slice b (dg y).length c2] 131) 0)
  have BW := Lib.hid (below3 w (.cells #[.bool n, .slice a (dg x).length c1] 131) (.cells #[.bool m, .slice b (dg y).length c2] 131) (.cells #[.bool false, .slice none 0 0] 131) 0)
  have HP := Lib.hid (fun i => And.intro (prod_dg x y i hxy) (row_dg x y i hxy))
  have HV := Lib.hid (And.intro (val_dg x) (val_dg y))
  have HX := Lib.hid (small_dg x)
  have HY := Lib.hid (small_dg y)
  clear h1 h2 hxy bx by'
  generalize dg x = xs at *
  generalize dg y = ys at *
  go_enter Tryz.func118, Tryz.ntmps118
  go_wp2_with fail
  rw [show World.drewN (((w.alloc (.cells #[.bool n, .slice a xs.length c1] 131)).alloc (.cells #[.bool m, .slice b ys.length c2] 131)).alloc (.cells #[.bool false, .slice none 0 0] 131)) 0 = ((w.alloc (.cells #[.bool n, .slice a xs.length c1] 131)).alloc (.cells #[.bool m, .slice b ys.length c2] 131)).alloc (.cells #[.bool false, .slice none 0 0] 131) from rfl] at N3 BW
  generalize ((w.alloc (.cells #[.bool n, .slice a xs.length c1] 131)).alloc (.cells #[.bool m, .slice b ys.length c2] 131)).alloc (.cells #[.bool false, .slice none 0 0] 131) = W0 at *
  go_loopw [5, 6] (fun o i wr => MulOut xs y W0 o i wr) (fun _ i _ => xs.length - natOf i)
  case atStart => exact ⟨0, Nat.zero_le _, rfl, by rw [List.take_zero, val, Nat.zero_mul]; exact RowV.nil _, Below.refl _ _⟩
  case round =>
    obtain ⟨i, hi, rfl, ho, hB⟩ := hrel
    have NA := N1.out.below hB N1.out.lt
    have NB := N2.out.below hB N2.out.lt
    have n1 := NA.c1
    by_cases hlt : i < xs.length
    · obtain ⟨W1, rfl⟩ : ∃ W1, W1 = wr := ⟨_, rfl⟩
      obtain ⟨ba, oa, rfl, hba, hca⟩ := (H1.out.below hB (Nat.le_refl _)).pos hlt
      have ga := hca i hlt
      have sp := small_get HX.out i
      have HOUT := Lib.hid ho
      have HB := Lib.hid hB
      have HNA := Lib.hid NA
      have HNB := Lib.hid NB
      have HRB := Lib.hid (H2.out.below hB (Nat.le_refl _))
      have HST := Lib.hid (val_take' xs i)
      have HP1 := Lib.hid (HP.out i)
      clear hca ho hB NA NB
      generalize xs.getD i 0 = p at *
      go_wp2_with (first | (at_make; refine make_zeros _ rfl _ _ rfl i _ rfl rfl rfl (by omega) ?_; intro w0 hown0 hb0))
      have HO0 := Lib.hid hown0
      have HB0 := Lib.hid hb0
      clear hown0 hb0
      go_loopw [7, 8, 9] (fun v c kv w2 => MulInv ys i p W1.heap.size W1 v c kv w2) (fun _ _ kv _ => ys.length + 1 - natOf kv)
      case atStart => exact ⟨0, 0, List.replicate i 0, rfl, rfl, by simp, small_zeros _, by omega, HO0.out, HB0.out, by rw [val_zeros]; simp [val], by left; omega⟩
      case round =>
        obtain ⟨k, cy, os, rfl, rfl, hl, hs, hc, hown, hb, hv, hk⟩ := hrel
        have HNX := Lib.hid (fun s t v' w1 => mul_next ys os i p W1.heap.size W1 wr w1 k cy s t v' HY.out (by omega) hl hs hc hb hv hk)
        have HL := Lib.hid hl
        have HV2 := Lib.hid hv
        have HK := Lib.hid hk
        have kb : k ≤ ys.length + 1 := by omega
        have hsz := hb.size
        have HO := Lib.hid hown
        have HB2 := Lib.hid hb
        have HS := Lib.hid hs
        have nb1 := (hb.cell (p := ⟨w.heap.size + 1, 1, none⟩) HNB.out.lt).trans HNB.out.c1
        have na1 := (hb.cell (p := ⟨w.heap.size, 1, none⟩) HNA.out.lt).trans HNA.out.c1
        have ga2 := (hb.cell (p := ⟨ba, oa + i, none⟩) hba).trans ga
        clear hl hv hown hb hk hs
        have i2 : (cy : Int) ≤ 65535 := by omega
        have ip : (p : Int) ≤ 65535 := by omega
        by_cases g2 : k < ys.length
        · obtain ⟨b2, o2, rfl, q2, hc2⟩ := (HRB.out.below HB2.out (Nat.le_refl _)).pos g2
          have e2 := hc2 k g2
          have s2 := small_get HY.out k
          clear hc2
          generalize ys.getD k 0 = q at *
          have i3 : (q : Int) ≤ 65535 := by omega
          have hm : p * q ≤ 65535 * 65535 := Nat.mul_le_mul (by omega) (by omega)
          have hm1 : (p : Int) * q ≤ 4294836225 := by rw [Mul64.mulN]; omega
          have hm0 : 0 ≤ (p : Int) * q := by rw [Mul64.mulN]; omega
          clear hm
          go_wp2_with fail
          go_quiet (fail)
          have HO3 := Lib.hid (show (wr.drewN nq).ownsRow _ _ _ _ _ _ from HO.out)
          have HB3 := Lib.hid (below_drewN W1.heap.size wr nq)
          have hsz3 : W1.heap.size ≤ (wr.drewN nq).heap.size := hsz
          generalize wr.drewN nq = w3 at *
          go_wp2_with (first | (at_builtin; refine append_digit _ rfl (.tmp 50) (.tmp 53) rfl _ HO3.out rfl rfl (by omega) (by omega) ?_; intro v' w1 hown' hb'))
          go_roundw
          case rel => exact HNX.out (cy + p * q) _ _ _ rfl (by rw [Mul64.mulN]; omega) hown' (HB3.out.trans hb') (Or.inl g2)
          case measure => simp [natOf]; omega
        · have s2 := Lib.hid (getD_past ys k g2)
          by_cases gc : cy = 0
          · subst gc
            obtain ⟨W2, rfl⟩ : ∃ W2, W2 = wr := ⟨_, rfl⟩
            have hl := HL.out
            have hown2 := HO.out
            rw [← hl] at hown2
            obtain ⟨a', cap', hu, t, fin, _⟩ := own_trims' (w := W1) hown2 HS.out HB2.out
            rw [hl] at hu t
            subst hu
            have ev : val os = 65536 ^ i * (p * y) := by
              have := HV2.out
              rw [val_take_all ys _ (by omega), HV.out.2] at this
              simpa using this
            rw [ev] at t fin
            have T := Lib.hid t
            have HR1 := Lib.hid (show RowV (.slice a' (dg (65536 ^ i * (p * y))).length cap') _ W2 from ⟨a', cap', rfl, fin⟩)
            have HO2 := Lib.hid (HOUT.out.below HB2.out (Nat.le_refl _))
            have P := Lib.hid (plus_v _ _ _ _ W2 HP1.out.1 HP1.out.2 HO2.out HR1.out)
            have EQ := Lib.hid (show val (List.take i xs) * y + 65536 ^ i * (p * y) = val (List.take (i + 1) xs) * y by rw [HST.out, Nat.add_mul, Nat.mul_assoc])
            clear t fin ev hown2 hl
            go_wp2_with fail
            refine T.out.mono ?_
            rintro e w3 ⟨rfl, rfl⟩
            go_wp2_with fail
            refine P.out.mono ?_
            rintro e w4 ⟨v4, rfl, hv4, b4⟩
            rw [EQ.out] at hv4
            go_wp2_with fail
            go_roundw
            case rel => exact ⟨i + 1, by omega, by go_num, hv4, (HB.out.trans (HB2.out.mono HB.out.size)).trans (b4.mono (Nat.le_trans HB.out.size HB2.out.size))⟩
            case measure => simp [natOf]; omega
          · have hcp : 0 < (cy : Int) := by omega
            have kb2 : k ≤ ys.length := by have := HK.out; omega
            go_wp2_with (first | (at_builtin; refine append_digit _ rfl (.tmp 50) (.tmp 53) rfl _ HO.out rfl rfl (by omega) (by omega) ?_; intro v' w1 hown' hb'))
            go_roundw
            case rel => exact HNX.out cy _ _ _ (by rw [s2.out, Nat.mul_zero]; rfl) rfl hown' hb' (Or.inr gc)
            case measure => simp [natOf]; omega
    · obtain rfl : i = xs.length := by omega
      have NR := N3.out.below hB N3.out.lt
      have n0 := NA.c0; have m0 := NB.c0
      have r0 := NR.c0; have r1 := NR.c1; have y0 := NR.z0; have y1 := NR.z1
      rw [List.take_length, HV.out.1] at ho
      obtain ⟨aq, cq, rfl, hqr⟩ := ho
      have HQR := Lib.hid hqr
      have HNR := Lib.hid NR
      have HB2 := Lib.hid (BW.out.trans (hB.mono BW.out.size))
      clear NA NB NR hqr hB
      cases n <;> cases m
      all_goals
        go_wp2_with fail
        exact num_close Tryz.results118 HNR.out HB2.out (by omega) HQR.out rfl
end Go.Proofs.YtbjabclgekkpaaaGreatDoor
namespace Go.Proofs.YtbjabclgekkpaaaGreatDoor
open Go.RowKit Go.Shelf
theorem fair_big (z : Int) (h : z.natAbs ≤ 4 * Big) : Fair z := by
  unfold Fair
  have h6 : (65536 : Nat) ^ 237 ≤ 65536 ^ 246 := Nat.pow_le_pow_right (n := 65536) (by decide) (by decide)
  refine Nat.lt_of_lt_of_le (Nat.lt_of_le_of_lt h ?_) h6
  unfold Big; decide
theorem NumV.mk {neg : Bool} {x : Nat} {a : Option Addr} {cap : Nat} {w : World} (h : RowV (.slice a (dg x).length cap) x w) : NumV (.agg #[.bool neg, .slice a (dg x).length cap]) (sgn neg x) w := by
  obtain ⟨a', cap', e, h1, h2, h3⟩ := h
  obtain ⟨rfl, rfl⟩ : a = a' ∧ cap = cap' := by simpa using e
  exact ⟨neg, x, a, cap, rfl, h1, h2, h3, rfl⟩
theorem mulz (v1 v2 : Value) (z1 z2 : Int) (w : World) (hb : (z1 * z2).natAbs ≤ Big) (b1 : z1.natAbs ≤ Big) (b2 : z2.natAbs ≤ Big) (h1 : NumV v1 z1 w) (h2 : NumV v2 z2 w) :
    Calls Tryz.prog 118 #[v1, v2] w (GivesZ (z1 * z2) w) := by
  obtain ⟨n, x, a, c1, rfl, r1, _, _, rfl⟩ := h1
  obtain ⟨m, y, b, c2, rfl, r2, _, _, rfl⟩ := h2
  rw [Int.natAbs_mul, sgn_natAbs, sgn_natAbs] at hb
  rw [sgn_natAbs] at b1 b2
  refine (mul_any n m x y a b c1 c2 w hb b1 b2 r1 r2).mono fun e w' hg => ?_
  have := hg.toZ
  rwa [show sgn (n != m) (x * y) = sgn n x * sgn m y from by cases n <;> cases m <;> simp [sgn, Int.neg_mul, Int.mul_neg]] at this
theorem num_closeZ {f : Func} (hres : f.results = #[ResultVar.cell 4 131]) {w wf : World} {r N : Nat} {neg b0 : Bool} {x a' : Option Addr} {n c cap' : Nat} {ts : Array Value} {z : Int}
    (NA : NumAt r b0 (.slice x n c) wf) (hB : Below w.heap.size w wf) (hr : w.heap.size ≤ r) (F : Row a' (dg N) wf ∧ (dg N).length ≤ cap' ∧ cap' ≤ maxLen) (hz : z = sgn neg N) (hts : ts[4]? = some (.pointer (some ⟨r, 0, none⟩))) :
    bodyPost Tryz.prog f (GivesZ z w) Exit.ret { tmps := ts, defers := [] } ((wf.setCell ⟨r, 0, none⟩ (.bool neg)).setCell ⟨r, 1, none⟩ (.slice a' (dg N).length cap')) := by
  have F1 := NA.set (neg' := neg) (s' := .slice a' (dg N).length cap')
  refine bodyPost_ret (v := .agg #[.bool neg, .slice a' (dg N).length cap']) (by simp [results, hres, go_sem, F1.c0, F1.c1, hts]) rfl ⟨_, rfl, ⟨neg, N, a', cap', rfl, F.1.far NA, F.2.1, F.2.2, hz⟩, ?_⟩
  exact Below.setCell (Below.setCell hB hr _) hr _
end Go.Proofs.YtbjabclgekkpaaaGreatDoor
namespace Go.Proofs.YtbjabclgekkpaaaGreatDoor
open Go.RowKit Go.Shelf
theorem val_drop (zs : List Nat) (m : Nat) (h : m < zs.length) : val (zs.drop m) = zs.getD m 0 + 65536 * val (zs.drop (m + 1)) := by
  rw [List.drop_eq_getElem_cons h, val, List.getD_eq_getElem?_getD, List.getElem?_eq_getElem h]; rfl
theorem val_drop_le (zs : List Nat) (m : Nat) : val (zs.drop m) ≤ val zs := by
  conv => rhs; rw [← List.take_append_drop m zs]
  rw [val_append]
  have := Nat.le_mul_of_pos_left (val (zs.drop m)) (Nat.pow_pos (n := (zs.take m).length) (show 0 < 65536 by decide))
  omega
theorem fits_no (neg : Bool) (x : Nat) (h : 9223372036854775808 < x) : Pair (sgn neg x) = .tuple #[.int .i64 0, .bool false] := by
  refine pair_bad ?_
  unfold fits
  simp only [decide_eq_false_iff_not]
  cases neg <;> simp [sgn] <;> omega
theorem dg_long (x : Nat) (h : 4 < (dg x).length) : 9223372036854775808 < x := by
  refine Nat.lt_of_not_le fun hle => ?_
  have := dg_length 4 x (by omega)
  omega
set_option maxHeartbeats 2000000 in
theorem plain_any (neg : Bool) (x : Nat) (a : Option Addr) (cap : Nat) (w : World) (h : Row a (dg x) w) (hl : (dg x).length ≤ 100000000) :
    Calls Tryz.prog 154 #[.agg #[.bool neg, .slice a (dg x).length cap]] w fun e w' => e = .returned (Pair (sgn neg x)) ∧ Below w.heap.size w w' := by
  by_cases h4 : 4 < (dg x).length
  · rw [fits_no neg x (dg_long x h4)]
    clear h
    generalize (dg x).length = n at *
    go_enter Tryz.func154, Tryz.ntmps154
    go_wp2_with fail
    go_ret2
    exact ⟨rfl, (Below.refl _ _).alloc (Nat.le_refl _) _⟩
  · have HV := Lib.hid (val_dg x)
    have HS := Lib.hid (small_dg x)
    have HR := Lib.hid (h.alloc (.cells #[.bool neg, .slice a (dg x).length cap] 131))
    have HF := Lib.hid (fits_no neg x)
    clear h hl
    have hd4 : decide (4 < (dg x).length) = false := by simp; omega
    generalize dg x = zs at *
    go_enter Tryz.func154, Tryz.ntmps154
    go_wp2_with fail
    go_loop [4, 5] (fun v i => ∃ k T : Nat, k ≤ zs.length ∧ i = .int .i64 ((k : Int) - 1) ∧ v = .int .i64 (-(T : Int)) ∧ T ≤ 9223372036854775808 ∧ Hid (val (zs.drop k) = T)) (fun _ i => (intOf i + 1).toNat)
    case atStart => exact ⟨zs.length, 0, Nat.le_refl _, rfl, rfl, by omega, by unfold Hid; rw [List.drop_length]; rfl⟩
    case round =>
      obtain ⟨k, T, hk, rfl, rfl, hT, hd⟩ := hrel
      have t0 : (T : Int) ≤ 9223372036854775808 := by omega
      clear hT
      rcases Nat.eq_zero_or_pos k with rfl | hp
      · have ex : T = x := by have e := hd.out; rw [List.drop_zero, HV.out] at e; exact e.symm
        subst ex
        cases neg
        · by_cases hm : (T : Int) = 9223372036854775808
          · have te : (-(T : Int) == -9223372036854775808) = true := by rw [beq_iff_eq]; omega
            have te2 : ((T : Int) == 9223372036854775808) = true := by rw [beq_iff_eq]; omega
            have HP := Lib.hid (show Pair (sgn false T) = .tuple #[.int .i64 0, .bool false] from pair_bad (by unfold fits; simp [sgn]; omega))
            clear hm
            go_wp2_with fail
            go_ret2
            exact ⟨by rw [HP.out]; rfl, (Below.refl _ _).alloc (Nat.le_refl _) _⟩
          · have te : (-(T : Int) == -9223372036854775808) = false := by rw [beq_eq_false_iff_ne]; omega
            have te2 : ((T : Int) == 9223372036854775808) = false := by rw [beq_eq_false_iff_ne]; omega
            have HP := Lib.hid (show Pair (sgn false T) = .tuple #[.int .i64 (T : Int), .bool true] from pair_i64 (by unfold I64; simp [sgn]; omega))
            have t1 : (T : Int) ≤ 9223372036854775807 := by omega
            clear hm
            go_wp2_with fail
            go_ret2
            exact ⟨by rw [HP.out]; rfl, (Below.refl _ _).alloc (Nat.le_refl _) _⟩
        · have HP := Lib.hid (show Pair (sgn true T) = .tuple #[.int .i64 (-(T : Int)), .bool true] from pair_i64 (by unfold I64; simp [sgn]; omega))
          go_wp2_with fail
          go_ret2
          exact ⟨by rw [HP.out]; rfl, (Below.refl _ _).alloc (Nat.le_refl _) _⟩
      · obtain ⟨m, rfl⟩ : ∃ m, k = m + 1 := ⟨k - 1, by omega⟩
        obtain ⟨b1, o1, rfl, q1, hc1⟩ := HR.out.pos (k := m) (by omega)
        have g1 := hc1 m (by omega)
        have HD := Lib.hid (val_drop zs m (by omega))
        have HL := Lib.hid (val_drop_le zs m)
        have s1 := small_get HS.out m
        rw [hd.out] at HD
        clear hc1
        generalize zs.getD m 0 = d at *
        have i1 : (d : Int) ≤ 65535 := by omega
        by_cases b1 : -(T : Int) < -140737488355328
        · have HP := Lib.hid (HF.out (by have := HD.out; have := HL.out; have := HV.out; omega))
          go_wp2_with fail
          go_ret2
          exact ⟨by rw [HP.out]; rfl, (Below.refl _ _).alloc (Nat.le_refl _) _⟩
        · by_cases b2 : -(T : Int) * 65536 < -9223372036854775808 + d
          · have HP := Lib.hid (HF.out (by have := HD.out; have := HL.out; have := HV.out; omega))
            go_wp2_with fail
            go_ret2
            exact ⟨by rw [HP.out]; rfl, (Below.refl _ _).alloc (Nat.le_refl _) _⟩
          · go_wp2_with fail
            go_round
            case rel => exact ⟨m, d + 65536 * T, by omega, rfl, congrArg (Value.int .i64) (by omega), by omega, by unfold Hid; rw [HD.out]⟩
            case measure => simp [intOf]
theorem plain_z (v : Value) (z : Int) (w : World) (f : Fair z) (h : NumV v z w) :
    Calls Tryz.prog 154 #[v] w fun e w' => e = .returned (Pair z) ∧ Below w.heap.size w w' := by
  obtain ⟨n, x, a, c, rfl, r, _, _, rfl⟩ := h
  exact plain_any n x a c w r f.len
end Go.Proofs.YtbjabclgekkpaaaGreatDoor
namespace Go.Proofs.YtbjabclgekkpaaaGreatDoor
open Go.RowKit Go.Shelf
theorem drop_set (zs : List Nat) (m d : Nat) (h : m < zs.length) : (zs.set m d).drop m = d :: zs.drop (m + 1) := by
  rw [List.drop_set, if_neg (by omega), Nat.sub_self, List.drop_eq_getElem_cons h]
  rfl
/-- What half's loop keeps. -/
def HalfInv (ds : List Nat) (w : World) (rv i : Value) (wr : World) : Prop :=
  ∃ (k r : Nat) (zs : List Nat), k ≤ ds.length ∧ i = .int .i64 ((k : Int) - 1) ∧ rv = .int .i64 (r : Int) ∧ r ≤ 1 ∧ zs.length = ds.length ∧ Small zs ∧
    wr.ownsRow w.heap.size 3 1 (.slice (some ⟨w.heap.size, 0, none⟩) ds.length ds.length) ds.length (cellsN zs) ∧ Below w.heap.size w wr ∧ val (ds.drop k) = 2 * val (zs.drop k) + r
theorem half_next (ds : List Nat) (w wr : World) (m r : Nat) (zs : List Nat) (t : Int) (hk : m + 1 ≤ ds.length) (hd : Small ds) (hr : r ≤ 1) (hl : zs.length = ds.length) (hs : Small zs)
    (hown : wr.ownsRow w.heap.size 3 1 (.slice (some ⟨w.heap.size, 0, none⟩) ds.length ds.length) ds.length (cellsN zs)) (hb : Below w.heap.size w wr) (hv : val (ds.drop (m + 1)) = 2 * val (zs.drop (m + 1)) + r)
    (ht : t = ((r * 65536 + ds.getD m 0 : Nat) : Int)) :
    HalfInv ds w (.int .i64 (t % 2)) (.int .i64 ((m : Int) - 1)) (wr.setCell ⟨w.heap.size, m, none⟩ (.int .i64 (t / 2))) := by
  subst ht
  have g := small_get hd m
  have o := (own_set hown hl m ((r * 65536 + ds.getD m 0) / 2) (by omega)).1
  refine ⟨m, (r * 65536 + ds.getD m 0) % 2, zs.set m ((r * 65536 + ds.getD m 0) / 2), by omega, rfl, rfl, by omega, by simpa using hl, ?_, o, hb.setCell (Nat.le_refl _) _, ?_⟩
  · intro z hz
    rcases List.mem_or_eq_of_mem_set hz with hz | hz
    · exact hs z hz
    · subst hz; omega
  · rw [val_drop ds m (by omega), drop_set zs m _ (by omega), val, hv]
    omega
/-- What half leaves. -/
def GivesHalf (x : Nat) (w : World) (e : Ending) (w' : World) : Prop :=
  ∃ a cap, a = some ⟨w.heap.size, 0, none⟩ ∧ e = .returned (.tuple #[.slice a (dg (x / 2)).length cap, .int .i64 ((x % 2 : Nat) : Int)]) ∧ Row a (dg (x / 2)) w' ∧ (dg (x / 2)).length ≤ cap ∧ cap ≤ maxLen ∧ Below w.heap.size w w' ∧ w.heap.size < w'.heap.size
set_option maxHeartbeats 2000000 in
theorem half_any (x : Nat) (a : Option Addr) (c : Nat) (w : World) (hl : (dg x).length ≤ 100000000) (h : Row a (dg x) w) :
    Calls Tryz.prog 227 #[.slice a (dg x).length c] w (GivesHalf x w) := by
  have HV := Lib.hid (val_dg x)
  have HX := Lib.hid (small_dg x)
  have H1 := Lib.hid h
  clear h
  generalize dg x = ds at *
  go_enter Tryz.func227, Tryz.ntmps227
  go_wp2_with (at_make; refine make_zeros _ rfl _ _ rfl ds.length _ rfl rfl rfl (by omega) ?_; intro w0 hown0 hb0)
  have HO0 := Lib.hid hown0
  have HB0 := Lib.hid hb0
  clear hown0 hb0
  go_loopw [5, 6] (fun rv i wr => HalfInv ds w rv i wr) (fun _ i _ => (intOf i + 1).toNat)
  case atStart => exact ⟨ds.length, 0, List.replicate ds.length 0, Nat.le_refl _, rfl, rfl, by omega, by simp, small_zeros _, HO0.out, HB0.out, by rw [List.drop_length, List.drop_eq_nil_of_le (by simp)]; rfl⟩
  case round =>
    obtain ⟨k, r, zs, hk, rfl, rfl, hr, hlz, hs, hown, hb, hv⟩ := hrel
    rcases Nat.eq_zero_or_pos k with rfl | hp
    · rw [List.drop_zero, List.drop_zero, HV.out] at hv
      have e1 : val zs = x / 2 := by omega
      have e2 : r = x % 2 := by omega
      subst e2
      have hlt0 := (hown.lt w.heap.size rfl).2
      have HLT := Lib.hid hlt0
      clear hlt0
      rw [← hlz] at hown
      obtain ⟨a', cap', hu, t, fin, _⟩ := own_trims' (w := w) hown hs hb
      simp only [Value.slice.injEq] at hu
      obtain ⟨rfl, _, rfl⟩ := hu
      rw [e1, hlz] at t fin
      have T := Lib.hid t
      have FIN := Lib.hid fin
      have HB := Lib.hid hb
      clear t fin hv e1 hown hb hlz
      go_wp2_with fail
      refine T.out.mono ?_
      rintro e w1 ⟨rfl, rfl⟩
      go_wp2_with fail
      go_ret2
      exact ⟨_, _, rfl, rfl, FIN.out.1, FIN.out.2.1, FIN.out.2.2, HB.out, HLT.out⟩
    · obtain ⟨m, rfl⟩ : ∃ m, k = m + 1 := ⟨k - 1, by omega⟩
      obtain ⟨b1, o1, rfl, q1, hc1⟩ := (H1.out.below hb (Nat.le_refl _)).pos (k := m) (by omega)
      have e1 := hc1 m (by omega)
      have s1 := small_get HX.out m
      have os := own_set hown hlz m 0 (by omega)
      have hcell := os.2.1
      have hfz := os.2.2
      have NX := Lib.hid (fun t => half_next ds w wr m r zs t hk HX.out hr hlz hs hown hb hv)
      clear hc1 os hv hown hb hs hlz
      generalize ds.getD m 0 = d at *
      have i1 : (d : Int) ≤ 65535 := by omega
      have i2 : (r : Int) ≤ 1 := by omega
      go_wp2_with fail
      go_roundw
      case rel => exact NX.out _ (by omega)
      case measure => simp [intOf]
end Go.Proofs.YtbjabclgekkpaaaGreatDoor
