/- Joined: Ref4Math, Dig, Trim, Plus, Minus, Of. -/
import Derived.Test.YtbjabclgekkpaaaGreatDoorQOM01
import Derived.Test.YtbjabclgekkpaaaGreatDoorQOM10
import Derived.Deep.QuietTactic
import Derived.Laws.AppendOwn
import Derived.OwnWalk
namespace Go.Proofs.YtbjabclgekkpaaaGreatDoor
/-- One byte of the digits: the number so far, whether the point was met, and how many digits are behind it. -/
def mst (st : Nat × Bool × Nat) (c : UInt8) : Nat × Bool × Nat := if c.toNat = 46 then (st.1, true, st.2.2) else (10 * st.1 + dv c, st.2.1, if st.2.1 then st.2.2 + 1 else st.2.2)
theorem mst_dig {c : UInt8} (h : isDig c = true) (N : Nat) (p : Bool) (b : Nat) : mst (N, p, b) c = (10 * N + dv c, p, if p then b + 1 else b) := by
  unfold mst
  rw [if_neg (by unfold isDig at h; simp at h; omega)]
theorem mst_pt (N : Nat) (p : Bool) (b : Nat) : mst (N, p, b) 46 = (N, true, b) := rfl
theorem mfold_digs (l : List UInt8) : ∀ (N : Nat) (p : Bool) (b : Nat), AllDig l → l.foldl mst (N, p, b) = (N * 10 ^ l.length + nat10 l, p, if p then b + l.length else b) := by
  induction l with
  | nil => intro N p b _; cases p <;> simp [nat10]
  | cons c t ih =>
    intro N p b h
    rw [List.foldl_cons, mst_dig (h c (by simp)), ih _ _ _ (fun x hx => h x (by simp [hx])), nat10_cons, List.length_cons, Nat.pow_succ]
    refine Prod.ext ?_ (Prod.ext rfl ?_)
    · show (10 * N + dv c) * 10 ^ t.length + nat10 t = _
      grind
    · cases p
      · rfl
      · show b + 1 + t.length = b + (t.length + 1)
        omega
theorem mfold_num {l s a : List UInt8} {pt : Bool} {b : List UInt8} {x : Expo} (h : IsNum l s a pt b x) : (a ++ ptL pt b).foldl mst (0, false, 0) = (nat10 (a ++ b), pt, b.length) := by
  rw [List.foldl_append, mfold_digs a _ _ _ h.ha, Nat.zero_mul, Nat.zero_add]
  cases pt with
  | false => rw [h.hpt rfl]; simp [ptL]
  | true =>
    show (46 :: b).foldl mst (nat10 a, false, 0) = _
    rw [List.foldl_cons, mst_pt, mfold_digs b _ _ _ h.hb, nat10_append]
    refine Prod.ext rfl (Prod.ext rfl ?_)
    exact Nat.zero_add _
/-- The power, cut at a thousand. -/
def capF : List UInt8 → Nat → Nat
  | [], p => p
  | c :: t, p => capF t (min 1000 (p * 10 + dv c))
theorem capF_eq (l : List UInt8) : ∀ p : Nat, p ≤ 1000 → capF l p = min 1000 (p * 10 ^ l.length + nat10 l) := by
  induction l with
  | nil => intro p hp; simp [capF, nat10]; omega
  | cons c t ih =>
    intro p hp
    have e : p * (10 ^ t.length * 10) + (dv c * 10 ^ t.length + nat10 t) = (p * 10 + dv c) * 10 ^ t.length + nat10 t := by grind
    show capF t (min 1000 (p * 10 + dv c)) = _
    rw [nat10_cons, List.length_cons, Nat.pow_succ, e]
    have h1 : 1 ≤ 10 ^ t.length := Nat.pow_pos (by decide)
    by_cases h : p * 10 + dv c ≤ 1000
    · rw [Nat.min_eq_right h]; exact ih _ h
    · rw [Nat.min_eq_left (by omega), ih 1000 (by omega)]
      have g : (p * 10 + dv c) * 1 ≤ (p * 10 + dv c) * 10 ^ t.length := Nat.mul_le_mul_left _ h1
      have g' : 1000 * 1 ≤ 1000 * 10 ^ t.length := Nat.mul_le_mul_left _ h1
      rw [Nat.min_eq_left (by omega), Nat.min_eq_left (by omega)]
theorem capF_le (l : List UInt8) (p : Nat) (h : p ≤ 1000) : capF l p ≤ 1000 := by rw [capF_eq l p h]; omega
/-- The document's power. -/
def exC : Expo → Int
  | none => 0
  | some (_, s, d) => sg (decide (s = [45])) (capF d 0)
theorem exC_bd (x : Expo) : -1000 ≤ exC x ∧ exC x ≤ 1000 := by
  cases x with
  | none => simp [exC]
  | some y =>
    obtain ⟨c, s, d⟩ := y
    have := capF_le d 0 (by omega)
    show -1000 ≤ sg _ _ ∧ sg _ _ ≤ 1000
    cases decide (s = [45])
    · rw [sg_false]; omega
    · rw [sg_true]; omega
theorem ans_cap (neg : Bool) (D L bl : Nat) (x : Expo) (hD : D < 10 ^ L) (hL : L ≤ 200) (hb : bl ≤ 200) : ansV (nearV neg D (exC x - bl)) = ansV (nearV neg D (exV x - bl)) := by
  cases x with
  | none => rfl
  | some y =>
    obtain ⟨c, s, d⟩ := y
    show ansV (nearV neg D (sg (decide (s = [45])) (capF d 0) - bl)) = ansV (nearV neg D (sg (decide (s = [45])) (nat10 d) - bl))
    rw [capF_eq d 0 (by omega), Nat.zero_mul, Nat.zero_add]
    by_cases h : nat10 d ≤ 1000
    · rw [Nat.min_eq_right h]
    · rw [Nat.min_eq_left (by omega)]
      generalize nat10 d = m at *
      cases decide (s = [45])
      · rw [sg_false, sg_false, far_up neg D _ (by omega), far_up neg D _ (by omega)]
      · rw [sg_true, sg_true, far_down neg D _ L hD (by omega), far_down neg D _ L hD (by omega)]
theorem num_lens {l s a : List UInt8} {pt : Bool} {b : List UInt8} {x : Expo} (h : IsNum l s a pt b x) : (a ++ b).length ≤ l.length ∧ (a ++ ptL pt b).length ≤ l.length := by
  have e := congrArg List.length h.text
  simp only [List.length_append] at e
  have : b.length ≤ (ptL pt b).length := by
    cases pt with
    | false => rw [h.hpt rfl]; simp
    | true => simp [ptL]
  simp only [List.length_append]
  omega
/-- The document's answer. -/
theorem ref_num {l s a : List UInt8} {pt : Bool} {b : List UInt8} {x : Expo} (h : IsNum l s a pt b x) (hl : l.length ≤ 200) :
    ansV (nearV (decide (s = [45])) (nat10 (a ++ b)) (exC x - b.length)) = ansF s a b x := by
  have e := num_lens h
  have lt := nat10_lt (a ++ b) (fun c hc => by
    rcases List.mem_append.1 hc with hc | hc
    · exact h.ha c hc
    · exact h.hb c hc)
  have : (a ++ b).length = a.length + b.length := by simp
  exact ans_cap _ _ (a ++ b).length b.length x lt (by omega) (by omega)
end Go.Proofs.YtbjabclgekkpaaaGreatDoor
namespace Go.Proofs.YtbjabclgekkpaaaGreatDoor
/-- The value of a row of digits. -/
def val : List Nat → Nat
  | [] => 0
  | d :: r => d + 65536 * val r
/-- Without noughts ahead. -/
def trimL : List Nat → List Nat
  | [] => []
  | d :: r => if trimL r = [] ∧ d = 0 then [] else d :: trimL r
def Small (zs : List Nat) : Prop := ∀ z ∈ zs, z < 65536
/-- The digits of a number. -/
def dg (x : Nat) : List Nat := if x = 0 then [] else x % 65536 :: dg (x / 65536)
  decreasing_by omega
theorem dg_zero : dg 0 = [] := by rw [dg]; simp
theorem dg_pos (x : Nat) (h : x ≠ 0) : dg x = x % 65536 :: dg (x / 65536) := by rw [dg, if_neg h]
theorem dg_nil (x : Nat) : dg x = [] ↔ x = 0 := by
  constructor
  · intro h
    refine Decidable.byContradiction fun hx => ?_
    rw [dg_pos x hx] at h; cases h
  · rintro rfl; exact dg_zero
theorem val_dg (x : Nat) : val (dg x) = x := by
  by_cases h : x = 0
  · subst h; rw [dg_zero]; rfl
  · rw [dg_pos x h, val, val_dg (x / 65536)]; omega
  termination_by x
  decreasing_by omega
theorem small_dg (x : Nat) : Small (dg x) := by
  by_cases h : x = 0
  · subst h; rw [dg_zero]; intro z hz; cases hz
  · rw [dg_pos x h]
    intro z hz
    rcases List.mem_cons.1 hz with rfl | hz
    · omega
    · exact small_dg (x / 65536) z hz
  termination_by x
  decreasing_by omega
theorem dg_length (k x : Nat) (h : x < 65536 ^ k) : (dg x).length ≤ k := by
  induction k generalizing x with
  | zero => have : x = 0 := by simpa using h
            subst this; rw [dg_zero]; simp
  | succ k ih =>
    by_cases h0 : x = 0
    · subst h0; rw [dg_zero]; simp
    · rw [dg_pos x h0, List.length_cons]
      have := ih (x / 65536) (by rw [Nat.pow_succ] at h; omega)
      omega
theorem Small.tail {d : Nat} {r : List Nat} (h : Small (d :: r)) : Small r := fun z hz => h z (List.mem_cons_of_mem _ hz)
/-- A row without its noughts ahead is the row of its value. -/
theorem trim_dg (zs : List Nat) (h : Small zs) : trimL zs = dg (val zs) := by
  induction zs with
  | nil => rw [val, dg_zero]; rfl
  | cons d r ih =>
    have hd := h d (List.mem_cons_self ..)
    have e := ih h.tail
    rw [trimL, val, e]
    by_cases hz : d + 65536 * val r = 0
    · rw [hz, dg_zero, if_pos ⟨(dg_nil _).2 (by omega), by omega⟩]
    · rw [if_neg (by rw [dg_nil]; omega), dg_pos _ hz, show (d + 65536 * val r) % 65536 = d from by omega, show (d + 65536 * val r) / 65536 = val r from by omega]
theorem val_append (l r : List Nat) : val (l ++ r) = val l + 65536 ^ l.length * val r := by
  induction l with
  | nil => simp [val]
  | cons d l ih =>
    rw [List.cons_append, val, val, ih, List.length_cons, Nat.pow_succ, Nat.mul_add, Nat.mul_comm (65536 ^ l.length) 65536, Nat.mul_assoc]
    omega
theorem val_snoc (l : List Nat) (d : Nat) : val (l ++ [d]) = val l + 65536 ^ l.length * d := by
  rw [val_append]; simp [val]
theorem val_lt (l : List Nat) (h : Small l) : val l < 65536 ^ l.length := by
  induction l with
  | nil => simp [val]
  | cons d l ih =>
    have hd := h d (List.mem_cons_self ..)
    have := ih h.tail
    rw [val, List.length_cons, Nat.pow_succ]
    omega
theorem small_snoc {l : List Nat} {d : Nat} (h : Small l) (hd : d < 65536) : Small (l ++ [d]) := by
  intro z hz
  rcases List.mem_append.1 hz with hz | hz
  · exact h z hz
  · have : z = d := by simpa using hz
    subst this; exact hd
theorem small_take {l : List Nat} (h : Small l) (k : Nat) : Small (l.take k) := fun z hz => h z (List.mem_of_mem_take hz)
theorem small_get {l : List Nat} (h : Small l) (k : Nat) : l.getD k 0 < 65536 := by
  by_cases hk : k < l.length
  · rw [List.getD_eq_getElem?_getD, List.getElem?_eq_getElem hk]; exact h _ (List.getElem_mem hk)
  · rw [List.getD_eq_getElem?_getD, List.getElem?_eq_none (by omega)]; decide
theorem trim_snoc_zero (l : List Nat) : trimL (l ++ [0]) = trimL l := by
  induction l with
  | nil => simp [trimL]
  | cons d l ih => rw [List.cons_append, trimL, ih, trimL]
theorem trim_snoc_pos (l : List Nat) (d : Nat) (h : d ≠ 0) : trimL (l ++ [d]) = l ++ [d] := by
  induction l with
  | nil => simp [trimL, h]
  | cons x l ih => rw [List.cons_append, trimL, ih, if_neg (by simp)]
theorem take_snoc (zs : List Nat) (k : Nat) (h : k < zs.length) : zs.take (k + 1) = zs.take k ++ [zs.getD k 0] := by
  rw [List.take_succ_eq_append_getElem h, List.getD_eq_getElem?_getD, List.getElem?_eq_getElem h]; rfl
theorem val_take (zs : List Nat) (k : Nat) (h : k < zs.length) : val (zs.take (k + 1)) = val (zs.take k) + 65536 ^ k * zs.getD k 0 := by
  rw [take_snoc zs k h, val_snoc, List.length_take, Nat.min_eq_left (by omega)]
theorem val_take_all (zs : List Nat) (k : Nat) (h : zs.length ≤ k) : zs.take k = zs := List.take_of_length_le h
/-- The digit at a place, 0 beyond the end: the value of the first digits goes on by it. -/
theorem val_take' (zs : List Nat) (k : Nat) : val (zs.take (k + 1)) = val (zs.take k) + 65536 ^ k * zs.getD k 0 := by
  by_cases h : k < zs.length
  · exact val_take zs k h
  · rw [val_take_all zs k (by omega), val_take_all zs (k + 1) (by omega), List.getD_eq_getElem?_getD, List.getElem?_eq_none (by omega)]
    simp
/-- Is one row less than another one? (the document's way) -/
def lessB (a b : List Nat) : Bool := if a.length ≠ b.length then decide (a.length < b.length) else decide (val a < val b)
theorem dg_length_lt (x y : Nat) (h : (dg x).length < (dg y).length) : x < y := by
  have h1 := val_lt (dg x) (small_dg x)
  rw [val_dg] at h1
  refine Nat.lt_of_not_le fun hle => ?_
  have h2 : (dg y).length ≤ (dg x).length := dg_length _ _ (Nat.lt_of_le_of_lt hle h1)
  omega
theorem less_dg (x y : Nat) : lessB (dg x) (dg y) = decide (x < y) := by
  unfold lessB
  by_cases h : (dg x).length = (dg y).length
  · rw [if_neg (by simpa using h), val_dg, val_dg]
  · rw [if_pos h]
    by_cases hl : (dg x).length < (dg y).length
    · have := dg_length_lt x y hl
      simp [hl, this]
    · have := dg_length_lt y x (by omega)
      simp [hl]; omega
/-- Two rows of one length that are alike from place k + 1 on, and unlike at k. -/
theorem less_at (a b : List Nat) (k : Nat) (ha : Small a) (hb : Small b) (hl : a.length = b.length) (hk : k < a.length) (ht : a.drop (k + 1) = b.drop (k + 1)) (hne : a.getD k 0 ≠ b.getD k 0) :
    decide (val a < val b) = decide (a.getD k 0 < b.getD k 0) := by
  have ea : val a = val (a.take k) + 65536 ^ k * (a.getD k 0 + 65536 * val (a.drop (k + 1))) := by
    conv => lhs; rw [← List.take_append_drop k a]
    rw [val_append, List.length_take, Nat.min_eq_left (by omega), List.drop_eq_getElem_cons hk, val, List.getD_eq_getElem?_getD, List.getElem?_eq_getElem hk]
    rfl
  have eb : val b = val (b.take k) + 65536 ^ k * (b.getD k 0 + 65536 * val (b.drop (k + 1))) := by
    conv => lhs; rw [← List.take_append_drop k b]
    rw [val_append, List.length_take, Nat.min_eq_left (by omega), List.drop_eq_getElem_cons (by omega), val, List.getD_eq_getElem?_getD, List.getElem?_eq_getElem (by omega)]
    rfl
  have la := val_lt (a.take k) (small_take ha k)
  have lb := val_lt (b.take k) (small_take hb k)
  rw [List.length_take, Nat.min_eq_left (by omega)] at la lb
  rw [ea, eb, ht]
  generalize val (a.take k) = p at *
  generalize val (b.take k) = q at *
  generalize val (b.drop (k + 1)) = t at *
  generalize a.getD k 0 = x at *
  generalize b.getD k 0 = y at *
  generalize 65536 ^ k = M at *
  rw [Bool.eq_iff_iff, decide_eq_true_iff, decide_eq_true_iff]
  constructor
  · intro h
    refine Nat.lt_of_not_le fun hle => ?_
    have h1 : y + 1 ≤ x := by omega
    have h2 := Nat.mul_le_mul_left M (show y + 65536 * t + 1 ≤ x + 65536 * t by omega)
    rw [Nat.mul_add] at h2
    omega
  · intro h
    have h2 := Nat.mul_le_mul_left M (show x + 65536 * t + 1 ≤ y + 65536 * t by omega)
    rw [Nat.mul_add] at h2
    omega
end Go.Proofs.YtbjabclgekkpaaaGreatDoor
namespace Go.Proofs.YtbjabclgekkpaaaGreatDoor
open Go.RowKit Go.Shelf
/-- The live cells of a row of digits. -/
def Row (a : Option Addr) (zs : List Nat) (w : World) : Prop :=
  zs = [] ∨ ∃ b off : Nat, a = some ⟨b, off, none⟩ ∧ b < w.heap.size ∧ ∀ i, i < zs.length → w.cell? ⟨b, off + i, none⟩ = some (.int .i64 (zs.getD i 0 : Nat))
theorem Row.below {a : Option Addr} {zs : List Nat} {w w' : World} (h : Row a zs w) {B : Nat} (hb : Below B w w') (hB : w.heap.size ≤ B) : Row a zs w' := by
  rcases h with h | ⟨b, off, ha, hlt, hc⟩
  · exact Or.inl h
  · refine Or.inr ⟨b, off, ha, Nat.lt_of_lt_of_le hlt hb.size, fun i hi => ?_⟩
    rw [hb.cell (p := ⟨b, off + i, none⟩) (Nat.lt_of_lt_of_le hlt hB)]
    exact hc i hi
theorem Row.pos {a : Option Addr} {zs : List Nat} {w : World} (h : Row a zs w) {k : Nat} (hk : k < zs.length) :
    ∃ b off : Nat, a = some ⟨b, off, none⟩ ∧ b < w.heap.size ∧ ∀ i, i < zs.length → w.cell? ⟨b, off + i, none⟩ = some (.int .i64 (zs.getD i 0 : Nat)) := by
  rcases h with h | h
  · subst h; simp at hk
  · exact h
theorem Row.take {a : Option Addr} {zs : List Nat} {w : World} (h : Row a zs w) (n : Nat) : Row a (zs.take n) w := by
  rcases h with h | ⟨b, off, ha, hlt, hc⟩
  · subst h; left; simp
  · refine Or.inr ⟨b, off, ha, hlt, fun i hi => ?_⟩
    rw [List.length_take] at hi
    rw [hc i (by omega), List.getD_eq_getElem?_getD, List.getD_eq_getElem?_getD, List.getElem?_take, if_pos (by omega)]
theorem trim_prefix (zs : List Nat) : trimL zs = zs.take (trimL zs).length := by
  induction zs with
  | nil => rfl
  | cons d r ih =>
    rw [trimL]
    split
    · rfl
    · rw [List.length_cons, List.take_succ_cons, ← ih]
theorem trim_length (zs : List Nat) : (trimL zs).length ≤ zs.length := by
  have h := congrArg List.length (trim_prefix zs)
  rw [List.length_take] at h
  omega
theorem Row.trim {a : Option Addr} {zs : List Nat} {w : World} (h : Row a zs w) : Row a (trimL zs) w := by
  rw [trim_prefix]; exact h.take _
theorem drew_two (w : World) (a b : Nat) : (w.drewN a).drewN b = w.drewN (a + b) := by simp [World.drewN, Nat.add_assoc]
def lenOf : Value → Nat
  | .slice _ n _ => n
  | _ => 0
set_option maxHeartbeats 1000000 in
theorem trim_any (a : Option Addr) (zs : List Nat) (cap : Nat) (w : World) (hl : zs.length ≤ cap) (hm : cap ≤ 9223372036854775807) (h : Row a zs w) :
    Calls Tryz.prog 120 #[.slice a zs.length cap] w fun e w' => e = .returned (.slice a (trimL zs).length cap) ∧ w = w' := by
  have HI := Lib.hid h
  clear h
  go_enter Tryz.func120, Tryz.ntmps120
  go_wp2
  go_loop [0] (fun d => ∃ n : Nat, n ≤ zs.length ∧ d = .slice a n cap ∧ Hid (trimL (zs.take n) = trimL zs)) (fun d => lenOf d)
  case atStart => exact ⟨zs.length, Nat.le_refl _, rfl, by unfold Hid; rw [List.take_length]⟩
  case round =>
    obtain ⟨n, hn, rfl, ht⟩ := hrel
    rcases Nat.eq_zero_or_pos n with rfl | hp
    · go_wp2
      go_ret
      have e := ht.out
      rw [List.take_zero, trimL] at e
      exact ⟨by rw [← e]; rfl, rfl⟩
    · obtain ⟨k, rfl⟩ : ∃ k, n = k + 1 := ⟨n - 1, by omega⟩
      obtain ⟨b, off, rfl, hbl, hc⟩ := HI.out.pos (k := k) (by omega)
      have hcell := hc k (by omega)
      have HS := Lib.hid (take_snoc zs k (by omega))
      clear hc
      generalize zs.getD k 0 = z at *
      by_cases hz : z = 0
      · subst hz
        go_wp2
        go_round
        case rel => exact ⟨k, by omega, rfl, by unfold Hid; rw [← ht.out, HS.out, trim_snoc_zero]⟩
        case measure => simp [lenOf]
      · have hz' : ((z : Int) == 0) = false := by rw [beq_eq_false_iff_ne]; omega
        go_wp2
        go_ret
        have e := ht.out
        rw [HS.out, trim_snoc_pos _ _ hz] at e
        refine ⟨?_, rfl⟩
        rw [← e, List.length_append, List.length_take, Nat.min_eq_left (by omega)]
        rfl
theorem drop_alike (xs ys : List Nat) (k : Nat) (hx : k < xs.length) (hy : k < ys.length) (h : xs.drop (k + 1) = ys.drop (k + 1)) (e : xs.getD k 0 = ys.getD k 0) : xs.drop k = ys.drop k := by
  rw [List.drop_eq_getElem_cons hx, List.drop_eq_getElem_cons hy, h]
  rw [List.getD_eq_getElem?_getD, List.getElem?_eq_getElem hx, List.getD_eq_getElem?_getD, List.getElem?_eq_getElem hy] at e
  simp at e
  rw [e]
set_option maxHeartbeats 1000000 in
theorem less_any (a b : Option Addr) (xs ys : List Nat) (c1 c2 : Nat) (w : World) (hx : Small xs) (hy : Small ys) (l1 : xs.length ≤ 9223372036854775807) (h1 : Row a xs w) (h2 : Row b ys w) :
    Calls Tryz.prog 158 #[.slice a xs.length c1, .slice b ys.length c2] w fun e w' => e = .returned (.bool (lessB xs ys)) ∧ ∃ n, w' = w.drewN n := by
  by_cases hl : xs.length = ys.length
  · have HE := Lib.hid (show lessB xs ys = decide (val xs < val ys) by unfold lessB; rw [if_neg (by simpa using hl)])
    have HL := Lib.hid hl
    have HX := Lib.hid hx
    have HY := Lib.hid hy
    have H1 := Lib.hid h1
    have H2 := Lib.hid h2
    rw [← hl]
    clear hl hx hy h1 h2
    go_enter Tryz.func158, Tryz.ntmps158
    go_wp2
    go_loopw [5] (fun i wr => ∃ k n : Nat, k ≤ xs.length ∧ i = .int .i64 ((k : Int) - 1) ∧ wr = w.drewN n ∧ Hid (xs.drop k = ys.drop k)) (fun i _ => (intOf i + 1).toNat)
    case atStart => exact ⟨xs.length, 0, Nat.le_refl _, rfl, rfl, by unfold Hid; rw [List.drop_length, HL.out, List.drop_length]⟩
    case round =>
      obtain ⟨k, n, hk, rfl, rfl, hd⟩ := hrel
      rcases Nat.eq_zero_or_pos k with rfl | hp
      · go_wp2
        go_ret
        refine ⟨?_, n, rfl⟩
        have e := hd.out
        rw [List.drop_zero, List.drop_zero] at e
        rw [HE.out, e]
        simp
      · obtain ⟨m, rfl⟩ : ∃ m, k = m + 1 := ⟨k - 1, by omega⟩
        obtain ⟨b1, o1, rfl, q1, hc1⟩ := H1.out.pos (k := m) (by omega)
        obtain ⟨b2, o2, rfl, q2, hc2⟩ := H2.out.pos (k := m) (by have := HL.out; omega)
        have g1 := hc1 m (by omega)
        have g2 := hc2 m (by have := HL.out; omega)
        have HA := Lib.hid (fun hne => less_at xs ys m HX.out HY.out HL.out (by omega) hd.out hne)
        have HB := Lib.hid (fun e => drop_alike xs ys m (by omega) (by have := HL.out; omega) hd.out e)
        clear hc1 hc2
        generalize xs.getD m 0 = x at *
        generalize ys.getD m 0 = y at *
        by_cases hxy : x = y
        · subst hxy
          have HBx := Lib.hid (HB.out rfl)
          clear HB HA
          go_wp2
          go_quiet (fail)
          go_wp2
          go_roundw
          case rel => exact ⟨m, _, by omega, rfl, rfl, HBx⟩
          case measure => simp [intOf]
        · have t1 : ((x : Int) != y) = true := by rw [bne_iff_ne]; omega
          have t2 : ((x : Int) == y) = false := by rw [beq_eq_false_iff_ne]; omega
          have HR := Lib.hid (HE.out.trans (HA.out hxy))
          go_wp2
          go_quiet (fail)
          go_wp2
          go_quiet (fail)
          go_wp2
          go_ret
          exact ⟨by rw [HR.out]; simp, _, (congrArg (World.drewN · _) (drew_two _ _ _)).trans (drew_two _ _ _)⟩
  · have HE := Lib.hid (show lessB xs ys = decide (xs.length < ys.length) by unfold lessB; rw [if_pos hl])
    have t1 : ((xs.length : Int) != ys.length) = true := by rw [bne_iff_ne]; omega
    have t2 : ((xs.length : Int) == ys.length) = false := by rw [beq_eq_false_iff_ne]; omega
    clear hx hy h1 h2
    go_enter Tryz.func158, Tryz.ntmps158
    go_wp2
    go_ret
    exact ⟨by rw [HE.out]; simp, 0, rfl⟩
end Go.Proofs.YtbjabclgekkpaaaGreatDoor
namespace Go.Proofs.YtbjabclgekkpaaaGreatDoor
open Go.RowKit Go.Shelf
theorem info_int : (Tryz.prog.info? 3).map (fun i => (i.zero, i.size, i.bytes)) = some (some (.int .i64 0), 1, 8) := by kernel_rfl
/-- One number appended to a row of the call's own. -/
theorem append_digit {ops : Array Oper} {rest : List Oper} {o : Oper} {a : Act} {Q : Exit → Act → World → Prop} (w : World) (hgd : o.guard = none) (s x : Operand)
    (ho : o.op = .call { callee := .builtin .append, args := #[s, x], argTypes := #[129, 129] }) {B k : Nat} {v : Value} {os : List Value} (d : Int) (hown : w.ownsRow B 3 1 v k os) (hs : a.eval s = v)
    (hx : a.eval x = .slice (some ⟨w.heap.size, 0, none⟩) 1 1) (hk : k ≤ 1000000000) (hB : B ≤ w.heap.size)
    (h : ∀ v' w', w'.ownsRow B 3 1 v' (k + 1) (os ++ [.int .i64 d]) → Below B w w' → wpList Tryz.prog ops Q rest (a.put o.dst v') w') :
    wpList Tryz.prog ops Q (o :: rest) a (w.alloc (.cells #[.int .i64 d] 3)) := by
  obtain ⟨i0, hi, hz0, hz1, hz2⟩ := info_parts info_int
  refine wpList_append_own _ hgd s x 129 ho B 3 i0 (.int .i64 0) 1 8 Tryz.underlying129 hi hz0 hz1 hz2 rfl (by decide) v k os hs (hown.alloc _) ⟨w.heap.size, 0, none⟩ 1 1 [.int .i64 d] hx rfl ?_ ?_ ?_ ?_ ?_ ?_
  · intro j u hj
    match j, hj with
    | 0, hj => simp at hj; subst hj; simp [Addr.add]
  · intro u hu; simp at hu; subst hu; rfl
  · unfold maxLen; omega
  · omega
  · simp; omega
  · intro v' w' hown' hg _
    refine h v' w' hown' ?_
    refine ((Below.refl B w).alloc hB _).grown hg (by simp; omega) ?_
    intro q hq
    exact (hown.lt q hq).1
/-- The digits as they lie in cells. -/
def cellsN (zs : List Nat) : List Value := zs.map fun (z : Nat) => Value.int .i64 (z : Int)
theorem cellsN_snoc (zs : List Nat) (d : Nat) : cellsN (zs ++ [d]) = cellsN zs ++ [.int .i64 (d : Int)] := by simp [cellsN]
/-- A row of the call's own, read. -/
theorem row_of_own {w : World} {B : Nat} {v : Value} {zs : List Nat} (h : w.ownsRow B 3 1 v zs.length (cellsN zs)) :
    ∃ a cap, v = .slice a zs.length cap ∧ Row a zs w ∧ zs.length ≤ cap ∧ cap ≤ maxLen := by
  rcases h.2 with ⟨rfl, h0⟩ | ⟨g, cap, cur, rfl, hB, hh, hn, hm, hs, ht⟩
  · have : zs = [] := List.length_eq_zero_iff.1 h0
    subst this
    exact ⟨none, 0, rfl, Or.inl rfl, Nat.le_refl _, by simp⟩
  · refine ⟨_, cap, rfl, Or.inr ⟨g, 0, rfl, (Array.getElem?_eq_some_iff.1 hh).1, fun i hi => ?_⟩, hn, hm⟩
    have hc : (cellsN zs)[i]? = some (.int .i64 (zs.getD i 0 : Nat)) := by simp [cellsN, List.getElem?_eq_getElem hi, List.getD]
    have := h.cells (g := g) rfl i _ hc
    by_cases h0 : i = 0
    · subst h0; simpa [Addr.add] using this
    · simpa [Addr.add, h0] using this
/-- What a call leaves that answers the row of a number. -/
def GivesRow (z : Nat) (w : World) (e : Ending) (w' : World) : Prop :=
  ∃ a cap, e = .returned (.slice a (dg z).length cap) ∧ Row a (dg z) w' ∧ (dg z).length ≤ cap ∧ cap ≤ maxLen ∧ Below w.heap.size w w'
theorem plus_step (os xs ys : List Nat) (k cy s : Nat) (hl : os.length = k) (h : val os + 65536 ^ k * cy = val (xs.take k) + val (ys.take k)) (hs : s = cy + xs.getD k 0 + ys.getD k 0) :
    val (os ++ [s % 65536]) + 65536 ^ (k + 1) * (s / 65536) = val (xs.take (k + 1)) + val (ys.take (k + 1)) := by
  rw [val_snoc, val_take', val_take', hl, Nat.pow_succ]
  have e : 65536 ^ k * s = 65536 ^ k * (s % 65536) + 65536 ^ k * 65536 * (s / 65536) := by
    rw [Nat.mul_assoc, ← Nat.mul_add, Nat.mod_add_div]
  have e2 : 65536 ^ k * s = 65536 ^ k * cy + 65536 ^ k * xs.getD k 0 + 65536 ^ k * ys.getD k 0 := by rw [hs, Nat.mul_add, Nat.mul_add]
  generalize 65536 ^ k * 65536 * (s / 65536) = p1 at *
  generalize 65536 ^ k * (s % 65536) = p2 at *
  generalize 65536 ^ k * s = p3 at *
  generalize 65536 ^ k * cy = p4 at *
  generalize 65536 ^ k * xs.getD k 0 = p5 at *
  generalize 65536 ^ k * ys.getD k 0 = p6 at *
  omega
theorem getD_past (zs : List Nat) (k : Nat) (h : ¬ k < zs.length) : zs.getD k 0 = 0 := by
  rw [List.getD_eq_getElem?_getD, List.getElem?_eq_none (by omega)]; rfl
theorem small_nil : Small [] := fun _ hz => nomatch hz
/-- What plus' loop keeps. -/
def PlusInv (xs ys : List Nat) (B : Nat) (w : World) (v c i : Value) (wr : World) : Prop :=
  ∃ (k cy : Nat) (os : List Nat), i = .int .i64 (k : Int) ∧ c = .int .i64 (cy : Int) ∧ os.length = k ∧ Small os ∧ cy ≤ 1 ∧ wr.ownsRow B 3 1 v k (cellsN os) ∧ Below B w wr ∧
    val os + 65536 ^ k * cy = val (xs.take k) + val (ys.take k) ∧ (k ≤ max xs.length ys.length ∨ k = max xs.length ys.length + 1 ∧ cy = 0)
theorem plus_next (xs ys os : List Nat) (B : Nat) (w wr w1 : World) (k cy s : Nat) (t : Int) (v' : Value) (hx : Small xs) (hy : Small ys) (hl : os.length = k) (ho : Small os) (hc : cy ≤ 1)
    (hb : Below B w wr) (hv : val os + 65536 ^ k * cy = val (xs.take k) + val (ys.take k)) (hk : k ≤ max xs.length ys.length ∨ k = max xs.length ys.length + 1 ∧ cy = 0)
    (hs : s = cy + xs.getD k 0 + ys.getD k 0) (ht : t = (s : Int))
    (hown : w1.ownsRow B 3 1 v' (k + 1) (cellsN os ++ [.int .i64 (t % 65536)])) (hb1 : Below B wr w1) (hgo : k < xs.length ∨ k < ys.length ∨ cy = 1) :
    PlusInv xs ys B w v' (.int .i64 (t / 65536)) (.int .i64 ((k : Int) + 1)) w1 := by
  subst ht
  have g1 := small_get hx k
  have g2 := small_get hy k
  refine ⟨k + 1, s / 65536, os ++ [s % 65536], by rw [show (k : Int) + 1 = ((k + 1 : Nat) : Int) from by omega], rfl, by simp [hl], small_snoc ho (by omega), by omega, by rw [cellsN_snoc]; exact hown, hb.trans hb1, plus_step os xs ys k cy s hl hv hs, ?_⟩
  by_cases h1 : k < xs.length
  · left; omega
  · by_cases h2 : k < ys.length
    · left; omega
    · rw [getD_past xs k h1, getD_past ys k h2] at hs
      right; omega
def natOf : Value → Nat
  | .int _ n => n.toNat
  | _ => 0
/-- The end of plus: the row without its noughts ahead. -/
theorem own_trims {w wr : World} {B : Nat} {v : Value} {os : List Nat} (hown : wr.ownsRow B 3 1 v os.length (cellsN os)) (hs : Small os) (hb : Below B w wr) (hB : B = w.heap.size) :
    ∃ a cap, v = .slice a os.length cap ∧ (Calls Tryz.prog 120 #[.slice a os.length cap] wr fun e w' => e = .returned (.slice a (dg (val os)).length cap) ∧ wr = w') ∧
      ∀ e, e = Ending.returned (.slice a (dg (val os)).length cap) → GivesRow (val os) w e wr := by
  obtain ⟨a, cap, rfl, hr, hl, hm⟩ := row_of_own hown
  have t := trim_any a os cap wr hl (by unfold maxLen at hm; omega) hr
  have hr' := hr.trim
  have hl' := trim_length os
  rw [trim_dg os hs] at t hr' hl'
  subst hB
  exact ⟨a, cap, rfl, t, fun e he => ⟨a, cap, he, hr', by omega, hm, hb⟩⟩
set_option maxHeartbeats 2000000 in
theorem plus_any (x y : Nat) (a b : Option Addr) (c1 c2 : Nat) (w : World) (l1 : (dg x).length ≤ 100000000) (l2 : (dg y).length ≤ 100000000) (h1 : Row a (dg x) w) (h2 : Row b (dg y) w) :
    Calls Tryz.prog 157 #[.slice a (dg x).length c1, .slice b (dg y).length c2] w (GivesRow (x + y) w) := by
  have HV := Lib.hid (And.intro (val_dg x) (val_dg y))
  have HX := Lib.hid (small_dg x)
  have HY := Lib.hid (small_dg y)
  have H1 := Lib.hid h1
  have H2 := Lib.hid h2
  clear h1 h2
  generalize dg x = xs at *
  generalize dg y = ys at *
  go_enter Tryz.func157, Tryz.ntmps157
  go_wp2_with fail
  go_loopw [5, 6, 7] (fun v c i wr => PlusInv xs ys w.heap.size w v c i wr) (fun _ _ i _ => xs.length + ys.length + 1 - natOf i)
  case atStart => exact ⟨0, 0, [], rfl, rfl, rfl, small_nil, by omega, World.ownsRow_nil _ _ _ _, Below.refl _ _, by simp [val], by left; omega⟩
  case round =>
    obtain ⟨k, cy, os, rfl, rfl, hl, hs, hc, hown, hb, hv, hk⟩ := hrel
    have HNX := Lib.hid (fun s t v' w1 => plus_next xs ys os w.heap.size w wr w1 k cy s t v' HX.out HY.out hl hs hc hb hv hk)
    have HL := Lib.hid hl
    have HV2 := Lib.hid hv
    have HK := Lib.hid hk
    have kb : k ≤ 200000001 := by omega
    have hsz := hb.size
    have HO := Lib.hid hown
    have HB := Lib.hid hb
    have HS := Lib.hid hs
    clear hl hv hown hb hk hs
    have i2 : (cy : Int) ≤ 1 := by omega
    by_cases g1 : k < xs.length
    · obtain ⟨b1, o1, rfl, q1, hc1⟩ := (H1.out.below HB.out (Nat.le_refl _)).pos g1
      have e1 := hc1 k g1
      have s1 := small_get HX.out k
      clear hc1
      by_cases g2 : k < ys.length
      · obtain ⟨b2, o2, rfl, q2, hc2⟩ := (H2.out.below HB.out (Nat.le_refl _)).pos g2
        have e2 := hc2 k g2
        have s2 := small_get HY.out k
        clear hc2
        generalize xs.getD k 0 = p at *
        generalize ys.getD k 0 = q at *
        have i1 : (p : Int) ≤ 65535 := by omega
        have i3 : (q : Int) ≤ 65535 := by omega
        go_wp2_with (first | (at_builtin; refine append_digit _ rfl (.tmp 46) (.tmp 49) rfl _ HO.out rfl rfl (by omega) (by omega) ?_; intro v' w1 hown' hb'))
        go_roundw
        case rel => exact HNX.out (cy + p + q) _ _ _ rfl (by omega) hown' hb' (Or.inl g1)
        case measure => simp [natOf]; omega
      · have s2 := Lib.hid (getD_past ys k g2)
        generalize xs.getD k 0 = p at *
        have i1 : (p : Int) ≤ 65535 := by omega
        go_wp2_with (first | (at_builtin; refine append_digit _ rfl (.tmp 46) (.tmp 49) rfl _ HO.out rfl rfl (by omega) (by omega) ?_; intro v' w1 hown' hb'))
        go_roundw
        case rel => exact HNX.out (cy + p) _ _ _ (by rw [s2.out]; rfl) (by omega) hown' hb' (Or.inl g1)
        case measure => simp [natOf]; omega
    · have s1 := Lib.hid (getD_past xs k g1)
      by_cases g2 : k < ys.length
      · obtain ⟨b2, o2, rfl, q2, hc2⟩ := (H2.out.below HB.out (Nat.le_refl _)).pos g2
        have e2 := hc2 k g2
        have s2 := small_get HY.out k
        clear hc2
        generalize ys.getD k 0 = q at *
        have i3 : (q : Int) ≤ 65535 := by omega
        go_wp2_with (first | (at_builtin; refine append_digit _ rfl (.tmp 46) (.tmp 49) rfl _ HO.out rfl rfl (by omega) (by omega) ?_; intro v' w1 hown' hb'))
        go_roundw
        case rel => exact HNX.out (cy + q) _ _ _ (by rw [s1.out]; rfl) (by omega) hown' hb' (Or.inr (Or.inl g2))
        case measure => simp [natOf]; omega
      · have s2 := Lib.hid (getD_past ys k g2)
        by_cases gc : cy = 1
        · subst gc
          have kb2 : k ≤ xs.length + ys.length := by have := HK.out; omega
          go_wp2_with (first | (at_builtin; refine append_digit _ rfl (.tmp 46) (.tmp 49) rfl _ HO.out rfl rfl (by omega) (by omega) ?_; intro v' w1 hown' hb'))
          go_roundw
          case rel => exact HNX.out 1 1 v' w1 (by rw [s1.out, s2.out]) rfl hown' hb' (Or.inr (Or.inr rfl))
          case measure => simp [natOf]; omega
        · obtain rfl : cy = 0 := by omega
          have hl := HL.out
          subst hl
          obtain ⟨a', cap', rfl, t, fin⟩ := own_trims HO.out HS.out HB.out rfl
          have ev : val os = x + y := by
            have := HV2.out
            rw [val_take_all xs _ (by omega), val_take_all ys _ (by omega), HV.out.1, HV.out.2] at this
            omega
          rw [ev] at t fin
          have T := Lib.hid t
          have FIN := Lib.hid fin
          clear t fin ev
          go_wp2_with fail
          refine T.out.mono ?_
          rintro e w1 ⟨rfl, rfl⟩
          go_wp2_with fail
          go_ret
          exact FIN.out _ rfl
end Go.Proofs.YtbjabclgekkpaaaGreatDoor
namespace Go.Proofs.YtbjabclgekkpaaaGreatDoor
open Go.RowKit Go.Shelf
theorem minus_step (os xs ys : List Nat) (k br d br' : Nat) (hl : os.length = k) (h : val os + val (ys.take k) = val (xs.take k) + 65536 ^ k * br) (hd : d + ys.getD k 0 + br = xs.getD k 0 + 65536 * br') :
    val (os ++ [d]) + val (ys.take (k + 1)) = val (xs.take (k + 1)) + 65536 ^ (k + 1) * br' := by
  rw [val_snoc, val_take', val_take', hl, Nat.pow_succ]
  have e := congrArg (65536 ^ k * ·) hd
  simp only [Nat.mul_add, ← Nat.mul_assoc] at e
  omega
/-- What minus' loop keeps. -/
def MinusInv (xs ys : List Nat) (B : Nat) (w : World) (v c i : Value) (wr : World) : Prop :=
  ∃ (k br : Nat) (os : List Nat), i = .int .i64 (k : Int) ∧ c = .int .i64 (br : Int) ∧ os.length = k ∧ Small os ∧ br ≤ 1 ∧ wr.ownsRow B 3 1 v k (cellsN os) ∧ Below B w wr ∧
    val os + val (ys.take k) = val (xs.take k) + 65536 ^ k * br ∧ k ≤ xs.length
theorem minus_next (xs ys os : List Nat) (B : Nat) (w wr w1 : World) (k br : Nat) (d br' : Nat) (dI bI : Int) (v' : Value) (hl : os.length = k) (ho : Small os)
    (hb : Below B w wr) (hv : val os + val (ys.take k) = val (xs.take k) + 65536 ^ k * br) (hk : k < xs.length)
    (hd : d + ys.getD k 0 + br = xs.getD k 0 + 65536 * br') (hd2 : d < 65536) (hb2 : br' ≤ 1) (e1 : dI = (d : Int)) (e2 : bI = (br' : Int))
    (hown : w1.ownsRow B 3 1 v' (k + 1) (cellsN os ++ [.int .i64 dI])) (hb1 : Below B wr w1) :
    MinusInv xs ys B w v' (.int .i64 bI) (.int .i64 ((k : Int) + 1)) w1 := by
  subst e1 e2
  exact ⟨k + 1, br', os ++ [d], by rw [show (k : Int) + 1 = ((k + 1 : Nat) : Int) from by omega], rfl, by simp [hl], small_snoc ho hd2, hb2, by rw [cellsN_snoc]; exact hown, hb.trans hb1, minus_step os xs ys k br d br' hl hv hd, by omega⟩
theorem minus_end (os : List Nat) (x y n br : Nat) (hl : os.length = n) (hs : Small os) (hb : br ≤ 1) (h : val os + y = x + 65536 ^ n * br) (hxy : y ≤ x) : val os = x - y := by
  have := val_lt os hs
  rw [hl] at this
  rcases Nat.eq_zero_or_pos br with rfl | hp
  · omega
  · obtain rfl : br = 1 := by omega
    omega
theorem dg_length_le (x y : Nat) (h : y ≤ x) : (dg y).length ≤ (dg x).length := by
  have h1 := val_lt (dg x) (small_dg x)
  rw [val_dg] at h1
  exact dg_length _ _ (by omega)
set_option maxHeartbeats 2000000 in
theorem minus_any (x y : Nat) (a b : Option Addr) (c1 c2 : Nat) (w : World) (hxy : y ≤ x) (l1 : (dg x).length ≤ 100000000) (h1 : Row a (dg x) w) (h2 : Row b (dg y) w) :
    Calls Tryz.prog 159 #[.slice a (dg x).length c1, .slice b (dg y).length c2] w (GivesRow (x - y) w) := by
  have HV := Lib.hid (And.intro (val_dg x) (val_dg y))
  have HX := Lib.hid (small_dg x)
  have HY := Lib.hid (small_dg y)
  have H1 := Lib.hid h1
  have H2 := Lib.hid h2
  have HXY := Lib.hid hxy
  have l2 := dg_length_le x y hxy
  clear h1 h2 hxy
  generalize dg x = xs at *
  generalize dg y = ys at *
  go_enter Tryz.func159, Tryz.ntmps159
  go_wp2_with fail
  go_loopw [5, 6, 7] (fun v c i wr => MinusInv xs ys w.heap.size w v c i wr) (fun _ _ i _ => xs.length - natOf i)
  case atStart => exact ⟨0, 0, [], rfl, rfl, rfl, small_nil, by omega, World.ownsRow_nil _ _ _ _, Below.refl _ _, by simp [val], by omega⟩
  case round =>
    obtain ⟨k, br, os, rfl, rfl, hl, hs, hc, hown, hb, hv, hk⟩ := hrel
    have HNX := Lib.hid (fun d br' dI bI v' w1 hk' => minus_next xs ys os w.heap.size w wr w1 k br d br' dI bI v' hl hs hb hv hk')
    have HL := Lib.hid hl
    have HV2 := Lib.hid hv
    have hsz := hb.size
    have HO := Lib.hid hown
    have HB := Lib.hid hb
    have HS := Lib.hid hs
    clear hl hv hown hb hs
    have i2 : (br : Int) ≤ 1 := by omega
    by_cases g1 : k < xs.length
    · obtain ⟨b1, o1, rfl, q1, hc1⟩ := (H1.out.below HB.out (Nat.le_refl _)).pos g1
      have e1 := hc1 k g1
      have s1 := small_get HX.out k
      clear hc1
      by_cases g2 : k < ys.length
      · obtain ⟨b2, o2, rfl, q2, hc2⟩ := (H2.out.below HB.out (Nat.le_refl _)).pos g2
        have e2 := hc2 k g2
        have s2 := small_get HY.out k
        clear hc2
        generalize xs.getD k 0 = p at *
        generalize ys.getD k 0 = q at *
        have i1 : (p : Int) ≤ 65535 := by omega
        have i3 : (q : Int) ≤ 65535 := by omega
        by_cases neg : (p : Int) - br - q < 0
        · go_wp2_with (first | (at_builtin; refine append_digit _ rfl (.tmp 35) (.tmp 37) rfl _ HO.out rfl rfl (by omega) (by omega) ?_; intro v' w1 hown' hb'))
          go_roundw
          case rel => exact HNX.out (p + 65536 - br - q) 1 _ _ _ _ g1 (by omega) (by omega) (by omega) (by omega) rfl hown' hb'
          case measure => simp [natOf]; omega
        · go_wp2_with (first | (at_builtin; refine append_digit _ rfl (.tmp 35) (.tmp 37) rfl _ HO.out rfl rfl (by omega) (by omega) ?_; intro v' w1 hown' hb'))
          go_roundw
          case rel => exact HNX.out (p - br - q) 0 _ _ _ _ g1 (by omega) (by omega) (by omega) (by omega) rfl hown' hb'
          case measure => simp [natOf]; omega
      · have s2 := Lib.hid (getD_past ys k g2)
        generalize xs.getD k 0 = p at *
        have i1 : (p : Int) ≤ 65535 := by omega
        by_cases neg : (p : Int) - br < 0
        · go_wp2_with (first | (at_builtin; refine append_digit _ rfl (.tmp 35) (.tmp 37) rfl _ HO.out rfl rfl (by omega) (by omega) ?_; intro v' w1 hown' hb'))
          go_roundw
          case rel => exact HNX.out (p + 65536 - br) 1 _ _ _ _ g1 (by rw [s2.out]; omega) (by omega) (by omega) (by omega) rfl hown' hb'
          case measure => simp [natOf]; omega
        · go_wp2_with (first | (at_builtin; refine append_digit _ rfl (.tmp 35) (.tmp 37) rfl _ HO.out rfl rfl (by omega) (by omega) ?_; intro v' w1 hown' hb'))
          go_roundw
          case rel => exact HNX.out (p - br) 0 _ _ _ _ g1 (by rw [s2.out]; omega) (by omega) (by omega) (by omega) rfl hown' hb'
          case measure => simp [natOf]; omega
    · have hl := HL.out
      subst hl
      obtain ⟨a', cap', rfl, t, fin⟩ := own_trims HO.out HS.out HB.out rfl
      have ev : val os = x - y := by
        have := HV2.out
        rw [val_take_all xs _ (by omega), val_take_all ys _ (by omega), HV.out.1, HV.out.2] at this
        exact minus_end os x y _ br rfl HS.out hc this HXY.out
      rw [ev] at t fin
      have T := Lib.hid t
      have FIN := Lib.hid fin
      clear t fin ev
      go_wp2_with fail
      refine T.out.mono ?_
      rintro e w1 ⟨rfl, rfl⟩
      go_wp2_with fail
      go_ret
      exact FIN.out _ rfl
end Go.Proofs.YtbjabclgekkpaaaGreatDoor
namespace Go.Proofs.YtbjabclgekkpaaaGreatDoor
open Go.RowKit Go.Shelf
/-- What a call leaves that answers a sign and the row of a number. -/
def GivesNum (neg : Bool) (z : Nat) (w : World) (e : Ending) (w' : World) : Prop :=
  ∃ a cap, e = .returned (.agg #[.bool neg, .slice a (dg z).length cap]) ∧ Row a (dg z) w' ∧ (dg z).length ≤ cap ∧ cap ≤ maxLen ∧ Below w.heap.size w w'
theorem heap_put {b : Nat} {c : Array Value} {t : TypeId} {w : World} (o : Nat) (v : Value) (H : w.heap[b]? = some (.cells c t)) : (w.setCell ⟨b, o, none⟩ v).heap[b]? = some (.cells (c.setIfInBounds o v) t) := by
  simp only [World.setCell, Array.getElem?_modify, H]
  simp
/-- Block b holds a sign and a row. -/
def NumAt (b : Nat) (neg : Bool) (s : Value) (w : World) : Prop := w.heap[b]? = some (.cells #[.bool neg, s] 131)
theorem NumAt.lt {b : Nat} {neg : Bool} {s : Value} {w : World} (h : NumAt b neg s w) : b < w.heap.size := (Array.getElem?_eq_some_iff.1 h).1
theorem NumAt.c0 {b : Nat} {neg : Bool} {s : Value} {w : World} (h : NumAt b neg s w) : w.cell? ⟨b, 0, none⟩ = some (.bool neg) := by unfold NumAt at h; simp [World.cell?, h]
theorem NumAt.c1 {b : Nat} {neg : Bool} {s : Value} {w : World} (h : NumAt b neg s w) : w.cell? ⟨b, 1, none⟩ = some s := by unfold NumAt at h; simp [World.cell?, h]
theorem NumAt.z0 {b : Nat} {neg : Bool} {s : Value} {w : World} (h : NumAt b neg s w) : w.frozen? ⟨b, 0, none⟩ = false := by unfold NumAt at h; simp [World.frozen?, h]
theorem NumAt.z1 {b : Nat} {neg : Bool} {s : Value} {w : World} (h : NumAt b neg s w) : w.frozen? ⟨b, 1, none⟩ = false := by unfold NumAt at h; simp [World.frozen?, h]
theorem NumAt.new (w : World) (neg : Bool) (s : Value) : NumAt w.heap.size neg s (w.alloc (.cells #[.bool neg, s] 131)) := by
  show (w.heap.push _)[w.heap.size]? = _
  rw [Array.getElem?_push, if_pos rfl]
theorem NumAt.below {b B : Nat} {neg : Bool} {s : Value} {w w' : World} (h : NumAt b neg s w) (t : Below B w w') (hb : b < B) : NumAt b neg s w' := by
  unfold NumAt at *
  rw [t.block b hb]; exact h
theorem NumAt.alloc {b : Nat} {neg : Bool} {s : Value} {w : World} (h : NumAt b neg s w) (o : Obj) : NumAt b neg s (w.alloc o) := by
  have := h.lt
  unfold NumAt at *
  rw [Below.heap_alloc _ _ _ this]; exact h
/-- A store into both cells. -/
theorem NumAt.set {b : Nat} {neg neg' : Bool} {s s' : Value} {w : World} (h : NumAt b neg s w) : NumAt b neg' s' ((w.setCell ⟨b, 0, none⟩ (.bool neg')).setCell ⟨b, 1, none⟩ s') := heap_put 1 _ (heap_put 0 _ h)
/-- A row of digits never lies in a block that holds a sign and a slice. -/
theorem Row.far {a : Option Addr} {zs : List Nat} {w : World} {q : Nat} {neg : Bool} {x : Option Addr} {n c : Nat} (h : Row a zs w) (hq : NumAt q neg (.slice x n c) w) {neg' : Bool} {s' : Value} :
    Row a zs ((w.setCell ⟨q, 0, none⟩ (.bool neg')).setCell ⟨q, 1, none⟩ s') := by
  rcases h with h | ⟨b, off, ha, hlt, hc⟩
  · exact Or.inl h
  · by_cases hz : zs = []
    · exact Or.inl hz
    · have hne : b ≠ q := by
        rintro rfl
        have h0 := hc 0 (List.length_pos_iff.2 hz)
        unfold NumAt at hq
        simp only [World.cell?, hq] at h0
        rcases off with _ | _ | off <;> simp at h0
      refine Or.inr ⟨b, off, ha, by simpa [World.setCell] using hlt, fun i hi => ?_⟩
      rw [World.cell?_of_block (w := w) (a := ⟨b, off + i, none⟩) ((Below.heap_setCell _ _ _ _ (by exact hne)).trans (Below.heap_setCell _ _ _ _ (by exact hne)))]
      exact hc i hi
/-- What Of's loop keeps: the digits so far, and what is left. -/
def OfInv (neg : Bool) (N B : Nat) (w : World) (c v i : Value) (wr : World) : Prop :=
  ∃ (k m : Nat) (os : List Nat), i = .int .i64 (k : Int) ∧ c = .int .i64 (if neg then -(m : Int) else (m : Int)) ∧ os.length = k ∧ Small os ∧ wr.ownsRow B 3 1 v k (cellsN os) ∧ Below B w wr ∧
    val os + 65536 ^ k * m = N ∧ m ≤ N ∧ k ≤ 4
theorem of_step (os : List Nat) (k m N : Nat) (hl : os.length = k) (h : val os + 65536 ^ k * m = N) : val (os ++ [m % 65536]) + 65536 ^ (k + 1) * (m / 65536) = N := by
  rw [val_snoc, hl, Nat.pow_succ, Nat.mul_assoc, Nat.add_assoc, ← Nat.mul_add, Nat.mod_add_div]
  exact h
theorem of_next (neg : Bool) (N B : Nat) (w wr w1 : World) (k m : Nat) (os : List Nat) (dI cI : Int) (v' : Value) (hl : os.length = k) (hs : Small os) (hb : Below B w wr) (hv : val os + 65536 ^ k * m = N) (hm : m ≤ N) (hk : k < 4)
    (e1 : dI = ((m % 65536 : Nat) : Int)) (e2 : cI = if neg then -((m / 65536 : Nat) : Int) else ((m / 65536 : Nat) : Int))
    (hown : w1.ownsRow B 3 1 v' (k + 1) (cellsN os ++ [.int .i64 dI])) (hb1 : Below B wr w1) :
    OfInv neg N B w (.int .i64 cI) v' (.int .i64 ((k : Int) + 1)) w1 := by
  subst e1 e2
  exact ⟨k + 1, m / 65536, os ++ [m % 65536], by rw [show (k : Int) + 1 = ((k + 1 : Nat) : Int) from by omega], rfl, by simp [hl], small_snoc hs (by omega), by rw [cellsN_snoc]; exact hown, hb.trans hb1, of_step os k m N hl hv, by omega, by omega⟩
/-- A row of the call's own, without its noughts ahead. -/
theorem own_trims' {w wr : World} {B : Nat} {v : Value} {os : List Nat} (hown : wr.ownsRow B 3 1 v os.length (cellsN os)) (hs : Small os) (hb : Below B w wr) :
    ∃ a cap, v = .slice a os.length cap ∧ (Calls Tryz.prog 120 #[.slice a os.length cap] wr fun e w' => e = .returned (.slice a (dg (val os)).length cap) ∧ wr = w') ∧
      (Row a (dg (val os)) wr ∧ (dg (val os)).length ≤ cap ∧ cap ≤ maxLen) ∧ Below B w wr := by
  obtain ⟨a, cap, rfl, hr, hl, hm⟩ := row_of_own hown
  have t := trim_any a os cap wr hl (by unfold maxLen at hm; omega) hr
  have hr' := hr.trim
  have hl' := trim_length os
  rw [trim_dg os hs] at t hr' hl'
  exact ⟨a, cap, rfl, t, ⟨hr', by omega, hm⟩, hb⟩
theorem of_end (os : List Nat) (m N : Nat) (h : val os + 65536 ^ 4 * m = N) (hN : N ≤ 9223372036854775808) : val os = N := by
  have : m = 0 := by omega
  subst this; simpa using h
theorem of_close {w wr : World} {N : Nat} {neg : Bool} {a' : Option Addr} {cap' : Nat} {ts : Array Value} (NA : NumAt w.heap.size false (.slice none 0 0) wr)
    (HB : Below (w.heap.size + 1) (w.alloc (.cells #[.bool false, .slice none 0 0] 131)) wr) (F : Row a' (dg N) wr ∧ (dg N).length ≤ cap' ∧ cap' ≤ maxLen) (hts : ts[2]? = some (.pointer (some ⟨w.heap.size, 0, none⟩))) :
    bodyPost Tryz.prog Tryz.f69 (GivesNum neg N w) Exit.ret { tmps := ts, defers := [] } ((wr.setCell ⟨w.heap.size, 0, none⟩ (.bool neg)).setCell ⟨w.heap.size, 1, none⟩ (.slice a' (dg N).length cap')) := by
  have F1 := NA.set (neg' := neg) (s' := .slice a' (dg N).length cap')
  refine bodyPost_ret (v := .agg #[.bool neg, .slice a' (dg N).length cap']) (by simp [results, Tryz.results69, go_sem, F1.c0, F1.c1, hts]) rfl ⟨a', cap', rfl, F.1.far NA, F.2.1, F.2.2, ?_⟩
  refine Below.setCell (Below.setCell (Below.trans ((Below.refl _ _).alloc (Nat.le_refl _) _) (HB.mono (by omega))) (Nat.le_refl _) _) (Nat.le_refl _) _
set_option maxHeartbeats 2000000 in
theorem of_neg (a : Int) (w : World) (h0 : -9223372036854775808 ≤ a) (h1 : a < 0) :
    Calls Tryz.prog 69 #[.int .i64 a] w (GivesNum true a.natAbs w) := by
  have ea : a = -(a.natAbs : Int) := by omega
  have hN : a.natAbs ≤ 9223372036854775808 := by omega
  generalize a.natAbs = N at *
  subst ea
  have hneg : decide (0 < N) = true := by simp; omega
  go_enter Tryz.func69, Tryz.ntmps69
  go_wp2_with fail
  go_loopw [0, 4, 5] (fun c v i wr => OfInv true N (w.heap.size + 1) (w.alloc (.cells #[.bool false, .slice none 0 0] 131)) c v i wr) (fun _ _ i _ => 4 - natOf i)
  case atStart => exact ⟨0, N, [], rfl, by simp, rfl, small_nil, World.ownsRow_nil _ _ _ _, Below.refl _ _, by simp [val], by omega, by omega⟩
  case round =>
    obtain ⟨k, m, os, rfl, rfl, hl, hs, hown, hb, hv, hm, hk⟩ := hrel
    have HNX := Lib.hid (fun dI cI v' w1 hk' => of_next true N (w.heap.size + 1) _ wr w1 k m os dI cI v' hl hs hb hv hm hk')
    have HL := Lib.hid hl
    have HV2 := Lib.hid hv
    have hsz := hb.size
    simp at hsz
    have HO := Lib.hid hown
    have HB := Lib.hid hb
    have HS := Lib.hid hs
    clear hl hv hown hb hs
    simp only [if_true]
    by_cases g1 : k < 4
    · have i1 : (m : Int) ≤ 9223372036854775808 := by omega
      clear h0 h1 hm hN
      by_cases hd : 0 < (m : Int) % 65536
      · go_wp2_with (first | (at_builtin; refine append_digit _ rfl (.tmp 19) (.tmp 21) rfl _ HO.out rfl rfl (by omega) (by omega) ?_; intro v' w1 hown' hb'))
        go_roundw
        case rel => exact HNX.out _ _ _ _ g1 (by omega) (by simp) hown' hb'
        case measure => simp [natOf]; omega
      · go_wp2_with (first | (at_builtin; refine append_digit _ rfl (.tmp 19) (.tmp 21) rfl _ HO.out rfl rfl (by omega) (by omega) ?_; intro v' w1 hown' hb'))
        go_roundw
        case rel => exact HNX.out _ _ _ _ g1 (by omega) (by simp) hown' hb'
        case measure => simp [natOf]; omega
    · obtain rfl : k = 4 := by omega
      have hl := HL.out
      have e := of_end os m N HV2.out hN
      rw [← hl] at HO
      obtain ⟨a', cap', hu, t, fin, _⟩ := own_trims' HO.out HS.out HB.out
      subst hu
      rw [e] at t fin
      have T := Lib.hid t
      have FIN := Lib.hid fin
      clear t fin e hl
      go_wp2_with fail
      refine T.out.mono ?_
      rintro e w1 ⟨rfl, rfl⟩
      have NA := (NumAt.new w false (.slice none 0 0)).below HB.out (by omega)
      have c0 := NA.c0; have c1 := NA.c1; have z0 := NA.z0; have z1 := NA.z1
      go_wp2_with fail
      exact of_close NA HB.out FIN.out rfl
set_option maxHeartbeats 2000000 in
theorem of_pos (a : Int) (w : World) (h0 : a ≤ 9223372036854775807) (h1 : 0 ≤ a) :
    Calls Tryz.prog 69 #[.int .i64 a] w (GivesNum false a.natAbs w) := by
  have ea : a = (a.natAbs : Int) := by omega
  have hN : a.natAbs ≤ 9223372036854775808 := by omega
  generalize a.natAbs = N at *
  subst ea
  have hneg : decide ((N : Int) < 0) = false := by simp
  go_enter Tryz.func69, Tryz.ntmps69
  go_wp2_with fail
  go_loopw [0, 4, 5] (fun c v i wr => OfInv false N (w.heap.size + 1) (w.alloc (.cells #[.bool false, .slice none 0 0] 131)) c v i wr) (fun _ _ i _ => 4 - natOf i)
  case atStart => exact ⟨0, N, [], rfl, by simp, rfl, small_nil, World.ownsRow_nil _ _ _ _, Below.refl _ _, by simp [val], by omega, by omega⟩
  case round =>
    obtain ⟨k, m, os, rfl, rfl, hl, hs, hown, hb, hv, hm, hk⟩ := hrel
    have HNX := Lib.hid (fun dI cI v' w1 hk' => of_next false N (w.heap.size + 1) _ wr w1 k m os dI cI v' hl hs hb hv hm hk')
    have HL := Lib.hid hl
    have HV2 := Lib.hid hv
    have hsz := hb.size
    simp at hsz
    have HO := Lib.hid hown
    have HB := Lib.hid hb
    have HS := Lib.hid hs
    clear hl hv hown hb hs
    simp only [Bool.false_eq_true, if_false]
    by_cases g1 : k < 4
    · have i1 : (m : Int) ≤ 9223372036854775808 := by omega
      have i3 : (m : Int) ≤ 9223372036854775807 := by omega
      clear h0 h1 hm hN
      go_wp2_with (first | (at_builtin; refine append_digit _ rfl (.tmp 19) (.tmp 21) rfl _ HO.out rfl rfl (by omega) (by omega) ?_; intro v' w1 hown' hb'))
      go_roundw
      case rel => exact HNX.out _ _ _ _ g1 (by omega) (by simp) hown' hb'
      case measure => simp [natOf]; omega
    · obtain rfl : k = 4 := by omega
      have hl := HL.out
      have e := of_end os m N HV2.out hN
      rw [← hl] at HO
      obtain ⟨a', cap', hu, t, fin, _⟩ := own_trims' HO.out HS.out HB.out
      subst hu
      rw [e] at t fin
      have T := Lib.hid t
      have FIN := Lib.hid fin
      clear t fin e hl
      go_wp2_with fail
      refine T.out.mono ?_
      rintro e w1 ⟨rfl, rfl⟩
      have NA := (NumAt.new w false (.slice none 0 0)).below HB.out (by omega)
      have c0 := NA.c0; have c1 := NA.c1; have z0 := NA.z0; have z1 := NA.z1
      go_wp2_with fail
      exact of_close NA HB.out FIN.out rfl
/-- Of: the sign and the digits of any plain number. -/
theorem of_any (a : Int) (w : World) (h : I64 a) : Calls Tryz.prog 69 #[.int .i64 a] w (GivesNum (decide (a < 0)) a.natAbs w) := by
  by_cases h1 : a < 0
  · rw [show decide (a < 0) = true from by simp [h1]]; exact of_neg a w h.1 h1
  · rw [show decide (a < 0) = false from by simp [h1]]; exact of_pos a w h.2 (by omega)
end Go.Proofs.YtbjabclgekkpaaaGreatDoor
