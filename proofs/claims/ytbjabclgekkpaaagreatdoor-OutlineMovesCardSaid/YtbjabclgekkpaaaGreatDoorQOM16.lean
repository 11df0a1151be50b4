/- Joined: Ref4Read. -/
import Derived.Test.YtbjabclgekkpaaaGreatDoorQOM12
import Derived.Test.YtbjabclgekkpaaaGreatDoorQOM13
import Derived.Test.YtbjabclgekkpaaaGreatDoorQOM15
import Derived.Deep.CutBlock
import Derived.Deep.DeepCutAuto
namespace Go.Proofs.YtbjabclgekkpaaaGreatDoor
open Go.RowKit Go.Shelf
theorem small_z (n : Nat) (w : World) (h : n ≤ 1000000) : Calls Tryz.prog 165 #[.int .i64 (n : Int)] w (GivesZ (n : Int) w) := by
  have A := Lib.hid (fun w => of_any (n : Int) w (by unfold I64; omega))
  rw [decide_eq_false (by omega), Int.natAbs_natCast] at A
  have NA := Lib.hid (NumAt.new w false (.slice none 0 0))
  go_enter Tryz.func165, Tryz.ntmps165
  go_wp2_with fail
  refine (A.out _).mono ?_
  rintro e w1 ⟨a, cap, rfl, h1, h2, h3, hb⟩
  have N1 := NA.out.below hb NA.out.lt
  have c0 := N1.c0; have c1 := N1.c1; have z0 := N1.z0; have z1 := N1.z1
  go_wp2_with fail
  have F1 := N1.set (neg' := false) (s' := .slice a (dg n).length cap)
  refine bodyPost_ret (v := .agg #[.bool false, .slice a (dg n).length cap]) (by simp [results, Tryz.results165, go_sem, F1.c0, F1.c1]) rfl ⟨_, rfl, ⟨false, n, a, cap, rfl, h1.far N1, h2, h3, rfl⟩, ?_⟩
  exact Below.setCell (Below.setCell (((Below.refl _ _).alloc (Nat.le_refl _) _).trans (hb.mono (by simp))) (Nat.le_refl _) _) (Nat.le_refl _) _
/-- Block q holds a text's value. -/
def Val4 (q : Nat) (b n : Bool) (s : Value) (p : Int) (w : World) : Prop := w.heap[q]? = some (.cells #[.bool b, .bool n, s, .int .i64 p] 220)
theorem Val4.lt {q : Nat} {b n : Bool} {s : Value} {p : Int} {w : World} (h : Val4 q b n s p w) : q < w.heap.size := (Array.getElem?_eq_some_iff.1 h).1
theorem Val4.below {q B : Nat} {b n : Bool} {s : Value} {p : Int} {w w' : World} (h : Val4 q b n s p w) (t : Below B w w') (hb : q < B) : Val4 q b n s p w' := by
  unfold Val4 at *
  rw [t.block q hb]; exact h
theorem Val4.c0 {q : Nat} {b n : Bool} {s : Value} {p : Int} {w : World} (h : Val4 q b n s p w) : w.cell? ⟨q, 0, none⟩ = some (.bool b) := by unfold Val4 at h; simp [World.cell?, h]
theorem Val4.c1 {q : Nat} {b n : Bool} {s : Value} {p : Int} {w : World} (h : Val4 q b n s p w) : w.cell? ⟨q, 1, none⟩ = some (.bool n) := by unfold Val4 at h; simp [World.cell?, h]
theorem Val4.c2 {q : Nat} {b n : Bool} {s : Value} {p : Int} {w : World} (h : Val4 q b n s p w) : w.cell? ⟨q, 2, none⟩ = some s := by unfold Val4 at h; simp [World.cell?, h]
theorem Val4.c3 {q : Nat} {b n : Bool} {s : Value} {p : Int} {w : World} (h : Val4 q b n s p w) : w.cell? ⟨q, 3, none⟩ = some (.int .i64 p) := by unfold Val4 at h; simp [World.cell?, h]
theorem Val4.z {q : Nat} {b n : Bool} {s : Value} {p : Int} {w : World} (h : Val4 q b n s p w) (o : Nat) : w.frozen? ⟨q, o, none⟩ = false := by unfold Val4 at h; simp [World.frozen?, h]
theorem Val4.s0 {q : Nat} {b n : Bool} {s : Value} {p : Int} {w : World} (h : Val4 q b n s p w) (b' : Bool) : Val4 q b' n s p (w.setCell ⟨q, 0, none⟩ (.bool b')) := heap_put 0 _ h
theorem Val4.s12 {q : Nat} {b n : Bool} {s : Value} {p : Int} {w : World} (h : Val4 q b n s p w) (n' : Bool) (s' : Value) : Val4 q b n' s' p ((w.setCell ⟨q, 1, none⟩ (.bool n')).setCell ⟨q, 2, none⟩ s') := heap_put 2 _ (heap_put 1 _ h)
theorem Val4.s3 {q : Nat} {b n : Bool} {s : Value} {p : Int} {w : World} (h : Val4 q b n s p w) (p' : Int) : Val4 q b n s p' (w.setCell ⟨q, 3, none⟩ (.int .i64 p')) := heap_put 3 _ h
theorem Val4.two (w : World) : Val4 w.heap.size false false (.slice none 0 0) 0 ((w.alloc (.cells #[.bool false, .bool false, .slice none 0 0, .int .i64 0] 220)).alloc (.cells #[.bool false, .bool false, .slice none 0 0, .int .i64 0] 220)) ∧
    Val4 (w.heap.size + 1) false false (.slice none 0 0) 0 ((w.alloc (.cells #[.bool false, .bool false, .slice none 0 0, .int .i64 0] 220)).alloc (.cells #[.bool false, .bool false, .slice none 0 0, .int .i64 0] 220)) := by
  constructor
  · show ((w.heap.push _).push _)[w.heap.size]? = _
    rw [Array.getElem?_push, Array.size_push, if_neg (by omega), Array.getElem?_push, if_pos rfl]
  · show ((w.heap.push _).push _)[w.heap.size + 1]? = _
    rw [Array.getElem?_push, Array.size_push, if_pos rfl]
theorem dg_one_ne (x : Nat) (h : (dg x).length = 1) : (dg x).getD 0 0 ≠ 0 := by
  by_cases h0 : x = 0
  · subst h0; rw [dg_zero] at h; simp at h
  · rw [dg_pos x h0] at h ⊢
    have e : dg (x / 65536) = [] := by
      have : (dg (x / 65536)).length = 0 := by simpa using h
      exact List.length_eq_zero_iff.1 this
    rw [dg_nil] at e
    show x % 65536 ≠ 0
    omega
/-- A number's digits never lie in a block that holds a value, whose power is still 0. -/
theorem Row.farV {a : Option Addr} {x : Nat} {w w' : World} {q : Nat} {b n : Bool} {r : Option Addr} {m c : Nat} (h : Row a (dg x) w) (hq : Val4 q b n (.slice r m c) 0 w) (hs : w.heap.size ≤ w'.heap.size) (hk : ∀ k, k ≠ q → k < w.heap.size → w'.heap[k]? = w.heap[k]?) : Row a (dg x) w' := by
  rcases h with h | ⟨bb, off, ha, hlt, hc⟩
  · exact Or.inl h
  · by_cases hz : dg x = []
    · exact Or.inl hz
    · have hl := List.length_pos_iff.2 hz
      have hne : bb ≠ q := by
        rintro rfl
        have h0 := hc 0 hl
        unfold Val4 at hq
        simp only [World.cell?, hq] at h0
        have h1 := fun hh => hc 1 hh
        simp only [World.cell?, hq] at h1
        rcases off with _ | _ | _ | _ | off
        · simp at h0
        · simp at h0
        · simp at h0
        · have l1 : ¬ 1 < (dg x).length := fun hh => by have := h1 hh; simp at this
          have e1 : (dg x).length = 1 := by omega
          have e0 : (dg x).getD 0 0 = 0 := by simp at h0; simpa using h0.symm
          have := dg_one_ne x e1
          exact this e0
        · simp at h0
      refine Or.inr ⟨bb, off, ha, by omega, fun i hi => ?_⟩
      rw [World.cell?_of_block (w := w) (a := ⟨bb, off + i, none⟩) (hk bb hne hlt)]
      exact hc i hi
/-- What the first loop keeps. -/
def ReadInv (M : List UInt8) (o : Nat) (tg : Nat × Bool × Nat) (below : Bool) (w : World) (i bh pt : Value) (wr : World) : Prop :=
  ∃ (m N B : Nat) (P n : Bool) (sl : Value), m ≤ M.length ∧ i = .int .i64 ((o + m : Nat) : Int) ∧ bh = .int .i64 (B : Int) ∧ pt = .bool P ∧ B ≤ m ∧ Hid (N < 10 ^ m) ∧ Hid ((M.drop m).foldl mst (N, P, B) = tg) ∧
    NumV (.agg #[.bool n, sl]) (N : Int) wr ∧ Val4 (w.heap.size + 1) below n sl 0 wr ∧ Val4 w.heap.size false false (.slice none 0 0) 0 wr ∧ Below w.heap.size w wr
/-- Where the digits lie in the text. -/
structure Lies (s : ByteArray) (M : List UInt8) (o : Nat) : Prop where
  len : M.length ≤ 200
  size : o + M.length ≤ s.size
  at' : ∀ m (h : m < M.length) (k : o + m < s.size), s[o + m] = M[m]
  kind : ∀ c ∈ M, isDig c = true ∨ c = 46
  stop : ∀ k : o + M.length < s.size, isLet s[o + M.length] = true
theorem zero_num (w : World) : NumV (.agg #[.bool false, .slice none 0 0]) ((0 : Nat) : Int) w := ⟨false, 0, none, 0, by rw [dg_zero]; rfl, Or.inl dg_zero, by rw [dg_zero]; exact Nat.le_refl _, by unfold maxLen; omega, rfl⟩
theorem at_drop {s : ByteArray} {q : Nat} {c : UInt8} {t : List UInt8} (h : s.data.toList.drop q = c :: t) : ∃ k : q < s.size, s[q] = c ∧ s.data.toList.drop (q + 1) = t := by
  have hq : q < s.size := by
    refine Nat.lt_of_not_le fun hn => ?_
    rw [List.drop_of_length_le (by simpa using hn)] at h
    cases h
  rw [drop_cons s q hq] at h
  exact ⟨hq, (List.cons.inj h).1, (List.cons.inj h).2⟩
theorem drop_size {s : ByteArray} {q : Nat} (h : s.data.toList.drop q = []) : s.size ≤ q := by
  have := congrArg List.length h
  rw [List.length_drop, Array.length_toList] at this
  have e : s.data.size = s.size := rfl
  simp at this
  omega
theorem num_drop {s : ByteArray} {sg' a : List UInt8} {pt : Bool} {b : List UInt8} {x : Expo} (h : IsNum s.data.toList sg' a pt b x) :
    s.data.toList.drop sg'.length = (a ++ ptL pt b) ++ expo x ∧ s.data.toList.drop (sg'.length + (a ++ ptL pt b).length) = expo x := by
  constructor
  · rw [h.text, List.drop_left]
  · rw [← List.drop_drop, h.text, List.drop_left, List.drop_left]
theorem num_lies {s : ByteArray} {sg' a : List UInt8} {pt : Bool} {b : List UInt8} {x : Expo} (h : IsNum s.data.toList sg' a pt b x) (hs : s.size ≤ 200) : Lies s (a ++ ptL pt b) sg'.length := by
  have e := congrArg List.length h.text
  rw [Array.length_toList, show s.data.size = s.size from rfl] at e
  simp only [List.length_append] at e
  have e' : (a ++ ptL pt b).length = a.length + (ptL pt b).length := by simp
  refine ⟨by omega, by omega, fun m hm k => ?_, fun c hc => ?_, fun k => ?_⟩
  · have h1 := (num_drop h).1
    have h2 : (s.data.toList.drop sg'.length)[m]? = some s[sg'.length + m] := by
      rw [List.getElem?_drop, List.getElem?_eq_getElem (by simpa using k)]
      rfl
    rw [h1, List.getElem?_append_left hm, List.getElem?_eq_getElem hm] at h2
    exact (Option.some.inj h2).symm
  · rcases List.mem_append.1 hc with hc | hc
    · exact Or.inl (h.ha c hc)
    · cases pt with
      | false => cases hc
      | true =>
        rcases List.mem_cons.1 hc with hc | hc
        · exact Or.inr hc
        · exact Or.inl (h.hb c hc)
  · have h1 := (num_drop h).2
    rw [drop_cons s _ k] at h1
    cases x with
    | none => cases h1
    | some y =>
      obtain ⟨c, s2, d⟩ := y
      have : s[sg'.length + (a ++ ptL pt b).length] = c := (List.cons.inj h1).1
      rw [this]
      exact h.hx.1
/-- How the text begins. -/
theorem num_head {s : ByteArray} {sg' a : List UInt8} {pt : Bool} {b : List UInt8} {x : Expo} (h : IsNum s.data.toList sg' a pt b x) :
    (sg'.length = 0 ∧ decide (sg' = [45]) = false ∧ headIs isSgn (s.data.toList.drop 0) = false) ∨
    (sg'.length = 1 ∧ headIs isSgn (s.data.toList.drop 0) = true ∧ ∃ k : 0 < s.size, (s[0].toNat = 43 ∧ decide (sg' = [45]) = false) ∨ (s[0].toNat = 45 ∧ decide (sg' = [45]) = true)) := by
  rw [List.drop_zero]
  rcases h.hsg with rfl | rfl | rfl
  · refine Or.inl ⟨rfl, rfl, ?_⟩
    have hb := head_body h
    rw [h.text]
    cases e : a ++ ptL pt b with
    | nil =>
      have h0 := h.h0
      have e2 := congrArg List.length e
      simp only [List.length_append, List.length_nil] at e2
      cases pt with
      | false => rw [h.hpt rfl] at h0; simp at h0; omega
      | true => simp [ptL] at e2
    | cons c t => rw [e] at hb; exact hb
  · obtain ⟨k, k1, _⟩ := at_drop (s := s) (q := 0) (c := 43) (t := (a ++ ptL pt b) ++ expo x) (by rw [List.drop_zero, h.text]; rfl)
    exact Or.inr ⟨rfl, by rw [h.text]; rfl, k, Or.inl ⟨by rw [k1]; rfl, rfl⟩⟩
  · obtain ⟨k, k1, _⟩ := at_drop (s := s) (q := 0) (c := 45) (t := (a ++ ptL pt b) ++ expo x) (by rw [List.drop_zero, h.text]; rfl)
    exact Or.inr ⟨rfl, by rw [h.text]; rfl, k, Or.inr ⟨by rw [k1]; rfl, rfl⟩⟩
theorem Val4.other {q r o : Nat} {b n : Bool} {s v : Value} {p : Int} {w : World} (h : Val4 q b n s p w) (hr : q ≠ r) : Val4 q b n s p (w.setCell ⟨r, o, none⟩ v) := by
  unfold Val4 at *
  rw [Below.heap_setCell _ _ _ _ (by exact hr)]; exact h
theorem num_slice {n : Bool} {sl : Value} {z : Int} {w : World} (h : NumV (.agg #[.bool n, sl]) z w) : ∃ r k c, sl = .slice r k c := by
  obtain ⟨n', x', a', cap', ev, _⟩ := h
  have : n = n' ∧ sl = .slice a' (dg x').length cap' := by simpa using ev
  exact ⟨a', _, cap', this.2⟩
theorem ten_big (N m : Nat) (h : N < 10 ^ m) (hm : m ≤ 200) : N * 10 + 10 ≤ Big := by
  have h1 : 10 ^ m ≤ 10 ^ 200 := Nat.pow_le_pow_right (by decide) hm
  have h2 : 10 ^ 200 * 10 + 10 ≤ Big := by unfold Big; decide
  generalize 10 ^ 200 = X at *
  omega
theorem natAbs_ten (N : Nat) : ((N : Int) * 10).natAbs = N * 10 := by omega
theorem read_next {M : List UInt8} {o : Nat} {tg : Nat × Bool × Nat} {bl : Bool} {w wD : World} {m N dk B : Nat} {P n : Bool} {sl : Value} {nD : Bool} {xD : Nat} {aD : Option Addr} {capD : Nat} {i bh : Int}
    (hm : m < M.length) (hB : B ≤ m) (hN : N < 10 ^ m) (hdk : dk ≤ 9) (NX : (M.drop (m + 1)).foldl mst (10 * N + dk, P, if P then B + 1 else B) = tg) (hsl : ∃ r k c, sl = .slice r k c) (hb : Below w.heap.size w wD)
    (h1 : Val4 (w.heap.size + 1) bl n sl 0 wD) (h0 : Val4 w.heap.size false false (.slice none 0 0) 0 wD) (hD2 : Row aD (dg xD) wD) (hD3 : (dg xD).length ≤ capD) (hD4 : capD ≤ maxLen) (hD5 : (N : Int) * 10 + (dk : Int) = sgn nD xD)
    (hi : i = ((o + (m + 1) : Nat) : Int)) (hbh : bh = ((if P then B + 1 else B : Nat) : Int)) :
    ReadInv M o tg bl w (.int .i64 i) (.int .i64 bh) (.bool P) ((wD.setCell ⟨w.heap.size + 1, 1, none⟩ (.bool nD)).setCell ⟨w.heap.size + 1, 2, none⟩ (.slice aD (dg xD).length capD)) := by
  obtain ⟨r, k, c, rfl⟩ := hsl
  refine ⟨m + 1, 10 * N + dk, if P then B + 1 else B, P, nD, _, hm, by rw [hi], by rw [hbh], rfl, by split <;> omega, Lib.hid (by rw [Nat.pow_succ]; omega), Lib.hid NX, ⟨nD, xD, aD, capD, rfl, ?_, hD3, hD4, ?_⟩, h1.s12 nD _, (h0.other (by omega)).other (by omega), ?_⟩
  · refine hD2.farV h1 (by simp [World.setCell]) fun k hk _ => ?_
    exact (Below.heap_setCell _ _ _ _ (by exact hk)).trans (Below.heap_setCell _ _ _ _ (by exact hk))
  · rw [← hD5]; omega
  · exact Below.setCell (Below.setCell hb (by exact Nat.le_succ _) _) (by exact Nat.le_succ _) _
/-- What Read tells. -/
def ReadPost (neg : Bool) (N : Nat) (p : Int) (w : World) (e : Ending) (w' : World) : Prop :=
  ∃ (n : Bool) (sl : Value), e = .returned (.agg #[.bool neg, .bool n, sl, .int .i64 p]) ∧ NumV (.agg #[.bool n, sl]) (N : Int) w' ∧ Below w.heap.size w w'
/-- Behind the sign. -/
def CutA (o : Nat) (bl : Bool) (w : World) (i : Value) (wc : World) : Prop :=
  i = .int .i64 (o : Int) ∧ Val4 (w.heap.size + 1) bl false (.slice none 0 0) 0 wc ∧ Val4 w.heap.size false false (.slice none 0 0) 0 wc ∧ Below w.heap.size w wc
/-- Behind the digits. -/
def CutB (k B N : Nat) (bl : Bool) (w : World) (i bh : Value) (wc : World) : Prop :=
  i = .int .i64 (k : Int) ∧ bh = .int .i64 (B : Int) ∧ ∃ (n : Bool) (sl : Value), NumV (.agg #[.bool n, sl]) (N : Int) wc ∧ Val4 (w.heap.size + 1) bl n sl 0 wc ∧ Val4 w.heap.size false false (.slice none 0 0) 0 wc ∧ Below w.heap.size w wc
/-- Behind the power. -/
def CutC (p : Int) (w : World) (s7 s8 : Value) (wc : World) : Prop :=
  ∃ (P : Nat) (dn : Bool), s7 = .int .i64 (P : Int) ∧ s8 = .bool dn ∧ P ≤ 1000 ∧ p = sg dn P ∧ w = wc
def CutD (s : ByteArray) (dn : Bool) (d : List UInt8) (w : World) (s4 s8 : Value) (wc : World) : Prop :=
  ∃ q : Nat, s4 = .int .i64 (q : Int) ∧ s8 = .bool dn ∧ q ≤ s.size ∧ Hid (s.data.toList.drop q = d) ∧ w = wc
def PowInv (s : ByteArray) (d : List UInt8) (i pw : Value) : Prop :=
  ∃ q P : Nat, q ≤ s.size ∧ i = .int .i64 (q : Int) ∧ pw = .int .i64 (P : Int) ∧ P ≤ 1000 ∧ Hid (AllDig (s.data.toList.drop q)) ∧ Hid (capF (s.data.toList.drop q) P = capF d 0)
theorem read_close {w wc : World} {bl n : Bool} {x : Nat} {a : Option Addr} {cap : Nat} {NN : Nat} {p q : Int} {ts : Array Value}
    (h1 : Val4 (w.heap.size + 1) bl n (.slice a (dg x).length cap) 0 wc) (h0 : Val4 w.heap.size false false (.slice none 0 0) 0 wc) (hb : Below w.heap.size w wc) (r1 : Row a (dg x) wc) (r2 : (dg x).length ≤ cap) (r3 : cap ≤ maxLen) (r4 : (NN : Int) = sgn n x)
    (hp : q = p) (hts : ts[2]? = some (.pointer (some ⟨w.heap.size, 0, none⟩))) :
    bodyPost Tryz.prog Tryz.f164 (ReadPost bl NN q w) Exit.ret { tmps := ts, defers := [] }
      (((((wc.setCell ⟨w.heap.size + 1, 3, none⟩ (.int .i64 p)).setCell ⟨w.heap.size, 0, none⟩ (.bool bl)).setCell ⟨w.heap.size, 1, none⟩ (.bool n)).setCell ⟨w.heap.size, 2, none⟩ (.slice a (dg x).length cap)).setCell ⟨w.heap.size, 3, none⟩ (.int .i64 p)) := by
  subst hp
  have g0 := h0.other (r := w.heap.size + 1) (o := 3) (v := .int .i64 q) (by omega)
  have F := ((g0.s0 bl).s12 n (.slice a (dg x).length cap)).s3 q
  have R1 : Row a (dg x) (wc.setCell ⟨w.heap.size + 1, 3, none⟩ (.int .i64 q)) := r1.farV h1 (by simp [World.setCell]) fun k hk _ => Below.heap_setCell _ _ _ _ (by exact hk)
  have R2 : Row a (dg x) (((((wc.setCell ⟨w.heap.size + 1, 3, none⟩ (.int .i64 q)).setCell ⟨w.heap.size, 0, none⟩ (.bool bl)).setCell ⟨w.heap.size, 1, none⟩ (.bool n)).setCell ⟨w.heap.size, 2, none⟩ (.slice a (dg x).length cap)).setCell ⟨w.heap.size, 3, none⟩ (.int .i64 q)) :=
    R1.farV g0 (by simp [World.setCell]) fun k hk _ => (((Below.heap_setCell _ _ _ _ (by exact hk)).trans (Below.heap_setCell _ _ _ _ (by exact hk))).trans (Below.heap_setCell _ _ _ _ (by exact hk))).trans (Below.heap_setCell _ _ _ _ (by exact hk))
  refine bodyPost_ret (v := .agg #[.bool bl, .bool n, .slice a (dg x).length cap, .int .i64 q]) (by simp [results, Tryz.results164, go_sem, F.c0, F.c1, F.c2, F.c3, hts]) rfl ⟨n, _, rfl, ⟨n, x, a, cap, rfl, R2, r2, r3, r4⟩, ?_⟩
  exact Below.setCell (Below.setCell (Below.setCell (Below.setCell (Below.setCell hb (by exact Nat.le_succ _) _) (Nat.le_refl _) _) (Nat.le_refl _) _) (Nat.le_refl _) _) (Nat.le_refl _) _
set_option maxHeartbeats 8000000 in
set_option maxRecDepth 100000 in
theorem read_any (s : ByteArray) (sg' a : List UInt8) (pt : Bool) (b : List UInt8) (x : Expo) (w : World) (hs : s.size ≤ 200) (h : IsNum s.data.toList sg' a pt b x) :
    Calls Tryz.prog 164 #[.string s] w (ReadPost (decide (sg' = [45])) (nat10 (a ++ b)) (exC x - b.length) w) := by
  have S := Lib.hid (fun j w => rsign_any s j w)
  have TW := Lib.hid (Val4.two w)
  have B0 := Lib.hid (show Below w.heap.size w ((w.alloc (.cells #[.bool false, .bool false, .slice none 0 0, .int .i64 0] 220)).alloc (.cells #[.bool false, .bool false, .slice none 0 0, .int .i64 0] 220)) from ((Below.refl _ _).alloc (Nat.le_refl _) _).alloc (by simp) _)
  have HL := Lib.hid (num_lies h hs)
  have HF := Lib.hid (mfold_num h)
  have HD := Lib.hid (num_drop h).2
  have HX := Lib.hid h.hx
  have bl200 : b.length ≤ 200 := by
    have e1 := (num_lens h).1
    have e2 : s.data.toList.length = s.size := Array.length_toList
    have e3 : (a ++ b).length = a.length + b.length := by simp
    omega
  have hh := num_head h
  clear h
  generalize nat10 (a ++ b) = NN at *
  generalize a ++ ptL pt b = M at *
  generalize decide (sg' = [45]) = bl at *
  generalize sg'.length = o at *
  generalize b.length = bb at *
  generalize pt = pt0 at *
  go_enter Tryz.func164, Tryz.ntmps164
  go_upto_if 11 with (go_at_call 162; refine (S.out 0 _).mono ?_; rintro e w1 ⟨rfl, rfl⟩)
  rw [List.drop_zero] at hh
  generalize (w.alloc (.cells #[.bool false, .bool false, .slice none 0 0, .int .i64 0] 220)).alloc (.cells #[.bool false, .bool false, .slice none 0 0, .int .i64 0] 220) = w0 at *
  go_cut [4] (fun s4 wc => CutA o bl w s4 wc)
  case first =>
    have T1 := TW.out.2
    have z0 := T1.z 0
    have c0 := T1.c0
    rcases hh with ⟨rfl, rfl, hd⟩ | ⟨rfl, hd, hk, ⟨h43, rfl⟩ | ⟨h45, rfl⟩⟩
    · rw [hd]
      go_wp2_with fail
      go_meet
      exact ⟨rfl, T1, TW.out.1, B0.out⟩
    · rw [hd]
      go_wp2_with fail
      go_meet
      exact ⟨rfl, T1.s0 false, TW.out.1.other (by omega), Below.setCell B0.out (by exact Nat.le_succ _) _⟩
    · rw [hd]
      go_wp2_with fail
      go_meet
      exact ⟨rfl, T1.s0 true, TW.out.1.other (by omega), Below.setCell B0.out (by exact Nat.le_succ _) _⟩
  case rest =>
    clear hh
    obtain ⟨rfl, h1, h0, hb⟩ := hcut
    have H1 := Lib.hid h1
    have H0 := Lib.hid h0
    have HB := Lib.hid hb
    clear h1 h0 hb TW B0
    have T10 := Lib.hid (fun w => small_z 10 w (by omega))
    rw [show ((10 : Nat) : Int) = 10 from rfl] at T10
    have MU := Lib.hid (fun v1 v2 z1 z2 w hb b1 b2 h1 h2 => mulz v1 v2 z1 z2 w hb b1 b2 h1 h2)
    have AD := Lib.hid (fun v1 v2 z1 z2 w f1 f2 h1 h2 => add_z v1 v2 z1 z2 w f1 f2 h1 h2)
    go_upto_block 0 with fail
    go_cut [4, 5, 6] (fun s4 s5 _ wc => CutB (o + M.length) bb NN bl w s4 s5 wc)
    case first =>
      go_wp2_with fail
      go_loopw [4, 5, 6] (fun i bh pt wr => ReadInv M o (NN, pt0, bb) bl w i bh pt wr) (fun i _ _ _ => s.size - (intOf i).toNat)
      case atStart => exact ⟨0, 0, 0, false, false, .slice none 0 0, by omega, rfl, rfl, rfl, by omega, Lib.hid (by decide), Lib.hid HF.out, zero_num _, H1.out, H0.out, HB.out⟩
      case round =>
        clear H1 H0 HB
        obtain ⟨m, N, B, P, n, sl, hm, rfl, rfl, rfl, hB, hN, hf, hv, h1, h0, hb⟩ := hrel
        obtain ⟨k, hk⟩ : ∃ k, Hid (o + m = k) := ⟨_, Lib.hid rfl⟩
        have hM := HL.out.size
        have h200 := HL.out.len
        rw [show ((o + m : Nat) : Int) = (k : Int) from by rw [hk.out]]
        have hk' := hk.out
        by_cases hlt : m < M.length
        · have hks : k < s.size := by omega
          have eb : s[k] = M[m] := by
            have := HL.out.at' m hlt (by rw [hk']; exact hks)
            simp only [hk'] at this
            exact this
          have n1 : IntKind.i64.wrap ((k : Int) + 1) = (k : Int) + 1 := IntWalk.i64_in _ (by omega)
          have nB : IntKind.i64.wrap ((B : Int) + 1) = (B : Int) + 1 := IntWalk.i64_in _ (by omega)
          rcases HL.out.kind M[m] (List.getElem_mem hlt) with hd | hp
          · have hbd := dig_bd (eb ▸ hd)
            have NX := Lib.hid (show (M.drop (m + 1)).foldl mst (10 * N + dv s[k], P, if P then B + 1 else B) = (NN, pt0, bb) by
              have := hf.out
              rw [List.drop_eq_getElem_cons hlt, List.foldl_cons, mst_dig hd] at this
              rw [eb]; exact this)
            clear eb hd hf
            have g0 : ((s[k].toNat : Int) == 46) = false := by rw [beq_eq_false_iff_ne]; omega
            have g1 : ((s[k].toNat : Int) != 101) = true := by rw [bne_iff_ne]; omega
            have g2 : ((s[k].toNat : Int) != 69) = true := by rw [bne_iff_ne]; omega
            have g3 : IntKind.u8.wrap ((s[k].toNat : Int) - 48) = ((dv s[k] : Nat) : Int) := by rw [IntWalk.u8_in _ (by omega)]; unfold dv; omega
            have d9 : dv s[k] ≤ 9 := by unfold dv; omega
            have TD := Lib.hid (fun w => small_z (dv s[k]) w (by omega))
            generalize dv s[k] = dk at *
            have g4 : IntKind.i64.wrap (dk : Int) = (dk : Int) := IntWalk.i64_in _ (by omega)
            have tb := ten_big N m hN.out (by omega)
            have BM1 := Lib.hid (show ((N : Int) * 10).natAbs ≤ Big by rw [natAbs_ten]; omega)
            have BM2 := Lib.hid (show ((N : Int)).natAbs ≤ Big by rw [Int.natAbs_natCast]; omega)
            have BM3 := Lib.hid (show (10 : Int).natAbs ≤ Big by unfold Big; decide)
            have BF1 := Lib.hid (fair_big ((N : Int) * 10) (by rw [natAbs_ten]; omega))
            have BF2 := Lib.hid (fair_big (dk : Int) (by rw [Int.natAbs_natCast]; omega))
            clear tb
            have HSL := Lib.hid (num_slice hv)
            have KEEP := Lib.hid (And.intro hB (And.intro hlt (And.intro hN.out d9)))
            have KM := Lib.hid (show s.size - (intOf (.int .i64 ((k : Int) + 1))).toNat < s.size - (intOf (.int .i64 (k : Int))).toNat by simp [intOf]; omega)
            have KI := Lib.hid (show (k : Int) + 1 = ((o + (m + 1) : Nat) : Int) by omega)
            have HH0 := Lib.hid h0
            have HHB := Lib.hid hb
            have HHV := Lib.hid hv
            have c1 := h1.c1; have c2 := h1.c2; have z1 := h1.z 1; have z2 := h1.z 2
            have l1 := h1.lt
            have HH1 := Lib.hid h1
            clear d9 hN hlt hB hm hbd hk' hM h200 HL hs bl200 h0 hb hv h1 hk
            go_wp2_with fail
            clear g0 g1 g2
            go_region_with (first
              | (go_at_call 165; (with_reducible refine (T10.out _).mono ?_); rintro e wA ⟨vA, rfl, hA, bA0⟩; have bA : Below wr.heap.size wr wA := Below.trans (b := wr.drew) ((Below.refl wr.heap.size wr).drew) bA0; have hA1 := HH1.out.below bA (by exact l1); have cA1 := hA1.c1; have cA2 := hA1.c2)
              | (go_at_call 165; (with_reducible refine (TD.out _).mono ?_); rintro e wC ⟨vC, rfl, hC, bC⟩; have hC1 := hB1.below bC (by exact hB1.lt))
              | (go_at_call 118; (with_reducible refine (MU.out (.agg #[.bool n, sl]) vA (N : Int) 10 _ BM1.out BM2.out BM3.out (HHV.out.below bA (by exact Nat.le_refl _)) hA).mono ?_); rintro e wB ⟨vB, rfl, hVB, bB⟩; have hB1 := hA1.below bB (by exact hA1.lt))
              | (go_at_call 119; (with_reducible refine (AD.out vB vC ((N : Int) * 10) (dk : Int) _ BF1.out BF2.out (hVB.below bC (by exact Nat.le_refl _)) hC).mono ?_); rintro e wD ⟨vD, rfl, hD, bD⟩; have hD1 := hC1.below bD (by exact hC1.lt); have cD1 := hD1.c1; have cD2 := hD1.c2; have zD1 := hD1.z 1; have zD2 := hD1.z 2; obtain ⟨nD, xD, aD, capD, rfl, hD2, hD3, hD4, hD5⟩ := hD))
            all_goals
              have hw : Below w.heap.size w wD := (((HHB.out.trans (bA.mono (by exact HHB.out.size))).trans (bB.mono (by exact Nat.le_trans HHB.out.size bA.size))).trans (bC.mono (by exact Nat.le_trans (Nat.le_trans HHB.out.size bA.size) bB.size))).trans (bD.mono (by exact Nat.le_trans (Nat.le_trans (Nat.le_trans HHB.out.size bA.size) bB.size) bC.size))
              have hh0 := (((HH0.out.below bA (by exact HH0.out.lt)).below bB (by exact (HH0.out.below bA HH0.out.lt).lt)).below bC (by exact ((HH0.out.below bA HH0.out.lt).below bB (HH0.out.below bA HH0.out.lt).lt).lt)).below bD (by exact (((HH0.out.below bA HH0.out.lt).below bB (HH0.out.below bA HH0.out.lt).lt).below bC ((HH0.out.below bA HH0.out.lt).below bB (HH0.out.below bA HH0.out.lt).lt).lt).lt)
              have FIN := Lib.hid (fun bh hbh => read_next (i := (k : Int) + 1) (bh := bh) KEEP.out.2.1 KEEP.out.1 KEEP.out.2.2.1 KEEP.out.2.2.2 NX.out HSL.out hw hD1 hh0 hD2 hD3 hD4 hD5 KI.out hbh)
              clear hA hVB hC bA0 bA bB bC bD hA1 hB1 hC1 hD1 cA1 cA2 cD1 cD2 zD1 zD2 hD2 hD3 hD4 hD5 hw hh0 c1 c2 z1 z2 l1 HH0 HHB HHV HH1 KEEP NX KI HSL
              cases P
              · go_wp2_with fail
                go_roundw
                case rel => exact FIN.out _ rfl
                case measure => exact KM.out
              · go_wp2_with fail
                go_roundw
                case rel => exact FIN.out _ (Int.natCast_succ B).symm
                case measure => exact KM.out
          · have NX := Lib.hid (show (M.drop (m + 1)).foldl mst (N, true, B) = (NN, pt0, bb) by
              have := hf.out
              rw [List.drop_eq_getElem_cons hlt, List.foldl_cons, hp, mst_pt] at this
              exact this)
            have g0 : s[k].toNat = 46 := by rw [eb, hp]; rfl
            have HH := Lib.hid (And.intro hN.out (And.intro hv (And.intro h1 (And.intro h0 hb))))
            clear eb hp hf hv h1 h0 hb hN
            go_wp2_with fail
            go_roundw
            case rel => exact ⟨m + 1, N, B, true, n, sl, hlt, by rw [show ((o + (m + 1) : Nat) : Int) = (k : Int) + 1 from by omega], rfl, rfl, by omega, Lib.hid (Nat.lt_of_lt_of_le HH.out.1 (Nat.pow_le_pow_right (by decide) (by omega))), NX, HH.out.2.1, HH.out.2.2.1, HH.out.2.2.2.1, HH.out.2.2.2.2⟩
            case measure => simp [intOf]; omega
        · have hmM : m = M.length := by omega
          have HH := Lib.hid (show CutB (o + M.length) bb NN bl w (.int .i64 (k : Int)) (.int .i64 (B : Int)) wr from by
            have := hf.out
            rw [List.drop_of_length_le (by omega)] at this
            obtain ⟨e1, e2⟩ := Prod.mk.inj this
            obtain ⟨_, e3⟩ := Prod.mk.inj e2
            subst e1; subst e3
            exact ⟨by rw [← hk', hmM], rfl, n, sl, hv, h1, h0, hb⟩)
          by_cases hks : k < s.size
          · have hl : s[k].toNat = 101 ∨ s[k].toNat = 69 := by
              have e : o + M.length = k := by omega
              have := HL.out.stop (by rw [e]; exact hks)
              simp only [e] at this
              simpa [isLet] using this
            clear hf hv h1 h0 hb hN HL hM h200
            rcases hl with hl | hl
            · go_wp2_with fail
              go_meet
              exact HH.out
            · have g1 : ((s[k].toNat : Int) != 101) = true := by rw [bne_iff_ne]; omega
              go_wp2_with fail
              go_meet
              exact HH.out
          · clear hf hv h1 h0 hb hN HL hM h200
            go_wp2_with fail
            go_meet
            exact HH.out
    case rest =>
      clear HF T10 MU AD
      obtain ⟨rfl, rfl, n, sl, hv, h1, h0, hb⟩ := hcut
      have HV := Lib.hid hv
      have H1' := Lib.hid h1
      have H0' := Lib.hid h0
      have HB' := Lib.hid hb
      clear hv h1 h0 hb H1 H0 HB
      rename_i s6 wc
      have hM := HL.out.size
      generalize o + M.length = k0 at *
      clear HL
      go_upto_if 59 with fail
      go_cut [7, 8] (fun s7 s8 wd => CutC (exC x) wc s7 s8 wd)
      case first =>
        cases x with
        | none =>
          have hz := drop_size HD.out
          go_wp2_with fail
          go_meet
          exact ⟨0, false, rfl, rfl, by omega, rfl, rfl⟩
        | some y =>
          obtain ⟨c, s2, d⟩ := y
          obtain ⟨hk0, _, hd⟩ := at_drop HD.out
          obtain ⟨_, hs2, hd2, hd3⟩ := HX.out
          have HDD := Lib.hid hd
          have HS2 := Lib.hid hs2
          have HD2 := Lib.hid hd2
          clear hd hs2 hd2 hd3 HX HD
          have n1 : IntKind.i64.wrap ((k0 : Int) + 1) = (k0 : Int) + 1 := IntWalk.i64_in _ (by omega)
          have SG := Lib.hid (S.out (k0 + 1))
          rw [show ((k0 + 1 : Nat) : Int) = (k0 : Int) + 1 from by omega, HDD.out] at SG
          have q3 : (∃ q : Nat, q = k0 + 1 ∧ headIs isSgn (s2 ++ d) = false ∧ decide (s2 = [45]) = false ∧ s.data.toList.drop q = d) ∨ (∃ hk1 : k0 + 1 < s.size, headIs isSgn (s2 ++ d) = true ∧ s.data.toList.drop (k0 + 2) = d ∧ ((s[k0 + 1].toNat = 43 ∧ decide (s2 = [45]) = false) ∨ (s[k0 + 1].toNat = 45 ∧ decide (s2 = [45]) = true))) := by
            rcases HS2.out with rfl | rfl | rfl
            · exact Or.inl ⟨_, rfl, head_digs HD2.out, rfl, HDD.out⟩
            · obtain ⟨k1, e1, e2⟩ := at_drop HDD.out
              exact Or.inr ⟨k1, rfl, e2, Or.inl ⟨by rw [e1]; rfl, rfl⟩⟩
            · obtain ⟨k1, e1, e2⟩ := at_drop HDD.out
              exact Or.inr ⟨k1, rfl, e2, Or.inr ⟨by rw [e1]; rfl, rfl⟩⟩
          clear HDD HS2
          have EX := Lib.hid (show exC (some (c, s2, d)) = sg (decide (s2 = [45])) (capF d 0) from rfl)
          generalize headIs isSgn (s2 ++ d) = hd at *
          generalize decide (s2 = [45]) = dn at *
          go_upto_if 64 with (go_at_call 162; refine (SG.out _).mono ?_; rintro e w1 ⟨rfl, rfl⟩)
          go_cut [4, 8] (fun s4 s8 wd => CutD s dn d wc s4 s8 wd)
          case first =>
            rcases q3 with ⟨q, hq, rfl, rfl, e1⟩ | ⟨hk1, rfl, e1, ⟨e2, rfl⟩ | ⟨e2, rfl⟩⟩
            · have HE := Lib.hid e1
              clear e1
              go_wp2_with fail
              go_meet
              exact ⟨q, by rw [hq]; rfl, rfl, by omega, HE, rfl⟩
            · have HE := Lib.hid e1
              clear e1
              have n2 : IntKind.i64.wrap ((k0 : Int) + 1 + 1) = ((k0 + 2 : Nat) : Int) := by rw [IntWalk.i64_in _ (by omega)]; omega
              have i0 : (0 : Int) ≤ (k0 : Int) + 1 := by omega
              have i1 : ((k0 : Int) + 1).toNat = k0 + 1 := by omega
              go_wp2_with fail
              go_meet
              exact ⟨k0 + 2, by first | rfl | (congr 1; omega), rfl, by omega, HE, rfl⟩
            · have HE := Lib.hid e1
              clear e1
              have n2 : IntKind.i64.wrap ((k0 : Int) + 1 + 1) = ((k0 + 2 : Nat) : Int) := by rw [IntWalk.i64_in _ (by omega)]; omega
              have i0 : (0 : Int) ≤ (k0 : Int) + 1 := by omega
              have i1 : ((k0 : Int) + 1).toNat = k0 + 1 := by omega
              go_wp2_with fail
              go_meet
              exact ⟨k0 + 2, by first | rfl | (congr 1; omega), rfl, by omega, HE, rfl⟩
          case rest =>
            obtain ⟨q0, rfl, rfl, hq0, HE, rfl⟩ := hcut
            clear q3 SG n1
            go_wp2_with fail
            go_loop [4, 7] (fun i pw => PowInv s d i pw) (fun i _ => s.size - (intOf i).toNat)
            case atStart => exact ⟨q0, 0, hq0, rfl, rfl, by omega, Lib.hid (by rw [HE.out]; exact HD2.out), Lib.hid (by rw [HE.out])⟩
            case round =>
              obtain ⟨q, P, hq, rfl, rfl, hP, hA, hC⟩ := hrel
              by_cases hlt : q < s.size
              · have hdg : isDig s[q] = true := hA.out s[q] (by rw [drop_cons s q hlt]; simp)
                have hbd := dig_bd hdg
                have NX := Lib.hid (show AllDig (s.data.toList.drop (q + 1)) ∧ capF (s.data.toList.drop (q + 1)) (min 1000 (P * 10 + dv s[q])) = capF d 0 by
                  have h1 := hA.out
                  have h2 := hC.out
                  rw [drop_cons s q hlt] at h1 h2
                  exact ⟨fun b hb => h1 b (by simp [hb]), h2⟩)
                have g3 : IntKind.u8.wrap ((s[q].toNat : Int) - 48) = ((dv s[q] : Nat) : Int) := by rw [IntWalk.u8_in _ (by omega)]; unfold dv; omega
                have d9 : dv s[q] ≤ 9 := by unfold dv; omega
                clear hA hC hdg hbd
                generalize dv s[q] = dq at *
                have g4 : IntKind.i64.wrap (dq : Int) = (dq : Int) := IntWalk.i64_in _ (by omega)
                have g5 : IntKind.i64.wrap ((P : Int) * 10) = (P : Int) * 10 := IntWalk.i64_in _ (by omega)
                have g6 : IntKind.i64.wrap ((P : Int) * 10 + (dq : Int)) = ((P * 10 + dq : Nat) : Int) := by rw [IntWalk.i64_in _ (by omega)]; omega
                have g7 : IntKind.i64.wrap ((q : Int) + 1) = ((q + 1 : Nat) : Int) := by rw [IntWalk.i64_in _ (by omega)]; omega
                by_cases h1000 : 1000 < P * 10 + dq
                · go_wp2_with fail
                  go_round
                  case rel => exact ⟨q + 1, 1000, by omega, by first | rfl | (congr 1; omega), rfl, by omega, Lib.hid NX.out.1, Lib.hid (by have := NX.out.2; rwa [Nat.min_eq_left (by omega)] at this)⟩
                  case measure => simp [intOf]; omega
                · go_wp2_with fail
                  go_round
                  case rel => exact ⟨q + 1, P * 10 + dq, by omega, by first | rfl | (congr 1; omega), by first | rfl | (congr 1; omega), by omega, Lib.hid NX.out.1, Lib.hid (by have := NX.out.2; rwa [Nat.min_eq_right (by omega)] at this)⟩
                  case measure => simp [intOf]; omega
              · have HC := Lib.hid (show sg dn (capF d 0) = sg dn P by
                  have := hC.out
                  rw [List.drop_of_length_le (by have e : s.data.toList.length = s.size := Array.length_toList; omega)] at this
                  rw [← this]; rfl)
                clear hA hC
                go_wp2_with fail
                go_meet
                exact ⟨P, dn, rfl, rfl, hP, EX.out.trans HC.out, rfl⟩
      case rest =>
        clear HD HX
        obtain ⟨P, dn, rfl, rfl, hP, hp, rfl⟩ := hcut
        have HP := Lib.hid hp
        clear hp
        obtain ⟨n', x', a', cap', ev, r1, r2, r3, r4⟩ := HV.out
        obtain ⟨rfl, rfl⟩ : n = n' ∧ sl = .slice a' (dg x').length cap' := by simpa using ev
        have HR := Lib.hid (And.intro r1 (And.intro r2 (And.intro r3 r4)))
        clear ev r1 r2 r3 r4 HV
        have f1 := H1'.out
        have c0 := f1.c0; have c1 := f1.c1; have c2 := f1.c2; have c3 := f1.c3; have z3 := f1.z 3
        have f0 := H0'.out
        have d0 := f0.z 0; have d1 := f0.z 1; have d2 := f0.z 2; have d3 := f0.z 3
        have e0 := f0.c0; have e1 := f0.c1; have e2 := f0.c2; have e3 := f0.c3
        clear f1 f0
        cases dn with
        | false =>
          have m1 : IntKind.i64.wrap ((P : Int) - (bb : Int)) = (P : Int) - (bb : Int) := IntWalk.i64_in _ (by omega)
          go_wp2_with fail
          exact read_close H1'.out H0'.out HB'.out HR.out.1 HR.out.2.1 HR.out.2.2.1 HR.out.2.2.2 (by rw [HP.out, sg_false]) rfl
        | true =>
          have m0 : IntKind.i64.wrap (0 - (P : Int)) = -(P : Int) := by rw [IntWalk.i64_in _ (by omega)]; omega
          have m1 : IntKind.i64.wrap (-(P : Int) - (bb : Int)) = -(P : Int) - (bb : Int) := IntWalk.i64_in _ (by omega)
          go_wp2_with fail
          exact read_close H1'.out H0'.out HB'.out HR.out.1 HR.out.2.1 HR.out.2.2.1 HR.out.2.2.2 (by rw [HP.out, sg_true]) rfl
end Go.Proofs.YtbjabclgekkpaaaGreatDoor
