/-
  The contracts of the document's answers for layer 1: trim and less, over rows of digits that lie in memory.
-/
import Derived.Test.YthnjdncnmdmjaaaBase
import Derived.Test.YthnjdncnmdmjaaaDig
import Derived.Deep.QuietTactic
namespace Go.Proofs.Ythnjdncnmdmjaaa
open Go.RowKit Go.Shelf

/-- The live cells of a row of digits. -/
def Row (a : Option Addr) (zs : List Nat) (w : World) : Prop :=
  zs = [] ∨ ∃ b off : Nat, a = some ⟨b, off, none⟩ ∧ b < w.heap.size ∧ ∀ i, i < zs.length → w.cell? ⟨b, off + i, none⟩ = some (.int .i64 (zs.getD i 0 : Nat))

theorem Row.below {a : Option Addr} {zs : List Nat} {w w' : World} (h : Row a zs w) {B : Nat} (hb : Below B w w') (hB : w.heap.size ≤ B) : Row a zs w' := by
  rcases h with h | ⟨b, off, ha, hlt, hc⟩
  · exact Or.inl h
  · refine Or.inr ⟨b, off, ha, Nat.lt_of_lt_of_le hlt hb.size, fun i hi => ?_⟩
    rw [hb.cell (p := ⟨b, off + i, none⟩) (Nat.lt_of_lt_of_le hlt hB)]
    exact hc i hi
theorem Row.pos {a : Option Addr} {zs : List Nat} {w : World} (h : Row a zs w) {k : Nat} (hk : k < zs.length) :
    ∃ b off : Nat, a = some ⟨b, off, none⟩ ∧ b < w.heap.size ∧ ∀ i, i < zs.length → w.cell? ⟨b, off + i, none⟩ = some (.int .i64 (zs.getD i 0 : Nat)) := by
  rcases h with h | h
  · subst h; simp at hk
  · exact h
theorem Row.take {a : Option Addr} {zs : List Nat} {w : World} (h : Row a zs w) (n : Nat) : Row a (zs.take n) w := by
  rcases h with h | ⟨b, off, ha, hlt, hc⟩
  · subst h; left; simp
  · refine Or.inr ⟨b, off, ha, hlt, fun i hi => ?_⟩
    rw [List.length_take] at hi
    rw [hc i (by omega), List.getD_eq_getElem?_getD, List.getD_eq_getElem?_getD, List.getElem?_take, if_pos (by omega)]
theorem Row.drewN {a : Option Addr} {zs : List Nat} {w : World} (h : Row a zs w) (n : Nat) : Row a zs (w.drewN n) := h

theorem trim_prefix (zs : List Nat) : trimL zs = zs.take (trimL zs).length := by
  induction zs with
  | nil => rfl
  | cons d r ih =>
    rw [trimL]
    split
    · rfl
    · rw [List.length_cons, List.take_succ_cons, ← ih]
theorem trim_length (zs : List Nat) : (trimL zs).length ≤ zs.length := by
  have h := congrArg List.length (trim_prefix zs)
  rw [List.length_take] at h
  omega
theorem Row.trim {a : Option Addr} {zs : List Nat} {w : World} (h : Row a zs w) : Row a (trimL zs) w := by
  rw [trim_prefix]; exact h.take _

theorem drew_two (w : World) (a b : Nat) : (w.drewN a).drewN b = w.drewN (a + b) := by simp [World.drewN, Nat.add_assoc]

def lenOf : Value → Nat
  | .slice _ n _ => n
  | _ => 0

set_option maxHeartbeats 1000000 in
theorem trim_any (a : Option Addr) (zs : List Nat) (cap : Nat) (w : World) (hl : zs.length ≤ cap) (hm : cap ≤ 9223372036854775807) (h : Row a zs w) :
    Calls Try.prog 73 #[.slice a zs.length cap] w fun e w' => e = .returned (.slice a (trimL zs).length cap) ∧ w = w' := by
  have HI := Lib.hid h
  clear h
  go_enter Try.func73, Try.ntmps73
  go_wp2
  go_loop [0] (fun d => ∃ n : Nat, n ≤ zs.length ∧ d = .slice a n cap ∧ Hid (trimL (zs.take n) = trimL zs)) (fun d => lenOf d)
  case atStart => exact ⟨zs.length, Nat.le_refl _, rfl, by unfold Hid; rw [List.take_length]⟩
  case round =>
    obtain ⟨n, hn, rfl, ht⟩ := hrel
    rcases Nat.eq_zero_or_pos n with rfl | hp
    · go_wp2
      go_ret
      have e := ht.out
      rw [List.take_zero, trimL] at e
      exact ⟨by rw [← e]; rfl, rfl⟩
    · obtain ⟨k, rfl⟩ : ∃ k, n = k + 1 := ⟨n - 1, by omega⟩
      obtain ⟨b, off, rfl, hbl, hc⟩ := HI.out.pos (k := k) (by omega)
      have hcell := hc k (by omega)
      have HS := Lib.hid (take_snoc zs k (by omega))
      clear hc
      generalize zs.getD k 0 = z at *
      by_cases hz : z = 0
      · subst hz
        go_wp2
        go_round
        case rel => exact ⟨k, by omega, rfl, by unfold Hid; rw [← ht.out, HS.out, trim_snoc_zero]⟩
        case measure => simp [lenOf]
      · have hz' : ((z : Int) == 0) = false := by rw [beq_eq_false_iff_ne]; omega
        go_wp2
        go_ret
        have e := ht.out
        rw [HS.out, trim_snoc_pos _ _ hz] at e
        refine ⟨?_, rfl⟩
        rw [← e, List.length_append, List.length_take, Nat.min_eq_left (by omega)]
        rfl

theorem drop_alike (xs ys : List Nat) (k : Nat) (hx : k < xs.length) (hy : k < ys.length) (h : xs.drop (k + 1) = ys.drop (k + 1)) (e : xs.getD k 0 = ys.getD k 0) : xs.drop k = ys.drop k := by
  rw [List.drop_eq_getElem_cons hx, List.drop_eq_getElem_cons hy, h]
  rw [List.getD_eq_getElem?_getD, List.getElem?_eq_getElem hx, List.getD_eq_getElem?_getD, List.getElem?_eq_getElem hy] at e
  simp at e
  rw [e]

set_option maxHeartbeats 1000000 in
theorem less_any (a b : Option Addr) (xs ys : List Nat) (c1 c2 : Nat) (w : World) (hx : Small xs) (hy : Small ys) (l1 : xs.length ≤ 9223372036854775807) (h1 : Row a xs w) (h2 : Row b ys w) :
    Calls Try.prog 83 #[.slice a xs.length c1, .slice b ys.length c2] w fun e w' => e = .returned (.bool (lessB xs ys)) ∧ ∃ n, w' = w.drewN n := by
  by_cases hl : xs.length = ys.length
  · have HE := Lib.hid (show lessB xs ys = decide (val xs < val ys) by unfold lessB; rw [if_neg (by simpa using hl)])
    have HL := Lib.hid hl
    have HX := Lib.hid hx
    have HY := Lib.hid hy
    have H1 := Lib.hid h1
    have H2 := Lib.hid h2
    rw [← hl]
    clear hl hx hy h1 h2
    go_enter Try.func83, Try.ntmps83
    go_wp2
    go_loopw [5] (fun i wr => ∃ k n : Nat, k ≤ xs.length ∧ i = .int .i64 ((k : Int) - 1) ∧ wr = w.drewN n ∧ Hid (xs.drop k = ys.drop k)) (fun i _ => (intOf i + 1).toNat)
    case atStart => exact ⟨xs.length, 0, Nat.le_refl _, rfl, rfl, by unfold Hid; rw [List.drop_length, HL.out, List.drop_length]⟩
    case round =>
      obtain ⟨k, n, hk, rfl, rfl, hd⟩ := hrel
      rcases Nat.eq_zero_or_pos k with rfl | hp
      · go_wp2
        go_ret
        refine ⟨?_, n, rfl⟩
        have e := hd.out
        rw [List.drop_zero, List.drop_zero] at e
        rw [HE.out, e]
        simp
      · obtain ⟨m, rfl⟩ : ∃ m, k = m + 1 := ⟨k - 1, by omega⟩
        obtain ⟨b1, o1, rfl, q1, hc1⟩ := H1.out.pos (k := m) (by omega)
        obtain ⟨b2, o2, rfl, q2, hc2⟩ := H2.out.pos (k := m) (by have := HL.out; omega)
        have g1 := hc1 m (by omega)
        have g2 := hc2 m (by have := HL.out; omega)
        have HA := Lib.hid (fun hne => less_at xs ys m HX.out HY.out HL.out (by omega) hd.out hne)
        have HB := Lib.hid (fun e => drop_alike xs ys m (by omega) (by have := HL.out; omega) hd.out e)
        clear hc1 hc2
        generalize xs.getD m 0 = x at *
        generalize ys.getD m 0 = y at *
        by_cases hxy : x = y
        · subst hxy
          have HBx := Lib.hid (HB.out rfl)
          clear HB HA
          go_wp2
          go_quiet (fail)
          go_wp2
          go_roundw
          case rel => exact ⟨m, _, by omega, rfl, rfl, HBx⟩
          case measure => simp [intOf]
        · have t1 : ((x : Int) != y) = true := by rw [bne_iff_ne]; omega
          have t2 : ((x : Int) == y) = false := by rw [beq_eq_false_iff_ne]; omega
          have HR := Lib.hid (HE.out.trans (HA.out hxy))
          go_wp2
          go_quiet (fail)
          go_wp2
          go_quiet (fail)
          go_wp2
          go_ret
          exact ⟨by rw [HR.out]; simp, _, (congrArg (World.drewN · _) (drew_two _ _ _)).trans (drew_two _ _ _)⟩
  · have HE := Lib.hid (show lessB xs ys = decide (xs.length < ys.length) by unfold lessB; rw [if_pos hl])
    have t1 : ((xs.length : Int) != ys.length) = true := by rw [bne_iff_ne]; omega
    have t2 : ((xs.length : Int) == ys.length) = false := by rw [beq_eq_false_iff_ne]; omega
    clear hx hy h1 h2
    go_enter Try.func83, Try.ntmps83
    go_wp2
    go_ret
    exact ⟨by rw [HE.out]; simp, 0, rfl⟩
end Go.Proofs.Ythnjdncnmdmjaaa
