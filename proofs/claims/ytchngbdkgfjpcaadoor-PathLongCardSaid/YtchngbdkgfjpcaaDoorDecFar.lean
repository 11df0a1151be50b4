/-
  Powers that outweigh all digits: the code's power, cut short, and the true one make the same answer; so Parse tells the answer of the text's value.
-/
import Derived.Test.YtchngbdkgfjpcaaDoorDecNearest
namespace Go.Proofs.YtchngbdkgfjpcaaDoor
open Go.RowKit Go.Shelf

theorem far_up (neg : Bool) (D : Nat) (p : Int) (hp : 5 ≤ p) : ansV (nearV neg D p) = if D = 0 then (0, 0) else (0, 2) := by
  have e : nearV neg D p = sg neg (D * 65536 * 10 ^ p.toNat) := by
    unfold nearV near
    rw [show (-p).toNat = 0 from by omega, Nat.pow_zero]
    simp
  rw [e]
  by_cases h : D = 0
  · subst h
    simp only [if_true, Nat.zero_mul]
    cases neg <;> rfl
  · rw [if_neg h]
    have h5 : 10 ^ 5 ≤ 10 ^ p.toNat := Nat.pow_le_pow_right (by decide) (by omega)
    have : 65536 * 100000 ≤ D * 65536 * 10 ^ p.toNat := Nat.mul_le_mul (by omega) h5
    generalize D * 65536 * 10 ^ p.toNat = v at *
    unfold ansV
    refine if_neg ?_
    cases neg
    · rw [sg_false]; omega
    · rw [sg_true]; omega
theorem far_down (neg : Bool) (D : Nat) (p : Int) (L : Nat) (hD : D < 10 ^ L) (hp : p ≤ -((L + 6 : Nat) : Int)) : ansV (nearV neg D p) = (0, 0) := by
  have e : nearV neg D p = 0 := by
    unfold nearV near
    rw [show p.toNat = 0 from by omega, Nat.pow_zero, Nat.mul_one]
    have hc : 10 ^ (L + 6) ≤ 10 ^ (-p).toNat := Nat.pow_le_pow_right (by decide) (by omega)
    rw [Nat.pow_add] at hc
    generalize 10 ^ (-p).toNat = c at *
    generalize 10 ^ L = K at *
    have h2 : 2 * (D * 65536) < c := by omega
    clear hc hD
    generalize D * 65536 = x at *
    refine Int.ediv_eq_zero_of_lt ?_ ?_
    · cases neg
      · rw [sg_false]; omega
      · rw [sg_true]; omega
    · cases neg
      · rw [sg_false]; omega
      · rw [sg_true]; omega
  rw [e]; rfl
theorem powF_true (l : List UInt8) : ∀ m : Nat, powF l m = m * 10 ^ l.length + nat10 l ∨ (1125899906842624 ≤ powF l m ∧ 1125899906842624 ≤ m * 10 ^ l.length + nat10 l) := by
  induction l with
  | nil => intro m; left; simp [powF, nat10]
  | cons b t ih =>
    intro m
    rw [powF_cons, nat10_cons, List.length_cons, Nat.pow_succ]
    have e : m * (10 ^ t.length * 10) + (dv b * 10 ^ t.length + nat10 t) = (10 * m + dv b) * 10 ^ t.length + nat10 t := by grind
    rw [e]
    by_cases h : m < 1125899906842624
    · rw [if_pos h]; exact ih _
    · rw [if_neg h]
      right
      refine ⟨by omega, ?_⟩
      have : (10 * m + dv b) * 1 ≤ (10 * m + dv b) * 10 ^ t.length := Nat.mul_le_mul_left _ (Nat.pow_pos (by decide))
      omega
theorem ans_pow (neg : Bool) (D L bl : Nat) (x : Expo) (hD : D < 10 ^ L) (hL : L ≤ 100000) (hb : bl ≤ 100000) : ansV (nearV neg D (exP x - bl)) = ansV (nearV neg D (exV x - bl)) := by
  cases x with
  | none => rfl
  | some y =>
    obtain ⟨c, s, d⟩ := y
    show ansV (nearV neg D (sg (decide (s = [45])) (powF d 0) - bl)) = ansV (nearV neg D (sg (decide (s = [45])) (nat10 d) - bl))
    rcases powF_true d 0 with h | ⟨h1, h2⟩
    · rw [h, Nat.zero_mul, Nat.zero_add]
    · rw [Nat.zero_mul, Nat.zero_add] at h2
      generalize powF d 0 = n at *
      generalize nat10 d = m at *
      cases decide (s = [45])
      · rw [sg_false, sg_false, far_up neg D _ (by omega), far_up neg D _ (by omega)]
      · rw [sg_true, sg_true, far_down neg D _ L hD (by omega), far_down neg D _ L hD (by omega)]

/-- Parse, of a number's text: the answer of its value. -/
theorem parse_num {l s a : List UInt8} {pt : Bool} {b : List UInt8} {x : Expo} (h : IsNum l s a pt b x) (hl : l.length ≤ 100000) :
    ansV (nearV (decide (s = [45])) (nat10 (a ++ b)) (exP x - b.length)) = ansF s a b x := by
  have e := congrArg List.length h.text
  simp only [List.length_append] at e
  have : b.length ≤ (ptL pt b).length := by
    cases pt with
    | false => rw [h.hpt rfl]; simp
    | true => simp [ptL]
  have lt := nat10_lt (a ++ b) (fun c hc => by
    rcases List.mem_append.1 hc with hc | hc
    · exact h.ha c hc
    · exact h.hb c hc)
  exact ans_pow _ _ (a ++ b).length b.length x lt (by simp; omega) (by omega)

def Tells (an : Int × Int) (w : World) (e : Ending) (w' : World) : Prop := e = .returned (.tuple #[.int .i64 an.1, .int .i64 an.2]) ∧ Below w.heap.size w w'
set_option maxHeartbeats 1000000 in
theorem Parse_num (s : ByteArray) (sg' a : List UInt8) (pt : Bool) (b : List UInt8) (x : Expo) (w : World) (hs : s.size ≤ 100000) (T : Tabs w) (h : IsNum s.data.toList sg' a pt b x) :
    Calls Tryd.prog 76 #[.string s] w (Tells (ansF sg' a b x) w) := by
  have A := Lib.hid (Scan_any s 0 true w (by unfold maxLen; omega) (by omega) T.follows)
  simp only [if_true, List.drop_zero, Nat.zero_add] at A
  have hA := h.acc
  have N := Lib.hid (nearest_any s sg' a pt b x w hs h T.max (Nat.lt_of_lt_of_le gN_max T.size))
  unfold NearPost nearP at N
  rw [parse_num h (by rw [← size_list]; omega)] at N
  rw [show (walkL s.data.toList 1).1 = s.size from by rw [hA.1, size_list], hA.2] at A
  generalize ansF sg' a b x = an at *
  clear hA h T
  go_enter Tryd.func76, Tryd.ntmps76
  go_wp2_with fail
  refine A.out.mono ?_
  rintro e w1 ⟨rfl, rfl⟩
  go_wp2_with fail
  refine N.out.mono ?_
  rintro e w2 ⟨⟨n, ok, rfl, he⟩, b2⟩
  cases ok
  · obtain rfl : an = (0, 2) := he.symm
    clear he
    go_wp2_with fail
    go_ret2
    exact ⟨rfl, b2⟩
  · obtain rfl : an = (n, 0) := he.symm
    clear he
    go_wp2_with fail
    go_ret2
    exact ⟨rfl, b2⟩
theorem Parse_bad (s : ByteArray) (w : World) (hs : s.size ≤ 100000) (T : Tabs w) (h : ¬ Acc s.data.toList 1) :
    Calls Tryd.prog 76 #[.string s] w (Tells (0, 3) w) := by
  refine (Parse_any s w hs T).mono ?_
  rintro e w' ⟨⟨n, er, rfl, hh⟩, hb⟩
  rcases hh with ⟨_, rfl, rfl⟩ | ⟨_, _, _, _, _, hn, _⟩
  · exact ⟨rfl, hb⟩
  · exact absurd hn.acc h

theorem Follows.below {w w' : World} {B : Nat} (h : Follows w) (t : Below B w w') (hB : 4 < B) : Follows w' := fun st k h1 h2 => by
  rw [t.cell (p := ⟨4, st * 4 + k, none⟩) hB]; exact h st k h1 h2
theorem Tabs.below {w w' : World} {B : Nat} (h : Tabs w) (t : Below B w w') (hB : gN ≤ B) (hw : w.heap.size ≤ w'.heap.size) : Tabs w' :=
  ⟨h.follows.below t (Nat.lt_of_lt_of_le gN_follows hB), h.max.below t (Nat.lt_of_lt_of_le gN_max hB), by have := h.size; omega⟩
theorem Tabs.next {w w' : World} (h : Tabs w) (t : Below w.heap.size w w') : Tabs w' := h.below t h.size t.size
end Go.Proofs.YtchngbdkgfjpcaaDoor
