/-
  A number's text, as plain mathematics: a sign, the whole number's digits, a point and the digits behind it; it is a number's text, and its value is the number. No program.
-/
import Derived.Test.YtchngbdkgfjpcaaDoorDecNums
import Derived.Lib.ItoaNum
namespace Go.Proofs.YtchngbdkgfjpcaaDoor

theorem digL_dec (u : Nat) : Lib.decDigits u = digL u := by
  induction u using Nat.strongRecOn with
  | ind u ih =>
    rw [Lib.decDigits, digL]
    split
    · rename_i h; unfold db; rw [Nat.mod_eq_of_lt h]
    · rw [ih _ (by omega)]; rfl

/-- The digits behind the point, at most f of them. -/
def frac : Nat → Nat → List UInt8
  | 0, _ => []
  | f + 1, r => if r = 0 then [] else UInt8.ofNat (48 + 10 * r / 65536) :: frac f (10 * r % 65536)
theorem frac_zero (f : Nat) : frac f 0 = [] := by cases f <;> rfl
theorem fb_nat (r : Nat) (h : r < 65536) : (UInt8.ofNat (48 + 10 * r / 65536)).toNat = 48 + 10 * r / 65536 := by
  rw [UInt8.toNat_ofNat']; omega
theorem frac_all (f : Nat) : ∀ r, r < 65536 → AllDig (frac f r) := by
  induction f with
  | zero => intro r _; exact allDig_nil
  | succ f ih =>
    intro r h
    unfold frac
    split
    · exact allDig_nil
    · refine allDig_cons ?_ (ih _ (Nat.mod_lt _ (by decide)))
      unfold isDig; rw [fb_nat r h]; simp; omega
/-- What is left has so many noughts that it ends. -/
def Ends (f r : Nat) : Prop := r < 65536 ∧ r * 10 ^ f % 65536 = 0
theorem Ends.zero {r : Nat} (h : Ends 0 r) : r = 0 := by
  obtain ⟨h1, h2⟩ := h
  rw [Nat.pow_zero, Nat.mul_one] at h2
  omega
theorem Ends.next {f r : Nat} (h : Ends (f + 1) r) : Ends f (10 * r % 65536) := by
  obtain ⟨h1, h2⟩ := h
  refine ⟨Nat.mod_lt _ (by decide), ?_⟩
  rw [Nat.mod_mul_mod]
  rw [Nat.pow_succ] at h2
  rw [show 10 * r * 10 ^ f = r * (10 ^ f * 10) from by grind]
  exact h2
theorem ends_start (r : Nat) (h : r < 65536) : Ends 16 r := by
  refine ⟨h, ?_⟩
  rw [show (10 : Nat) ^ 16 = 65536 * 152587890625 from by decide, show r * (65536 * 152587890625) = 65536 * (r * 152587890625) from by grind]
  exact Nat.mul_mod_right _ _
theorem frac_val (f : Nat) : ∀ r, Ends f r → nat10 (frac f r) * 65536 = r * 10 ^ (frac f r).length := by
  induction f with
  | zero => intro r h; rw [h.zero]; simp [frac, nat10]
  | succ f ih =>
    intro r h
    unfold frac
    split
    · rename_i h0; subst h0; simp [nat10]
    · have e := ih _ h.next
      rw [nat10_cons, List.length_cons, Nat.pow_succ]
      have ed : dv (UInt8.ofNat (48 + 10 * r / 65536)) = 10 * r / 65536 := by unfold dv; rw [fb_nat r h.1]; omega
      rw [ed]
      have hd := Nat.div_add_mod (10 * r) 65536
      generalize 10 * r / 65536 = q at *
      generalize 10 * r % 65536 = m at *
      generalize 10 ^ (frac f m).length = T at *
      generalize nat10 (frac f m) = n at *
      have : r * (T * 10) = (65536 * q + m) * T := by rw [hd]; grind
      rw [this]
      grind
theorem frac_len (f : Nat) : ∀ r, (frac f r).length ≤ f := by
  induction f with
  | zero => intro r; simp [frac]
  | succ f ih => intro r; unfold frac; split; · simp
                 · have := ih (10 * r % 65536); simp; omega
theorem frac_ne (f r : Nat) (h : r ≠ 0) : frac (f + 1) r ≠ [] := by unfold frac; rw [if_neg h]; simp
/-- More room makes no difference. -/
theorem frac_more (f : Nat) : ∀ r, Ends f r → frac (f + 1) r = frac f r := by
  induction f with
  | zero => intro r h; rw [h.zero]; rfl
  | succ f ih =>
    intro r h
    rw [frac]
    conv => rhs; rw [frac]
    split
    · rfl
    · rw [ih _ h.next]

def signL (neg : Bool) : List UInt8 := if neg then [45] else []
/-- The text of the number of size S. -/
def printL (neg : Bool) (S : Nat) : List UInt8 := signL neg ++ (digL (S / 65536) ++ ptL (decide (S % 65536 ≠ 0)) (frac 16 (S % 65536)))
theorem print_num (neg : Bool) (S : Nat) : IsNum (printL neg S) (signL neg) (digL (S / 65536)) (decide (S % 65536 ≠ 0)) (frac 16 (S % 65536)) none := by
  have h := Nat.mod_lt S (show 65536 > 0 by decide)
  refine ⟨?_, digL_all _, frac_all 16 _ h, ?_, ?_, trivial, ?_⟩
  · cases neg
    · exact Or.inl rfl
    · exact Or.inr (Or.inr rfl)
  · intro e
    have : S % 65536 = 0 := by simpa using e
    rw [this]; exact frac_zero 16
  · have := digL_pos (S / 65536); omega
  · unfold printL; simp [expo]
theorem print_sign (neg : Bool) : decide (signL neg = [45]) = neg := by cases neg <;> rfl
theorem near_exact (z : Int) (d : Nat) (hd : 0 < d) : near (z * d) d = z := by
  have := near_whole 0 z d hd
  rw [Int.zero_add] at this
  rw [this]
  unfold near
  rw [Int.zero_add, Int.ediv_eq_zero_of_lt (by omega) (by omega)]
  omega
theorem print_ans (neg : Bool) (S : Nat) : ansF (signL neg) (digL (S / 65536)) (frac 16 (S % 65536)) none = ansV (sg neg S) := by
  unfold ansF
  rw [print_sign]
  congr 1
  show nearV neg _ (0 - _) = _
  have h := Nat.mod_lt S (show 65536 > 0 by decide)
  have e := frac_val 16 _ (ends_start _ h)
  have hv : nat10 (digL (S / 65536) ++ frac 16 (S % 65536)) * 65536 = S * 10 ^ (frac 16 (S % 65536)).length := by
    rw [nat10_append, digL_nat, Nat.add_mul, e]
    have hd := Nat.div_add_mod S 65536
    generalize S / 65536 = q at *
    generalize 10 ^ (frac 16 (S % 65536)).length = T at *
    generalize S % 65536 = m at *
    rw [← hd]
    grind
  unfold nearV
  rw [show ((0 : Int) - ((frac 16 (S % 65536)).length : Int)).toNat = 0 from by omega, show (-((0 : Int) - ((frac 16 (S % 65536)).length : Int))).toNat = (frac 16 (S % 65536)).length from by omega, Nat.pow_zero, Nat.mul_one, hv]
  have hp : 0 < 10 ^ (frac 16 (S % 65536)).length := Nat.pow_pos (by decide)
  generalize 10 ^ (frac 16 (S % 65536)).length = T at *
  have es : sg neg (S * T) = sg neg S * (T : Int) := by
    cases neg
    · rw [sg_false, sg_false]; push_cast; rfl
    · rw [sg_true, sg_true]; push_cast; rw [Int.neg_mul]
  rw [es]
  exact near_exact _ _ hp
end Go.Proofs.YtchngbdkgfjpcaaDoor
