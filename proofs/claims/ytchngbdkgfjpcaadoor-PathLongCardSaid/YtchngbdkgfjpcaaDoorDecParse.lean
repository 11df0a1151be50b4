/-
  The contracts of package dec's parted, nearest and Parse: any text's answer.
-/
import Derived.Test.YtchngbdkgfjpcaaDoorDecTake
import Derived.Test.YtchngbdkgfjpcaaDoorJMath
namespace Go.Proofs.YtchngbdkgfjpcaaDoor
open Go.RowKit Go.Shelf

def exP : Expo → Int
  | none => 0
  | some (_, s, d) => sg (decide (s = [45])) (powF d 0)

theorem size_list (s : ByteArray) : s.size = s.data.toList.length := by rw [Array.length_toList]; rfl
theorem ba_list (l : List UInt8) : (⟨l.toArray⟩ : ByteArray).data.toList = l := by simp
theorem ba_size (l : List UInt8) : (⟨l.toArray⟩ : ByteArray).size = l.length := by simp [ByteArray.size]
theorem ba_of (s : ByteArray) : s = ⟨s.data.toList.toArray⟩ := by simp

theorem indexAny_any (s : ByteArray) (w : World) (hs : s.size ≤ 100000) (ha : ∀ c ∈ s.data.toList, c.toNat < 128) :
    Calls Tryd.prog 103 #[.string s, .string ⟨#[101, 69]⟩] w fun e w' => e = .returned (.int .i64 (Lib.indexAny s.data.toList [101, 69])) ∧ Below w.heap.size w w' :=
  Any.strings_IndexAny_laid Tryd.lays153 (by kernel_rfl) s ⟨#[101, 69]⟩ w (by omega) (by decide) (fun j b hb => ha b (List.mem_of_getElem? hb)) (ascii_of_all (by decide))

theorem parted_none (s : ByteArray) (sg' a : List UInt8) (pt : Bool) (b : List UInt8) (w : World) (hs : s.size ≤ 100000) (h : IsNum s.data.toList sg' a pt b none) :
    Calls Tryd.prog 96 #[.string s] w fun e w' => e = .returned (.tuple #[.string ⟨(a ++ ptL pt b).toArray⟩, .int .i64 0]) ∧ Below w.heap.size w w' := by
  have A := Lib.hid (indexAny_any s w hs (num_ascii h))
  have et : s.data.toList = sg' ++ (a ++ ptL pt b) := by have := h.text; simpa [expo] using this
  have B := Lib.hid (fun w => unsigned_any s w)
  rw [indexAny_none _ (by rw [et]; exact no_let h)] at A
  rw [et, trim_sgn sg' _ h.hsg (head_body h)] at B
  generalize (⟨(a ++ ptL pt b).toArray⟩ : ByteArray) = m at *
  clear h et
  go_enter Tryd.func96, Tryd.ntmps96
  go_wp2_with fail
  refine A.out.mono ?_
  rintro e w1 ⟨rfl, b1⟩
  have B1 := Lib.hid b1
  clear b1
  go_wp2_with fail
  refine (B.out _).mono ?_
  rintro e w2 ⟨rfl, b2⟩
  go_wp2_with fail
  go_ret2
  exact ⟨rfl, B1.out.trans (b2.mono B1.out.size)⟩

theorem parted_some (s : ByteArray) (sg' a : List UInt8) (pt : Bool) (b : List UInt8) (c : UInt8) (s2 d : List UInt8) (w : World) (hs : s.size ≤ 100000) (h : IsNum s.data.toList sg' a pt b (some (c, s2, d))) :
    Calls Tryd.prog 96 #[.string s] w fun e w' => e = .returned (.tuple #[.string ⟨(a ++ ptL pt b).toArray⟩, .int .i64 (sg (decide (s2 = [45])) (powF d 0))]) ∧ Below w.heap.size w w' := by
  have A := Lib.hid (indexAny_any s w hs (num_ascii h))
  have et : s.data.toList = (sg' ++ (a ++ ptL pt b)) ++ c :: (s2 ++ d) := by have := h.text; simpa [expo] using this
  have hl : (sg' ++ (a ++ ptL pt b)).length < s.size := by
    have e2 := congrArg List.length et
    rw [List.length_append, List.length_cons] at e2
    rw [size_list]; omega
  rw [et, indexAny_at _ _ _ (no_let h) h.hx.1] at A
  have X1 : (s.extract ((sg' ++ (a ++ ptL pt b)).length + 1) s.size).data.toList = s2 ++ d := by
    rw [Lib.extract_data, size_list, et, List.drop_append, List.drop_of_length_le (by omega), List.nil_append, show (sg' ++ (a ++ ptL pt b)).length + 1 - (sg' ++ (a ++ ptL pt b)).length = 1 from by omega]
    refine List.take_of_length_le ?_
    have e2 := congrArg List.length et
    rw [List.length_append, List.length_cons] at e2
    rw [← et, e2]
    simp; omega
  have X2 : (s.extract 0 (sg' ++ (a ++ ptL pt b)).length).data.toList = sg' ++ (a ++ ptL pt b) := by
    rw [Lib.extract_data, et, List.drop_zero, Nat.sub_zero, List.take_left]
  generalize (sg' ++ (a ++ ptL pt b)).length = n at *
  have hd := h.hx.2.2.1
  have P := Lib.hid (fun w => powerOf_any (s.extract (n + 1) s.size) ⟨d.toArray⟩ w (by rw [X1, trim_sgn s2 d h.hx.2.1 (head_digs hd)]) (by
    have e2 := congrArg List.length et
    simp only [List.length_append, List.length_cons] at e2
    rw [ba_size]
    rw [size_list] at hs
    omega) (by rw [ba_list]; exact hd))
  rw [X1, pre_neg s2 d h.hx.2.1 (head_digs hd), ba_list] at P
  have B := Lib.hid (fun w => unsigned_any (s.extract 0 n) w)
  rw [X2, trim_sgn sg' _ h.hsg (head_body h)] at B
  generalize (⟨(a ++ ptL pt b).toArray⟩ : ByteArray) = m at *
  generalize sg (decide (s2 = [45])) (powF d 0) = x at *
  have i0 : (0 : Int) ≤ (n : Int) := by omega
  clear h et X1 X2 hd
  go_enter Tryd.func96, Tryd.ntmps96
  go_wp2_with fail
  refine A.out.mono ?_
  rintro e w1 ⟨rfl, b1⟩
  have B1 := Lib.hid b1
  clear b1
  go_wp2_with fail
  refine (P.out _).mono ?_
  rintro e w2 ⟨rfl, b2⟩
  have B2 := Lib.hid b2
  clear b2
  go_wp2_with fail
  refine (B.out _).mono ?_
  rintro e w3 ⟨rfl, b3⟩
  go_wp2_with fail
  go_ret2
  have s1 := B1.out.size
  have s2 := B2.out.size
  exact ⟨rfl, (B1.out.trans (B2.out.mono s1)).trans (b3.mono (by omega))⟩

theorem parted_any (s : ByteArray) (sg' a : List UInt8) (pt : Bool) (b : List UInt8) (x : Expo) (w : World) (hs : s.size ≤ 100000) (h : IsNum s.data.toList sg' a pt b x) :
    Calls Tryd.prog 96 #[.string s] w fun e w' => e = .returned (.tuple #[.string ⟨(a ++ ptL pt b).toArray⟩, .int .i64 (exP x)]) ∧ Below w.heap.size w w' := by
  cases x with
  | none => exact parted_none s sg' a pt b w hs h
  | some y => obtain ⟨c, s2, d⟩ := y; exact parted_some s sg' a pt b c s2 d w hs h

/-- What is read of other packages' variables: the length at which a search changes its way is some number. -/
def SomeMax (w : World) : Prop := ∃ m : Int, w.cell? ⟨2, 0, none⟩ = some (.int .i64 m)
theorem cut_any (a b : List UInt8) (pt : Bool) (w : World) (ha : AllDig a) (hpt : pt = false → b = []) (hl : (a ++ ptL pt b).length ≤ 100000) (hm : SomeMax w) :
    Calls Tryd.prog 97 #[.string ⟨(a ++ ptL pt b).toArray⟩, .string ⟨#[46]⟩] w fun e w' => e = .returned (.tuple #[.string ⟨a.toArray⟩, .string ⟨b.toArray⟩, .bool pt]) ∧ ∃ n, w' = w.drewN n := by
  obtain ⟨m, hm⟩ := hm
  have C := Any.strings_Cut Tryd.lays145 ⟨(a ++ ptL pt b).toArray⟩ ⟨#[46]⟩ m w (by rw [ba_size]; omega) hm
  rw [ba_list] at C
  rw [cut_pt a b pt ha hpt] at C
  exact C
theorem below_drewq {b : Nat} {w w' : World} (h : Below b w w') (n : Nat) : Below b w (w'.drewN n) := ⟨h.os, h.tape, h.output, h.size, h.block⟩
theorem SomeMax.below {w w' : World} {B : Nat} (h : SomeMax w) (t : Below B w w') (hB : 2 < B) : SomeMax w' := by
  obtain ⟨m, hm⟩ := h
  exact ⟨m, by rw [t.cell (p := ⟨2, 0, none⟩) hB]; exact hm⟩
theorem powF_le (l : List UInt8) : ∀ n : Nat, AllDig l → n ≤ 11258999068426249 → powF l n ≤ 11258999068426249 := by
  induction l with
  | nil => intro n _ h; exact h
  | cons b t ih =>
    intro n hd h
    have := dv_lt (hd b (by simp))
    unfold powF
    split
    · exact ih _ (fun x hx => hd x (by simp [hx])) (by omega)
    · exact h
theorem exP_bd (x : Expo) (h : XOk x) : -11258999068426249 ≤ exP x ∧ exP x ≤ 11258999068426249 := by
  cases x with
  | none => exact ⟨by decide, by decide⟩
  | some y =>
    obtain ⟨c, s, d⟩ := y
    have := powF_le d 0 h.2.2.1 (by decide)
    show -11258999068426249 ≤ sg (decide (s = [45])) (powF d 0) ∧ sg (decide (s = [45])) (powF d 0) ≤ 11258999068426249
    unfold sg
    split <;> omega

/-- What nearest tells. -/
def nearP (neg : Bool) (D : Nat) (p : Int) (e : Ending) : Prop :=
  ∃ n ok, e = .returned (.tuple #[.int .i64 n, .bool ok]) ∧ (if ok then (n, (0 : Int)) else (0, 2)) = ansV (nearV neg D p)
theorem ans_fits (n : Int) : (if (decide (-4294967296 < n) && decide (n < 4294967296)) = true then (n, (0 : Int)) else (0, 2)) = ansV n := by
  unfold ansV
  simp only [Bool.and_eq_true, decide_eq_true_eq]
theorem roundV_bd (neg : Bool) (wh kp : Nat) (more : Bool) (h1 : wh < 100000) (h2 : kp < 100000000000000000) : -10000000000000 ≤ roundV neg wh kp more ∧ roundV neg wh kp more ≤ 10000000000000 := by
  have q : kp / 762939453125 ≤ 131072 := Nat.div_le_of_le_mul (by omega)
  unfold roundV halvesN
  generalize kp / 762939453125 = x at *
  cases neg <;> cases restB kp more <;> simp <;> omega
end Go.Proofs.YtchngbdkgfjpcaaDoor
