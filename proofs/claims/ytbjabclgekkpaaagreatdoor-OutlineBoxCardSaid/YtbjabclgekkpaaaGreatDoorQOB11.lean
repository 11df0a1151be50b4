/- Joined: ScanNum. -/
import Derived.Test.YtbjabclgekkpaaaGreatDoorQOB10
namespace Go.Proofs.YtbjabclgekkpaaaGreatDoor
open Go.RowKit Go.Shelf
/-- What the laws ask of memory: the table of states, the table of blanks. -/
structure STabs (w : World) : Prop where
  tabs : Tabs w
  blks : Blks w
theorem STabs.next {w w' : World} (h : STabs w) (t : Below w.heap.size w w') : STabs w' := ⟨h.tabs.next t, h.blks.below t h.tabs.size⟩
theorem STabs.turned {w w' : World} {b : Nat} (h : STabs w) (t : Turned b w w') (hb : gN ≤ b) : STabs w' :=
  ⟨h.tabs.below (t.below hb h.tabs.size) (Nat.le_refl _) t.size, h.blks.turned t hb h.tabs.size⟩
/-- The number's end, and whether one ends there. -/
def nmE (s : ByteArray) (k : Nat) (signed : Bool) : Nat := k + (wk (s.data.toList.drop k) (if signed then 1 else 2)).1
def nmW (s : ByteArray) (k : Nat) (signed : Bool) : Bool := (wk (s.data.toList.drop k) (if signed then 1 else 2)).2
theorem nmE_le (s : ByteArray) (k : Nat) (signed : Bool) (h : k ≤ s.size) : k ≤ nmE s k signed ∧ nmE s k signed ≤ s.size := by
  have := walk_fst_le (s.data.toList.drop k) (if signed then 1 else 2)
  rw [List.length_drop, Array.length_toList] at this
  have e : s.data.size = s.size := rfl
  unfold nmE wk
  omega
/-- Number, where none ends. -/
theorem Number_bad (b : Nat) (s : ByteArray) (k : Nat) (signed : Bool) (w : World) (H : Rdr b s k w) (hs : s.size ≤ maxLen) (hk : k ≤ s.size) (T : STabs w) (h : nmW s k signed = false) :
    Calls Tryz.prog 171 #[.pointer (some ⟨b, 0, none⟩), .bool signed] w fun e w' => e = .returned (.tuple #[.int .i64 0, .int .i64 3]) ∧ Turned b w w' ∧ Rdr b s (nmE s k signed) w' := by
  have A := Lib.hid (fun w (hF : Follows w) => Scan_any s k signed w hs hk hF)
  have hs' : s.size ≤ 9223372036854775807 := hs
  have e1 : (wholeS (walkL (s.data.toList.drop k) (if signed then 1 else 2)).2) = nmW s k signed := rfl
  have e2 : (k + (walkL (s.data.toList.drop k) (if signed then 1 else 2)).1) = nmE s k signed := rfl
  rw [e1, e2, h] at A
  have c0 := H.c0
  have c1 := H.c1
  have z1 := H.z1
  have HR := Lib.hid H
  have HT := Lib.hid T
  have hE := (nmE_le s k signed hk)
  clear e1 e2 hs T H h
  generalize nmE s k signed = n at *
  go_enter Tryz.func171, Tryz.ntmps171
  go_wp2_with fail
  go_region_held3 (fun w' => w'.cell? ⟨b, 0, none⟩ = some (.string s) ∧ w'.cell? ⟨b, 1, none⟩ = some (.int .i64 (k : Int))) (simp [go_sem, *])
    (first | (go_at_call 199; refine (A.out _ (by exact HT.out.tabs.follows)).mono ?_; rintro e wA ⟨rfl, rfl⟩))
  go_wp2_with fail
  go_ret2
  exact ⟨rfl, ((Turned.refl b w).set 1 _).drew, HR.out.set⟩
/-- Number, where one ends: what Parse tells of its text. -/
theorem Number_ok (b : Nat) (s : ByteArray) (k : Nat) (signed : Bool) (an : Int × Int) (w : World) (H : Rdr b s k w) (hs : s.size ≤ maxLen) (hk : k ≤ s.size) (T : STabs w) (h : nmW s k signed = true)
    (hP : ∀ w, Tabs w → Calls Tryz.prog 200 #[.string (s.extract k (nmE s k signed))] w (Tells an w)) :
    Calls Tryz.prog 171 #[.pointer (some ⟨b, 0, none⟩), .bool signed] w fun e w' => e = .returned (.tuple #[.int .i64 an.1, .int .i64 an.2]) ∧ Turned b w w' ∧ Rdr b s (if an.2 = 0 then nmE s k signed else k) w' := by
  have A := Lib.hid (fun w (hF : Follows w) => Scan_any s k signed w hs hk hF)
  have hs' : s.size ≤ 9223372036854775807 := hs
  have e1 : (wholeS (walkL (s.data.toList.drop k) (if signed then 1 else 2)).2) = nmW s k signed := rfl
  have e2 : (k + (walkL (s.data.toList.drop k) (if signed then 1 else 2)).1) = nmE s k signed := rfl
  rw [e1, e2, h] at A
  have P := Lib.hid hP
  unfold Tells at P
  have c0 := H.c0
  have c1 := H.c1
  have HR := Lib.hid H
  have HT := Lib.hid T
  have hE := (nmE_le s k signed hk)
  clear e1 e2 hs T H h hP
  generalize nmE s k signed = n at *
  have lt := HR.out.lt
  go_enter Tryz.func171, Tryz.ntmps171
  go_wp2_with fail
  go_region_held3 (fun w' => w'.cell? ⟨b, 0, none⟩ = some (.string s) ∧ w'.cell? ⟨b, 1, none⟩ = some (.int .i64 (k : Int))) (simp [go_sem, *])
    (first | (go_at_call 199; refine (A.out _ (by exact HT.out.tabs.follows)).mono ?_; rintro e wA ⟨rfl, rfl⟩))
  go_wp2_with fail
  have D1 := Lib.hid ((Below.refl w.heap.size w).drew)
  have R1 := Lib.hid (HR.out.next D1.out)
  have T1 := Lib.hid ((HT.out.next D1.out).next ((Below.refl w.drew.heap.size w.drew).drew))
  have k0 := R1.out.c0
  have k1 := R1.out.c1
  have lt1 := R1.out.lt
  generalize w.drew = w1 at *
  clear c0 c1 HT HR
  go_region_held3 (fun w' => w'.cell? ⟨b, 0, none⟩ = some (.string s) ∧ w'.cell? ⟨b, 1, none⟩ = some (.int .i64 (k : Int))) (simp [go_sem, *])
    (first | (go_at_call 200; (with_reducible refine (P.out _ T1.out.tabs).mono ?_); rintro e wB ⟨rfl, hbB⟩; have q0 := (hbB.cell (p := ⟨b, 0, none⟩) (by exact lt1)).trans (by exact k0); have q1 := (hbB.cell (p := ⟨b, 1, none⟩) (by exact lt1)).trans (by exact k1)))
  replace hbB : Below w1.heap.size w1 wB := Below.trans (b := w1.drew) ((Below.refl w1.heap.size w1).drew) hbB
  have R2 := Lib.hid (R1.out.next hbB)
  have B2 := Lib.hid (Turned.of_below (b := b) (D1.out.trans (hbB.mono D1.out.size)))
  have z2 := R2.out.z1
  clear hbB k0 k1 D1 T1 R1 lt1
  obtain ⟨v, er⟩ := an
  by_cases h0 : er = 0
  · subst h0
    go_wp2_with fail
    go_ret2
    exact ⟨rfl, B2.out.set 1 _, R2.out.set⟩
  · have e0 : (er == 0) = false := by rw [beq_eq_false_iff_ne]; exact h0
    go_wp2_with fail
    go_ret2
    exact ⟨rfl, B2.out, R2.out⟩
/-- What Number answers, and where the reader is then, by what Parse tells. -/
def numX (s : ByteArray) (k : Nat) (signed : Bool) (an : Int × Int) : Int × Int × Nat :=
  if nmW s k signed = true then (an.1, an.2, if an.2 = 0 then nmE s k signed else k) else (0, 3, nmE s k signed)
def NumPost (b : Nat) (s : ByteArray) (x : Int × Int × Nat) (w : World) (e : Ending) (w' : World) : Prop := e = .returned (.tuple #[.int .i64 x.1, .int .i64 x.2.1]) ∧ Turned b w w' ∧ Rdr b s x.2.2 w'
theorem number_x (b : Nat) (s : ByteArray) (k : Nat) (signed : Bool) (an : Int × Int) (w : World) (H : Rdr b s k w) (hs : s.size ≤ maxLen) (hk : k ≤ s.size) (T : STabs w)
    (hP : ∀ w, Tabs w → Calls Tryz.prog 200 #[.string (s.extract k (nmE s k signed))] w (Tells an w)) :
    Calls Tryz.prog 171 #[.pointer (some ⟨b, 0, none⟩), .bool signed] w (NumPost b s (numX s k signed an) w) := by
  unfold numX NumPost
  by_cases hW : nmW s k signed = true
  · rw [if_pos hW]
    exact Number_ok b s k signed an w H hs hk T hW hP
  · rw [if_neg hW]
    exact Number_bad b s k signed w H hs hk T (by simpa using hW)
/-- Of a number the reader goes on, of one that is too great it stays. -/
structure NumOk (s : ByteArray) (k : Nat) (x : Int × Int × Nat) : Prop where
  lo : k ≤ x.2.2
  hi : x.2.2 ≤ s.size
  er : x.2.1 = 0 ∨ x.2.1 = 2 ∨ x.2.1 = 3
  ok : x.2.1 = 0 → k < x.2.2
  great : x.2.1 = 2 → x.2.2 = k
theorem walk_none (l : List UInt8) (st : Nat) (h : (walkL l st).1 = 0) : (walkL l st).2 = st := by
  cases l with
  | nil => rfl
  | cons b t =>
    unfold walkL at h ⊢
    split
    · rfl
    · rename_i hn
      rw [if_neg hn] at h
      simp at h
theorem nmW_lt (s : ByteArray) (k : Nat) (signed : Bool) (h : nmW s k signed = true) : k < nmE s k signed := by
  refine Nat.lt_of_not_le fun hn => ?_
  unfold nmE wk at hn
  have h0 : (walkL (s.data.toList.drop k) (if signed then 1 else 2)).1 = 0 := by
    generalize (walkL (s.data.toList.drop k) (if signed then 1 else 2)).1 = q at *
    omega
  have := walk_none _ _ h0
  unfold nmW wk at h
  rw [this] at h
  cases signed <;> cases h
theorem numX_ok (s : ByteArray) (k : Nat) (signed : Bool) (an : Int × Int) (hk : k ≤ s.size) (h : an.2 = 0 ∨ (an.1 = 0 ∧ (an.2 = 2 ∨ an.2 = 3))) : NumOk s k (numX s k signed an) := by
  have hE := nmE_le s k signed hk
  unfold numX
  by_cases hW : nmW s k signed = true
  · rw [if_pos hW]
    have hl := nmW_lt s k signed hW
    by_cases h0 : an.2 = 0
    · simp only [h0, if_true]
      exact ⟨hE.1, hE.2, Or.inl rfl, fun _ => hl, fun h => by cases h⟩
    · simp only [h0, if_false]
      refine ⟨Nat.le_refl _, hk, ?_, fun h => absurd h h0, fun _ => rfl⟩
      rcases h with h | h
      · exact absurd h h0
      · exact Or.inr h.2
  · rw [if_neg hW]
    exact ⟨hE.1, hE.2, Or.inr (Or.inr rfl), (fun h => by cases h), (fun h => by cases h)⟩
theorem ansF_ok (s a b : List UInt8) (x : Expo) : (ansF s a b x).2 = 0 ∨ ((ansF s a b x).1 = 0 ∧ ((ansF s a b x).2 = 2 ∨ (ansF s a b x).2 = 3)) := by
  unfold ansF ansV
  split
  · exact Or.inl rfl
  · exact Or.inr ⟨rfl, Or.inl rfl⟩
end Go.Proofs.YtbjabclgekkpaaaGreatDoor
