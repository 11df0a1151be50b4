/- Joined: DecScanEq, ScanNum. -/
import Derived.Test.YtbjabclgekkpaaaGreatDoorQOM09
import Derived.Test.YtbjabclgekkpaaaGreatDoorQOM10
namespace Go.Proofs.YtbjabclgekkpaaaGreatDoor
/-- Where the walk ends, and whether a number's text may end there. -/
def wk (l : List UInt8) (st : Nat) : Nat × Bool := ((walkL l st).1, wholeS (walkL l st).2)
theorem wk_cons (b : UInt8) (t : List UInt8) (st : Nat) : wk (b :: t) st = if follow st (kindB b) = 0 then (0, wholeS st) else (1 + (wk t (follow st (kindB b))).1, (wk t (follow st (kindB b))).2) := by
  unfold wk
  conv => lhs; unfold walkL
  split
  · rfl
  · refine Prod.ext ?_ rfl
    show _ + 1 = 1 + _
    omega
/-- Digits, gone through in one state. -/
theorem wk_run (st : Nat) (h : follow st 0 = st) (h0 : st ≠ 0) (l : List UInt8) : wk l st = (run l + (wk (l.drop (run l)) st).1, (wk (l.drop (run l)) st).2) := by
  have := walk_run st h h0 l
  unfold wk
  rw [this]
theorem wk_first (st st' : Nat) (h : follow st 0 = st') (h' : follow st' 0 = st') (l : List UInt8) (hr : 0 < run l) (h0 : st' ≠ 0) : wk l st = wk l st' := by
  unfold wk; rw [walk_first st st' h h' l hr h0]
theorem run_head (l : List UInt8) : headIs isDig (l.drop (run l)) = false := by
  induction l with
  | nil => rfl
  | cons b t ih =>
    unfold run
    by_cases h : isDig b = true
    · simp only [h, if_true, List.drop_succ_cons]; exact ih
    · simp [h, headIs]
theorem run_zero (l : List UInt8) (h : headIs isDig l = false) : run l = 0 := by
  cases l with
  | nil => rfl
  | cons b t => have : isDig b = false := h
                simp [run, this]
theorem run_pos (l : List UInt8) (h : headIs isDig l = true) : 0 < run l := by
  cases l with
  | nil => cases h
  | cons b t => have : isDig b = true := h
                simp [run, this]
theorem head_of_run (l : List UInt8) (h : run l = 0) : headIs isDig l = false := by
  cases e : headIs isDig l with
  | false => rfl
  | true => have := run_pos l e; omega
/-- In a state that only digits follow. -/
theorem wk_only (st : Nat) (l : List UInt8) (hd : headIs isDig l = false) (h1 : follow st 1 = 0) (h2 : follow st 2 = 0) (h3 : follow st 3 = 0) : wk l st = (0, wholeS st) := by
  cases l with
  | nil => rfl
  | cons b t =>
    rw [wk_cons]
    have hd : isDig b = false := hd
    rcases kind_cases b with ⟨k1, _⟩ | ⟨_, _, k2⟩ | ⟨_, _, _, k2⟩ | ⟨_, _, _, _, k2⟩ | ⟨_, _, _, _, k2⟩
    · rw [hd] at k1; cases k1
    · rw [k2, if_pos h1]
    · rw [k2, if_pos h2]
    · rw [k2, if_pos h3]
    · rw [k2, if_pos (by unfold follow; split <;> simp_all)]
theorem wk8 (l : List UInt8) : wk l 8 = (run l, true) := by
  rw [wk_run 8 rfl (by decide), wk_only 8 _ (run_head l) rfl rfl rfl]; rfl
theorem wk7 (l : List UInt8) : wk l 7 = (run l, decide (0 < run l)) := by
  by_cases h : 0 < run l
  · rw [wk_first 7 8 rfl rfl l h (by decide), wk8, decide_eq_true h]
  · have h0 : run l = 0 := by omega
    rw [wk_only 7 l (head_of_run l h0) rfl rfl rfl, h0]; rfl
theorem wk6 (l : List UInt8) : wk l 6 = scanPow l := by
  unfold scanPow
  cases l with
  | nil => rfl
  | cons b t =>
    rcases kind_cases b with ⟨k1, k2⟩ | ⟨k0, k1, k2⟩ | ⟨k0, k1, _, k2⟩ | ⟨k0, k1, _, _, k2⟩ | ⟨k0, k1, _, _, k2⟩
    · have n := dig_not k1
      rw [if_neg (by show ¬ isSgn b = true; rw [n.1]; simp)]
      have hp : 0 < run (b :: t) := run_pos _ k1
      rw [wk_first 6 8 rfl rfl _ hp (by decide), wk8, decide_eq_true hp]
    · rw [if_pos (by exact k1), wk_cons, k2, if_neg (by decide)]
      show (1 + (wk t 7).1, (wk t 7).2) = _
      rw [wk7]; rfl
    all_goals
      rw [if_neg (by show ¬ isSgn b = true; rw [k1]; simp), run_zero _ (by exact k0), wk_cons, k2]; rfl
/-- Behind digits and a point. -/
theorem wk5t (l : List UInt8) (hd : headIs isDig l = false) : wk l 5 = scanTail l := by
  unfold scanTail
  cases l with
  | nil => rfl
  | cons b t =>
    have hd : isDig b = false := hd
    rcases kind_cases b with ⟨k1, k2⟩ | ⟨k0, k1, k2⟩ | ⟨k0, k1, k3, k2⟩ | ⟨k0, k1, _, k3, k2⟩ | ⟨k0, k1, _, k3, k2⟩
    · rw [hd] at k1; cases k1
    · rw [if_neg (by show ¬ isLet b = true; rw [(sgn_not k1).2.2]; simp), wk_cons, k2]; rfl
    · rw [if_neg (by show ¬ isLet b = true; rw [(pt_not k3).2.2]; simp), wk_cons, k2]; rfl
    · rw [if_pos (by exact k3), wk_cons, k2, if_neg (by decide)]
      show (1 + (wk t 6).1, (wk t 6).2) = _
      rw [wk6]; rfl
    · rw [if_neg (by show ¬ isLet b = true; rw [k3]; simp), wk_cons, k2]; rfl
theorem wk5 (l : List UInt8) : wk l 5 = (run l + (scanTail (l.drop (run l))).1, (scanTail (l.drop (run l))).2) := by
  rw [wk_run 5 rfl (by decide), wk5t _ (run_head l)]
/-- Behind digits. -/
theorem wk3t (l : List UInt8) (hd : headIs isDig l = false) : wk l 3 = if headIs isPt l then (1 + (wk (l.drop 1) 5).1, (wk (l.drop 1) 5).2) else scanTail l := by
  cases l with
  | nil => rfl
  | cons b t =>
    have hd : isDig b = false := hd
    rcases kind_cases b with ⟨k1, k2⟩ | ⟨k0, k1, k2⟩ | ⟨k0, k1, k3, k2⟩ | ⟨k0, k1, k4, k3, k2⟩ | ⟨k0, k1, k4, k3, k2⟩
    · rw [hd] at k1; cases k1
    · unfold scanTail
      rw [if_neg (by show ¬ isPt b = true; rw [(sgn_not k1).2.1]; simp), if_neg (by show ¬ isLet b = true; rw [(sgn_not k1).2.2]; simp), wk_cons, k2]; rfl
    · rw [if_pos (by exact k3), wk_cons, k2, if_neg (by decide)]; rfl
    · unfold scanTail
      rw [if_neg (by show ¬ isPt b = true; rw [k4]; simp), if_pos (by exact k3), wk_cons, k2, if_neg (by decide)]
      show (1 + (wk t 6).1, (wk t 6).2) = _
      rw [wk6]; rfl
    · unfold scanTail
      rw [if_neg (by show ¬ isPt b = true; rw [k4]; simp), if_neg (by show ¬ isLet b = true; rw [k3]; simp), wk_cons, k2]; rfl
theorem wk4 (l : List UInt8) : wk l 4 = if run l = 0 then (0, false) else wk l 5 := by
  split
  · rename_i h; rw [wk_only 4 l (head_of_run l h) rfl rfl rfl]; rfl
  · exact wk_first 4 5 rfl rfl l (by omega) (by decide)
theorem wk_body (st : Nat) (hst : st = 1 ∨ st = 2) (l : List UInt8) (hs : st = 1 → headIs isSgn l = false) : wk l st = scanBody l := by
  unfold scanBody
  by_cases h0 : run l = 0
  · have hd := head_of_run l h0
    rw [h0, List.drop_zero]
    cases l with
    | nil => rcases hst with rfl | rfl <;> rfl
    | cons b t =>
      have hd : isDig b = false := hd
      rcases kind_cases b with ⟨k1, k2⟩ | ⟨k0, k1, k2⟩ | ⟨k0, k1, k3, k2⟩ | ⟨k0, k1, k4, k3, k2⟩ | ⟨k0, k1, k4, k3, k2⟩
      · rw [hd] at k1; cases k1
      · rw [if_neg (by show ¬ isPt b = true; rw [(sgn_not k1).2.1]; simp), if_pos rfl, wk_cons, k2]
        rcases hst with rfl | rfl
        · have : isSgn b = false := hs rfl
          rw [this] at k1; cases k1
        · rfl
      · rw [if_pos (by exact k3), wk_cons, k2]
        have e : follow st 2 = 4 := by rcases hst with rfl | rfl <;> rfl
        rw [e, if_neg (by decide), wk4]
        have e1 : (b :: t).drop (0 + 1) = t := rfl
        rw [e1]
        by_cases hr : run t = 0
        · rw [if_pos hr, if_pos (And.intro rfl hr)]; rfl
        · rw [if_neg hr, if_neg (show ¬ (0 = 0 ∧ run t = 0) from fun h => hr h.2), wk5]
          have e2 : (b :: t).drop (0 + 1 + run t) = t.drop (run t) := by rw [show 0 + 1 + run t = run t + 1 from by omega, List.drop_succ_cons]
          rw [e2]
          refine Prod.ext ?_ rfl
          show 1 + (run t + _) = _
          omega
      · rw [if_neg (by show ¬ isPt b = true; rw [k4]; simp), if_pos rfl, wk_cons, k2]
        rcases hst with rfl | rfl <;> rfl
      · rw [if_neg (by show ¬ isPt b = true; rw [k4]; simp), if_pos rfl, wk_cons, k2]
        rcases hst with rfl | rfl <;> rfl
  · have e : wk l st = wk l 3 := by
      rcases hst with rfl | rfl
      · exact wk_first 1 3 rfl rfl l (by omega) (by decide)
      · exact wk_first 2 3 rfl rfl l (by omega) (by decide)
    rw [e, wk_run 3 rfl (by decide), wk3t _ (run_head l)]
    by_cases hp : headIs isPt (l.drop (run l)) = true
    · rw [if_pos hp, if_pos hp, if_neg (fun h => h0 h.1), wk5, List.drop_drop, List.drop_drop]
      refine Prod.ext ?_ ?_
      · show run l + (1 + (_ + _)) = run l + 1 + _ + _
        rw [show run l + 1 + run (l.drop (run l + 1)) = run l + (1 + run (l.drop (run l + 1))) from by omega]
        omega
      · show (scanTail _).2 = (scanTail _).2
        rfl
    · rw [if_neg hp, if_neg hp, if_neg h0]
/-- The document's end of a number's text is the table's. -/
theorem scan_eq (signed : Bool) (l : List UInt8) : scanL signed l = wk l (if signed then 1 else 2) := by
  unfold scanL
  cases signed with
  | false => exact (wk_body 2 (Or.inr rfl) l (fun h => by cases h)).symm
  | true =>
    by_cases h : headIs isSgn l = true
    · rw [if_pos (by simp [h])]
      cases l with
      | nil => cases h
      | cons b t =>
        have hb : isSgn b = true := h
        show _ = wk (b :: t) 1
        rw [wk_cons, kind_sgn hb, if_neg (by decide)]
        show _ = (1 + (wk t 2).1, (wk t 2).2)
        rw [wk_body 2 (Or.inr rfl) t (fun h => by cases h)]; rfl
    · rw [if_neg (by simp [h])]
      exact (wk_body 1 (Or.inl rfl) l (fun _ => by simpa using h)).symm
/-! The same, by places of the whole text. -/
def powAt (L : List UInt8) (j : Nat) : Nat × Bool := if headIs isSgn (L.drop j) then (j + 1 + run (L.drop (j + 1)), decide (0 < run (L.drop (j + 1)))) else (j + run (L.drop j), decide (0 < run (L.drop j)))
def tailAt (L : List UInt8) (j : Nat) : Nat × Bool := if headIs isLet (L.drop j) then powAt L (j + 1) else (j, true)
def bodyAt (L : List UInt8) (i : Nat) : Nat × Bool :=
  if headIs isPt (L.drop (i + run (L.drop i))) then
    if run (L.drop i) = 0 ∧ run (L.drop (i + run (L.drop i) + 1)) = 0 then (i + 1, false)
    else tailAt L (i + run (L.drop i) + 1 + run (L.drop (i + run (L.drop i) + 1)))
  else if run (L.drop i) = 0 then (i, false) else tailAt L (i + run (L.drop i))
def scanAt (L : List UInt8) (i : Nat) (signed : Bool) : Nat × Bool := if signed && headIs isSgn (L.drop i) then bodyAt L (i + 1) else bodyAt L i
theorem pow_at (L : List UInt8) (j : Nat) : powAt L j = (j + (scanPow (L.drop j)).1, (scanPow (L.drop j)).2) := by
  unfold powAt scanPow
  rw [List.drop_drop]
  split
  · refine Prod.ext ?_ rfl
    show _ = j + (1 + _)
    omega
  · rfl
theorem tail_at (L : List UInt8) (j : Nat) : tailAt L j = (j + (scanTail (L.drop j)).1, (scanTail (L.drop j)).2) := by
  unfold tailAt scanTail
  rw [List.drop_drop]
  split
  · rw [pow_at]
    refine Prod.ext ?_ rfl
    show _ = j + (1 + _)
    omega
  · rfl
theorem body_at (L : List UInt8) (j : Nat) : bodyAt L j = (j + (scanBody (L.drop j)).1, (scanBody (L.drop j)).2) := by
  unfold bodyAt scanBody
  simp only [List.drop_drop]
  rw [show j + (run (L.drop j) + 1) = j + run (L.drop j) + 1 from by omega]
  generalize run (L.drop j) = r
  split
  · rw [show j + (r + 1 + run (L.drop (j + r + 1))) = j + r + 1 + run (L.drop (j + r + 1)) from by omega]
    generalize run (L.drop (j + r + 1)) = q
    split
    · rfl
    · rw [tail_at]
      refine Prod.ext ?_ rfl
      show _ = j + (r + 1 + q + _)
      omega
  · split
    · rfl
    · rw [tail_at]
      refine Prod.ext ?_ rfl
      show _ = j + (r + _)
      omega
theorem scan_at (L : List UInt8) (j : Nat) (signed : Bool) : scanAt L j signed = (j + (scanL signed (L.drop j)).1, (scanL signed (L.drop j)).2) := by
  unfold scanAt scanL
  rw [List.drop_drop]
  split
  · rw [body_at]
    refine Prod.ext ?_ rfl
    show _ = j + (1 + _)
    omega
  · rw [body_at]
end Go.Proofs.YtbjabclgekkpaaaGreatDoor
namespace Go.Proofs.YtbjabclgekkpaaaGreatDoor
open Go.RowKit Go.Shelf
/-- What the laws ask of memory: the table of states, the table of blanks. -/
structure STabs (w : World) : Prop where
  tabs : Tabs w
  blks : Blks w
theorem STabs.next {w w' : World} (h : STabs w) (t : Below w.heap.size w w') : STabs w' := ⟨h.tabs.next t, h.blks.below t h.tabs.size⟩
theorem STabs.turned {w w' : World} {b : Nat} (h : STabs w) (t : Turned b w w') (hb : gN ≤ b) : STabs w' :=
  ⟨h.tabs.below (t.below hb h.tabs.size) (Nat.le_refl _) t.size, h.blks.turned t hb h.tabs.size⟩
/-- The number's end, and whether one ends there. -/
def nmE (s : ByteArray) (k : Nat) (signed : Bool) : Nat := k + (wk (s.data.toList.drop k) (if signed then 1 else 2)).1
def nmW (s : ByteArray) (k : Nat) (signed : Bool) : Bool := (wk (s.data.toList.drop k) (if signed then 1 else 2)).2
theorem nmE_le (s : ByteArray) (k : Nat) (signed : Bool) (h : k ≤ s.size) : k ≤ nmE s k signed ∧ nmE s k signed ≤ s.size := by
  have := walk_fst_le (s.data.toList.drop k) (if signed then 1 else 2)
  rw [List.length_drop, Array.length_toList] at this
  have e : s.data.size = s.size := rfl
  unfold nmE wk
  omega
/-- Number, where none ends. -/
theorem Number_bad (b : Nat) (s : ByteArray) (k : Nat) (signed : Bool) (w : World) (H : Rdr b s k w) (hs : s.size ≤ maxLen) (hk : k ≤ s.size) (T : STabs w) (h : nmW s k signed = false) :
    Calls Tryz.prog 171 #[.pointer (some ⟨b, 0, none⟩), .bool signed] w fun e w' => e = .returned (.tuple #[.int .i64 0, .int .i64 3]) ∧ Turned b w w' ∧ Rdr b s (nmE s k signed) w' := by
  have A := Lib.hid (fun w (hF : Follows w) => Scan_any s k signed w hs hk hF)
  have hs' : s.size ≤ 9223372036854775807 := hs
  have e1 : (wholeS (walkL (s.data.toList.drop k) (if signed then 1 else 2)).2) = nmW s k signed := rfl
  have e2 : (k + (walkL (s.data.toList.drop k) (if signed then 1 else 2)).1) = nmE s k signed := rfl
  rw [e1, e2, h] at A
  have c0 := H.c0
  have c1 := H.c1
  have z1 := H.z1
  have HR := Lib.hid H
  have HT := Lib.hid T
  have hE := (nmE_le s k signed hk)
  clear e1 e2 hs T H h
  generalize nmE s k signed = n at *
  go_enter Tryz.func171, Tryz.ntmps171
  go_wp2_with fail
  go_region_held3 (fun w' => w'.cell? ⟨b, 0, none⟩ = some (.string s) ∧ w'.cell? ⟨b, 1, none⟩ = some (.int .i64 (k : Int))) (simp [go_sem, *])
    (first | (go_at_call 199; refine (A.out _ (by exact HT.out.tabs.follows)).mono ?_; rintro e wA ⟨rfl, rfl⟩))
  go_wp2_with fail
  go_ret2
  exact ⟨rfl, ((Turned.refl b w).set 1 _).drew, HR.out.set⟩
/-- Number, where one ends: what Parse tells of its text. -/
theorem Number_ok (b : Nat) (s : ByteArray) (k : Nat) (signed : Bool) (an : Int × Int) (w : World) (H : Rdr b s k w) (hs : s.size ≤ maxLen) (hk : k ≤ s.size) (T : STabs w) (h : nmW s k signed = true)
    (hP : ∀ w, Tabs w → Calls Tryz.prog 200 #[.string (s.extract k (nmE s k signed))] w (Tells an w)) :
    Calls Tryz.prog 171 #[.pointer (some ⟨b, 0, none⟩), .bool signed] w fun e w' => e = .returned (.tuple #[.int .i64 an.1, .int .i64 an.2]) ∧ Turned b w w' ∧ Rdr b s (if an.2 = 0 then nmE s k signed else k) w' := by
  have A := Lib.hid (fun w (hF : Follows w) => Scan_any s k signed w hs hk hF)
  have hs' : s.size ≤ 9223372036854775807 := hs
  have e1 : (wholeS (walkL (s.data.toList.drop k) (if signed then 1 else 2)).2) = nmW s k signed := rfl
  have e2 : (k + (walkL (s.data.toList.drop k) (if signed then 1 else 2)).1) = nmE s k signed := rfl
  rw [e1, e2, h] at A
  have P := Lib.hid hP
  unfold Tells at P
  have c0 := H.c0
  have c1 := H.c1
  have HR := Lib.hid H
  have HT := Lib.hid T
  have hE := (nmE_le s k signed hk)
  clear e1 e2 hs T H h hP
  generalize nmE s k signed = n at *
  have lt := HR.out.lt
  go_enter Tryz.func171, Tryz.ntmps171
  go_wp2_with fail
  go_region_held3 (fun w' => w'.cell? ⟨b, 0, none⟩ = some (.string s) ∧ w'.cell? ⟨b, 1, none⟩ = some (.int .i64 (k : Int))) (simp [go_sem, *])
    (first | (go_at_call 199; refine (A.out _ (by exact HT.out.tabs.follows)).mono ?_; rintro e wA ⟨rfl, rfl⟩))
  go_wp2_with fail
  have D1 := Lib.hid ((Below.refl w.heap.size w).drew)
  have R1 := Lib.hid (HR.out.next D1.out)
  have T1 := Lib.hid ((HT.out.next D1.out).next ((Below.refl w.drew.heap.size w.drew).drew))
  have k0 := R1.out.c0
  have k1 := R1.out.c1
  have lt1 := R1.out.lt
  generalize w.drew = w1 at *
  clear c0 c1 HT HR
  go_region_held3 (fun w' => w'.cell? ⟨b, 0, none⟩ = some (.string s) ∧ w'.cell? ⟨b, 1, none⟩ = some (.int .i64 (k : Int))) (simp [go_sem, *])
    (first | (go_at_call 200; (with_reducible refine (P.out _ T1.out.tabs).mono ?_); rintro e wB ⟨rfl, hbB⟩; have q0 := (hbB.cell (p := ⟨b, 0, none⟩) (by exact lt1)).trans (by exact k0); have q1 := (hbB.cell (p := ⟨b, 1, none⟩) (by exact lt1)).trans (by exact k1)))
  replace hbB : Below w1.heap.size w1 wB := Below.trans (b := w1.drew) ((Below.refl w1.heap.size w1).drew) hbB
  have R2 := Lib.hid (R1.out.next hbB)
  have B2 := Lib.hid (Turned.of_below (b := b) (D1.out.trans (hbB.mono D1.out.size)))
  have z2 := R2.out.z1
  clear hbB k0 k1 D1 T1 R1 lt1
  obtain ⟨v, er⟩ := an
  by_cases h0 : er = 0
  · subst h0
    go_wp2_with fail
    go_ret2
    exact ⟨rfl, B2.out.set 1 _, R2.out.set⟩
  · have e0 : (er == 0) = false := by rw [beq_eq_false_iff_ne]; exact h0
    go_wp2_with fail
    go_ret2
    exact ⟨rfl, B2.out, R2.out⟩
/-- What Number answers, and where the reader is then, by what Parse tells. -/
def numX (s : ByteArray) (k : Nat) (signed : Bool) (an : Int × Int) : Int × Int × Nat :=
  if nmW s k signed = true then (an.1, an.2, if an.2 = 0 then nmE s k signed else k) else (0, 3, nmE s k signed)
def NumPost (b : Nat) (s : ByteArray) (x : Int × Int × Nat) (w : World) (e : Ending) (w' : World) : Prop := e = .returned (.tuple #[.int .i64 x.1, .int .i64 x.2.1]) ∧ Turned b w w' ∧ Rdr b s x.2.2 w'
theorem number_x (b : Nat) (s : ByteArray) (k : Nat) (signed : Bool) (an : Int × Int) (w : World) (H : Rdr b s k w) (hs : s.size ≤ maxLen) (hk : k ≤ s.size) (T : STabs w)
    (hP : ∀ w, Tabs w → Calls Tryz.prog 200 #[.string (s.extract k (nmE s k signed))] w (Tells an w)) :
    Calls Tryz.prog 171 #[.pointer (some ⟨b, 0, none⟩), .bool signed] w (NumPost b s (numX s k signed an) w) := by
  unfold numX NumPost
  by_cases hW : nmW s k signed = true
  · rw [if_pos hW]
    exact Number_ok b s k signed an w H hs hk T hW hP
  · rw [if_neg hW]
    exact Number_bad b s k signed w H hs hk T (by simpa using hW)
/-- Of a number the reader goes on, of one that is too great it stays. -/
structure NumOk (s : ByteArray) (k : Nat) (x : Int × Int × Nat) : Prop where
  lo : k ≤ x.2.2
  hi : x.2.2 ≤ s.size
  er : x.2.1 = 0 ∨ x.2.1 = 2 ∨ x.2.1 = 3
  ok : x.2.1 = 0 → k < x.2.2
  great : x.2.1 = 2 → x.2.2 = k
theorem walk_none (l : List UInt8) (st : Nat) (h : (walkL l st).1 = 0) : (walkL l st).2 = st := by
  cases l with
  | nil => rfl
  | cons b t =>
    unfold walkL at h ⊢
    split
    · rfl
    · rename_i hn
      rw [if_neg hn] at h
      simp at h
theorem nmW_lt (s : ByteArray) (k : Nat) (signed : Bool) (h : nmW s k signed = true) : k < nmE s k signed := by
  refine Nat.lt_of_not_le fun hn => ?_
  unfold nmE wk at hn
  have h0 : (walkL (s.data.toList.drop k) (if signed then 1 else 2)).1 = 0 := by
    generalize (walkL (s.data.toList.drop k) (if signed then 1 else 2)).1 = q at *
    omega
  have := walk_none _ _ h0
  unfold nmW wk at h
  rw [this] at h
  cases signed <;> cases h
theorem numX_ok (s : ByteArray) (k : Nat) (signed : Bool) (an : Int × Int) (hk : k ≤ s.size) (h : an.2 = 0 ∨ (an.1 = 0 ∧ (an.2 = 2 ∨ an.2 = 3))) : NumOk s k (numX s k signed an) := by
  have hE := nmE_le s k signed hk
  unfold numX
  by_cases hW : nmW s k signed = true
  · rw [if_pos hW]
    have hl := nmW_lt s k signed hW
    by_cases h0 : an.2 = 0
    · simp only [h0, if_true]
      exact ⟨hE.1, hE.2, Or.inl rfl, fun _ => hl, fun h => by cases h⟩
    · simp only [h0, if_false]
      refine ⟨Nat.le_refl _, hk, ?_, fun h => absurd h h0, fun _ => rfl⟩
      rcases h with h | h
      · exact absurd h h0
      · exact Or.inr h.2
  · rw [if_neg hW]
    exact ⟨hE.1, hE.2, Or.inr (Or.inr rfl), (fun h => by cases h), (fun h => by cases h)⟩
theorem ansF_ok (s a b : List UInt8) (x : Expo) : (ansF s a b x).2 = 0 ∨ ((ansF s a b x).1 = 0 ∧ ((ansF s a b x).2 = 2 ∨ (ansF s a b x).2 = 3)) := by
  unfold ansF ansV
  split
  · exact Or.inl rfl
  · exact Or.inr ⟨rfl, Or.inl rfl⟩
end Go.Proofs.YtbjabclgekkpaaaGreatDoor
