/-
  The document's Parse of path data into segments.
-/
import Derived.Test.YtgiibcnakiggaaaGreatDoorRef7Walk
import Derived.Test.YtgiibcnakiggaaaGreatDoorRef6Parse
import Derived.Test.YtgiibcnakiggaaaGreatDoorPathCount
namespace Go.Proofs.YtgiibcnakiggaaaGreatDoor
open Go.RowKit Go.Shelf

theorem args_err7 (X : Tx) (H : X.Ok) (c : Nat) : ∀ (n k i : Nat) (acc : List Int) at' e, i ≤ X.len → argsL X c n k i acc = .inr (at', e) → e ≠ 4 := by
  intro n
  induction n with
  | zero => intro k i acc at' e _ h; simp [argsL] at h
  | succ n ih =>
    intro k i acc at' e hi h
    have O := one_ok H c k i hi
    rw [args_step] at h
    split at h
    · exact ih _ _ _ _ _ O.hi h
    · injection h with h
      injection h with _ h
      subst h
      rcases O.er with e | e | e <;> omega
theorem args_hi7 (X : Tx) (H : X.Ok) (c : Nat) : ∀ (n k i : Nat) (acc : List Int) xs j, i ≤ X.len → argsL X c n k i acc = .inl (xs, j) → j ≤ X.len := by
  intro n
  induction n with
  | zero => intro k i acc xs j hi h; obtain ⟨rfl, rfl⟩ : acc = xs ∧ i = j := by simpa [argsL] using h
            exact hi
  | succ n ih =>
    intro k i acc xs j hi h
    rw [args_step] at h
    split at h
    · exact ih _ _ _ _ _ (one_ok H c k i hi).hi h
    · cases h
/-- Parse's error is none, too great, or no path data. -/
theorem path_err (X : Tx) (H : X.Ok) : ∀ (f : Nat) (st : Option Nat) (i : Nat) (out : List Cmd), i ≤ X.len → (pathL X f st i out).2.2 ≠ 4 := by
  intro f
  induction f with
  | zero => intro st i out _; cases st <;> (show (0 : Int) ≠ 4; decide)
  | succ f ih =>
    intro st i out hi
    cases st with
    | none =>
      unfold pathL
      split
      · split
        · show (3 : Int) ≠ 4; decide
        · have hb := H.blk (i + 1) (by omega)
          split
          · exact ih _ _ _ hb.2
          · exact ih _ _ _ hb.2
      · show (0 : Int) ≠ 4; decide
    | some c =>
      unfold pathL
      split
      · rename_i at' e he
        show e ≠ 4
        exact (args_err7 X H c _ _ _ _ _ _ hi he)
      · rename_i xs j he
        have hj := args_hi7 X H c _ _ _ _ _ _ hi he
        have hb := H.blk j hj
        have hg := H.gap _ hb.2
        split
        · exact ih _ _ _ hg.2
        · split
          · exact ih _ _ _ hb.2
          · exact ih _ _ _ hb.2
theorem all_err (s : ByteArray) (hs : s.size ≤ 100000) : (pathAll (txOf s)).2.2 ≠ 4 := path_err (txOf s) (txOf_ok s hs) _ _ _ _ ((txOf_ok s hs).blk 0 (Nat.zero_le _)).2
/-- What the document's Parse answers is what norm's does. -/
noncomputable def parseW (s : ByteArray) : List Seg × Int × Int :=
  if 0 ≤ (walkR [] 0 (pathAll (txOf s)).1 0).2 then ((walkR [] 0 (pathAll (txOf s)).1 0).1, (walkR [] 0 (pathAll (txOf s)).1 0).2, 2) else ((walkR [] 0 (pathAll (txOf s)).1 0).1, (pathAll (txOf s)).2.1, (pathAll (txOf s)).2.2)
theorem parse_same (s : ByteArray) (hs : s.size ≤ 100000) : parseW s = parseS s := by
  obtain ⟨h1, h2⟩ := all_may s hs
  have e := bring_walk (pathAll (txOf s)).1 NS.zero [] 0 0 rel_zero h1 (fun _ => h2)
  unfold parseW parseS
  rw [e]
def Told7Post (X : List Seg × Int × Int) (w : World) (e : Ending) (W' : World) : Prop :=
  ∃ a cap, e = .returned (.agg #[.slice a X.1.length cap, .int .i64 X.2.1, .int .i64 X.2.2]) ∧ RdS a X.1 W' ∧ X.1.length ≤ cap ∧ Below w.heap.size w W'
theorem SegAt.stay {b o : Nat} {g : Seg} {w w' : World} (h : SegAt b o g w) (e : w'.heap[b]? = w.heap[b]?) : SegAt b o g w' := by
  have hh : ∀ k, w'.cell? ⟨b, k, none⟩ = w.cell? ⟨b, k, none⟩ := fun k => by simp [World.cell?, e]
  exact ⟨(hh _).trans h.c0, (hh _).trans h.c1, (hh _).trans h.c2, (hh _).trans h.c3, (hh _).trans h.c4, (hh _).trans h.c5, (hh _).trans h.c6, (hh _).trans h.c7, (hh _).trans h.c8, (hh _).trans h.c9, (hh _).trans h.c10, (hh _).trans h.c11⟩
def Told7At (q : Nat) (v : Value) (z er : Int) (w : World) : Prop := w.heap[q]? = some (.cells #[v, .int .i64 z, .int .i64 er] 28)
theorem Told7At.c0 {q : Nat} {v : Value} {z er : Int} {w : World} (h : Told7At q v z er w) : w.cell? ⟨q, 0, none⟩ = some v := by unfold Told7At at h; simp [World.cell?, h]
theorem Told7At.c1 {q : Nat} {v : Value} {z er : Int} {w : World} (h : Told7At q v z er w) : w.cell? ⟨q, 1, none⟩ = some (.int .i64 z) := by unfold Told7At at h; simp [World.cell?, h]
theorem Told7At.c2 {q : Nat} {v : Value} {z er : Int} {w : World} (h : Told7At q v z er w) : w.cell? ⟨q, 2, none⟩ = some (.int .i64 er) := by unfold Told7At at h; simp [World.cell?, h]
theorem Told7At.z {q : Nat} {v : Value} {z er : Int} {w : World} (h : Told7At q v z er w) (o : Nat) : w.frozen? ⟨q, o, none⟩ = false := by unfold Told7At at h; simp [World.frozen?, h]
theorem Told7At.lt {q : Nat} {v : Value} {z er : Int} {w : World} (h : Told7At q v z er w) : q < w.heap.size := by
  unfold Told7At at h; exact (Array.getElem?_eq_some_iff.1 h).1
theorem Told7At.below {q B : Nat} {v : Value} {z er : Int} {w w' : World} (h : Told7At q v z er w) (t : Below B w w') (hq : q < B) : Told7At q v z er w' := by
  unfold Told7At at *; rw [t.block q hq]; exact h
theorem Told7At.set {q : Nat} {v : Value} {z er : Int} {w : World} (h : Told7At q v z er w) (v' : Value) (z' er' : Int) : Told7At q v' z' er' (((w.setCell ⟨q, 0, none⟩ v').setCell ⟨q, 1, none⟩ (.int .i64 z')).setCell ⟨q, 2, none⟩ (.int .i64 er')) := by
  unfold Told7At at *
  simp only [World.setCell, Array.getElem?_modify, h]
  simp
theorem RdS.told {q : Nat} {a : Option Addr} {l : List Seg} {v0 : Value} {z0 e0 : Int} {wr : World} (h : RdS a l wr) (ht : Told7At q v0 z0 e0 wr) (v : Value) (z er : Int) : RdS a l (((wr.setCell ⟨q, 0, none⟩ v).setCell ⟨q, 1, none⟩ (.int .i64 z)).setCell ⟨q, 2, none⟩ (.int .i64 er)) := by
  have K := set3_kep wr q v (.int .i64 z) (.int .i64 er)
  rcases h with h | ⟨b, off, ha, hlt, hc⟩
  · exact .inl h
  · refine .inr ⟨b, off, ha, Nat.lt_of_lt_of_le hlt K.size, fun i hi => ?_⟩
    refine (hc i hi).stay (K.block b hlt ?_ (by simp))
    rintro rfl
    have c := (hc i hi).c11
    unfold Told7At at ht
    have hn : ¬ off + i * 12 + 11 < 3 := by omega
    simp [World.cell?, ht, hn] at c
theorem told7_close {f : Func} {n : Nat} (hres : f.results = #[ResultVar.cell n 28]) {l : List Seg} {z er : Int} {a : Option Addr} {cap : Nat} {X : List Seg × Int × Int} {w wr : World} {q : Nat} {v0 : Value} {z0 e0 : Int} {ts : Array Value} (hX : X = (l, z, er)) (hq : q = w.heap.size) (ht : Told7At q v0 z0 e0 wr) (hc : RdS a l wr) (hcap : l.length ≤ cap) (hb : Below w.heap.size w wr) (hts : ts[n]? = some (.pointer (some ⟨q, 0, none⟩))) :
    bodyPost Tryz.prog f (Told7Post X w) .ret { tmps := ts, defers := [] } (((wr.setCell ⟨q, 0, none⟩ (.slice a l.length cap)).setCell ⟨q, 1, none⟩ (.int .i64 z)).setCell ⟨q, 2, none⟩ (.int .i64 er)) := by
  subst hX
  have hg := ht.set (.slice a l.length cap) z er
  have c0 := hg.c0
  have c1 := hg.c1
  have c2 := hg.c2
  have hbb : Below w.heap.size w (((wr.setCell ⟨q, 0, none⟩ (.slice a l.length cap)).setCell ⟨q, 1, none⟩ (.int .i64 z)).setCell ⟨q, 2, none⟩ (.int .i64 er)) :=
    Below.setCell (Below.setCell (Below.setCell hb (by exact Nat.le_of_eq hq.symm) _) (by exact Nat.le_of_eq hq.symm) _) (by exact Nat.le_of_eq hq.symm) _
  refine bodyPost_ret (v := .agg #[.slice a l.length cap, .int .i64 z, .int .i64 er]) (by simp [results, hres, go_sem, c0, c1, c2, hts]) rfl ⟨_, _, rfl, hc.told ht _ _ _, hcap, hbb⟩
set_option maxRecDepth 100000 in
theorem rParse7_any (s : ByteArray) (w : World) (hs : s.size ≤ 100) : Calls Tryz.prog 7 #[.string s] w (Told7Post (parseW s) w) := by
  have R := Lib.hid (fun w => rParse6_any s w hs)
  unfold ToldPost at R
  have HL := Lib.hid (all_len (txOf s))
  have HM := Lib.hid (all_may s (by omega))
  have HE := Lib.hid (all_err s (by omega))
  have HN := Lib.hid (path_count s (by omega))
  unfold parseW
  generalize pathAll (txOf s) = RES at *
  obtain ⟨l, z, er⟩ := RES
  obtain ⟨BR, hBR⟩ : ∃ B, walkR [] 0 l 0 = B := ⟨_, rfl⟩
  simp only [hBR]
  have HBR := Lib.hid hBR
  clear hBR
  obtain ⟨g, far⟩ := BR
  have h4 : ¬ er = 4 := HE.out
  have hll : l.length ≤ 1000 := by have h := HN.out; have h' : l.length ≤ s.size := h; omega
  have b0 := Lib.hid ((Below.refl w.heap.size w).alloc (Nat.le_refl _) (.cells #[.slice none 0 0, .int .i64 0, .int .i64 0] 28))
  have TA := Lib.hid (show Told7At w.heap.size (.slice none 0 0) 0 0 (w.alloc (.cells #[.slice none 0 0, .int .i64 0, .int .i64 0] 28)) from World.alloc_heap_new w _)
  by_cases hf : 0 ≤ far
  · simp only [if_pos hf]
    go_enter Tryz.func7, Tryz.ntmps7
    go_wp2_with fail
    refine (R.out _).mono ?_
    rintro e w1 ⟨v, rfl, hc, b1⟩
    obtain ⟨a, cap, rfl, hr⟩ := hc.reads HL.out
    have T1 := TA.out.below b1 TA.out.lt
    have B1 := b0.out.trans (b1.mono b0.out.size)
    have bal := (Below.refl w1.heap.size w1).alloc (Nat.le_refl _) (.cells #[.slice a l.length cap, .int .i64 z, .int .i64 er] 48)
    have T2 := Lib.hid (T1.below bal T1.lt)
    have P2 := Lib.hid (show ToldAt w1.heap.size (.slice a l.length cap) z er (w1.alloc (.cells #[.slice a l.length cap, .int .i64 z, .int .i64 er] 48)) from World.alloc_heap_new w1 _)
    have B2 := Lib.hid (B1.trans (bal.mono B1.size))
    have WK := Lib.hid (rwalk_any a l cap _ hll (hr.next bal) HM.out.1 HM.out.2)
    rw [HBR.out] at WK
    clear hc hr b1 T1 B1 bal R TA b0
    go_wp2_with fail
    refine WK.out.mono ?_
    rintro e w2 ⟨a2, cap2, rfl, hrd, hcap, b2⟩
    have T6 := P2.out.below b2 P2.out.lt
    have T7 := Lib.hid (T2.out.below b2 T2.out.lt)
    have B3 := Lib.hid (B2.out.trans (b2.mono B2.out.size))
    have z0 := T7.out.z 0
    have z1 := T7.out.z 1
    have z2 := T7.out.z 2
    have k0 := T7.out.c0
    have k1 := T7.out.c1
    have k2 := T7.out.c2
    have R2 := Lib.hid hrd
    have C2 := Lib.hid hcap
    clear hrd hcap b2 WK T2 P2 B2 T6
    go_wp2_with fail
    exact told7_close Tryz.results7 rfl rfl T7.out R2.out C2.out B3.out rfl
  · simp only [if_neg hf]
    go_enter Tryz.func7, Tryz.ntmps7
    go_wp2_with fail
    refine (R.out _).mono ?_
    rintro e w1 ⟨v, rfl, hc, b1⟩
    obtain ⟨a, cap, rfl, hr⟩ := hc.reads HL.out
    have T1 := TA.out.below b1 TA.out.lt
    have B1 := b0.out.trans (b1.mono b0.out.size)
    have bal := (Below.refl w1.heap.size w1).alloc (Nat.le_refl _) (.cells #[.slice a l.length cap, .int .i64 z, .int .i64 er] 48)
    have T2 := Lib.hid (T1.below bal T1.lt)
    have P2 := Lib.hid (show ToldAt w1.heap.size (.slice a l.length cap) z er (w1.alloc (.cells #[.slice a l.length cap, .int .i64 z, .int .i64 er] 48)) from World.alloc_heap_new w1 _)
    have B2 := Lib.hid (B1.trans (bal.mono B1.size))
    have WK := Lib.hid (rwalk_any a l cap _ hll (hr.next bal) HM.out.1 HM.out.2)
    rw [HBR.out] at WK
    clear hc hr b1 T1 B1 bal R TA b0
    go_wp2_with fail
    refine WK.out.mono ?_
    rintro e w2 ⟨a2, cap2, rfl, hrd, hcap, b2⟩
    have T6 := P2.out.below b2 P2.out.lt
    have T7 := Lib.hid (T2.out.below b2 T2.out.lt)
    have B3 := Lib.hid (B2.out.trans (b2.mono B2.out.size))
    have y1 := T6.c1
    have y2 := T6.c2
    have z0 := T7.out.z 0
    have z1 := T7.out.z 1
    have z2 := T7.out.z 2
    have k0 := T7.out.c0
    have k1 := T7.out.c1
    have k2 := T7.out.c2
    have R2 := Lib.hid hrd
    have C2 := Lib.hid hcap
    clear hrd hcap b2 WK T2 P2 B2 T6
    go_wp2_with fail
    exact told7_close Tryz.results7 rfl rfl T7.out R2.out C2.out B3.out rfl
end Go.Proofs.YtgiibcnakiggaaaGreatDoor
