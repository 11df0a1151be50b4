/-
  The contracts of package dec's nearest and Parse: any text's answer.
-/
import Derived.Test.YtchngbdkgfjpcaaDoorDecParse
namespace Go.Proofs.YtchngbdkgfjpcaaDoor
open Go.RowKit Go.Shelf

theorem ValAt.new (w : World) : ValAt w.heap.size 0 0 false false (w.alloc (.cells #[.int .i64 0, .int .i64 0, .bool false, .bool false] 136)) := by
  show (w.heap.push _)[w.heap.size]? = _
  rw [Array.getElem?_push, if_pos rfl]
  rfl

theorem bcell' {B : Nat} {W w1 : World} (hb : Below B W w1) : (∀ b o, b < B → w1.cell? ⟨b, o, none⟩ = W.cell? ⟨b, o, none⟩) ∧ (∀ b o, b < B → w1.frozen? ⟨b, o, none⟩ = W.frozen? ⟨b, o, none⟩) :=
  ⟨fun b o h => hb.cell (p := ⟨b, o, none⟩) h, fun b o h => hb.frozen (p := ⟨b, o, none⟩) h⟩
def NearPost (neg : Bool) (D : Nat) (p : Int) (w : World) (e : Ending) (w' : World) : Prop := nearP neg D p e ∧ Below w.heap.size w w'

set_option maxHeartbeats 2000000 in
theorem nearest_any (s : ByteArray) (sg' a : List UInt8) (pt : Bool) (b : List UInt8) (x : Expo) (w : World) (hs : s.size ≤ 100000) (h : IsNum s.data.toList sg' a pt b x) (hm : SomeMax w) (hG : 2 < w.heap.size) :
    Calls Tryd.prog 87 #[.string s] w (NearPost (decide (sg' = [45])) (nat10 (a ++ b)) (exP x - b.length) w) := by
  have len : a.length + b.length ≤ s.size ∧ (a ++ ptL pt b).length ≤ s.size := by
    have e := congrArg List.length h.text
    rw [← size_list] at e
    simp only [List.length_append] at e
    have : b.length ≤ (ptL pt b).length := by
      cases pt with
      | false => rw [h.hpt rfl]; simp
      | true => simp [ptL]
    rw [List.length_append]; omega
  have A := Lib.hid (parted_any s sg' a pt b x w hs h)
  have C := Lib.hid (fun w hm => cut_any a b pt w h.ha h.hpt (by omega) hm)
  have N := Lib.hid (fun w => isNegative_any s w)
  have xb := exP_bd x h.hx
  rw [show Lib.hasPrefix s.data.toList [45] = decide (sg' = [45]) from by
    rw [h.text]
    refine pre_neg _ _ h.hsg ?_
    have := head_body h
    cases e : a ++ ptL pt b with
    | nil => exfalso
             have h0 := h.h0
             have := congrArg List.length e
             simp only [List.length_append, List.length_nil] at this
             cases pt with
             | false => rw [h.hpt rfl] at h0; simp at h0; omega
             | true => simp [ptL] at this
    | cons y t => rw [e] at this; exact this] at N
  have T1 := Lib.hid (fun w bb hv => take_any ⟨a.toArray⟩ 0 (exP x + a.length) bb 0 0 false false w (by rw [ba_size]; omega) (by rw [ba_list]; exact h.ha) (by omega) (by omega) hv (kept_zero _))
  have T2 := Lib.hid (fun w bb wh kp more great hv hk => take_any ⟨b.toArray⟩ (nat10 a) (exP x) bb wh kp more great w (by rw [ba_size]; omega) (by rw [ba_list]; exact h.hb) (by omega) (by omega) hv hk)
  unfold TakePost at T1 T2
  rw [ba_size, ba_list] at T1 T2
  have la := len.1
  have SA := Lib.hid (ba_size a)
  have HM := Lib.hid hm
  generalize decide (sg' = [45]) = neg at *
  generalize (⟨(a ++ ptL pt b).toArray⟩ : ByteArray) = m at *
  have HA := Lib.hid (nat10_append a b)
  generalize exP x = pw at *
  clear h hm len
  go_enter Tryd.func87, Tryd.ntmps87
  go_wp2_with fail
  refine A.out.mono ?_
  rintro e w1 ⟨rfl, b1⟩
  have M1 := Lib.hid (HM.out.below b1 hG)
  have z1 := b1.size
  have B1 := Lib.hid b1
  clear b1
  go_wp2_with fail
  refine (C.out _ M1.out).mono ?_
  rintro e w2 ⟨rfl, q, rfl⟩
  have B2 := Lib.hid (below_drewq B1.out q)
  have z2 : w.heap.size ≤ (w1.drewN q).heap.size := z1
  generalize w1.drewN q = w3 at *
  clear B1 M1 z1
  go_wp2_with fail
  refine (T1.out _ _ (ValAt.new w3)).mono ?_
  rintro e w4 ⟨rfl, wh, kp, more, great, hv, hb4, hk⟩
  rw [Nat.zero_mul, Nat.zero_add, show pw + (a.length : Int) - a.length + 17 = pw + 17 from by omega] at hk
  have B4 := Lib.hid (show Below w.heap.size w w4 from B2.out.trans ((((Below.refl w3.heap.size w3).alloc (Nat.le_refl _) _).trans hb4).mono z2))
  have HV4 := Lib.hid hv
  have HK4 := Lib.hid hk
  clear hv hk hb4 B2
  go_wp2_with fail
  refine (T2.out _ _ _ _ _ _ HV4.out HK4.out).mono ?_
  clear wh kp more great HV4 HK4 T1 T2
  rintro e w5 ⟨rfl, wh, kp, more, great, hv, hb5, hk⟩
  have B5 := Lib.hid (show Below w.heap.size w w5 from B4.out.trans (hb5.mono z2))
  rw [← HA.out, show pw - (b.length : Int) + 17 = (pw - b.length) + 17 from rfl] at hk
  have HV5 := Lib.hid hv
  have HK5 := Lib.hid hk
  have c0 := hv.c0; have c1 := hv.c1; have c2 := hv.c2; have c3 := hv.c3
  clear hv hk hb5 B4
  generalize w3.heap.size = bb at *
  have lb := HV5.out.lt
  cases great
  · have RN := Lib.hid (round_near neg HK5.out)
    have RB := roundV_bd neg wh kp more HK5.out.hw HK5.out.hk
    have R := Lib.hid (fun w => rounded_any wh kp more false neg w HK5.out.hw HK5.out.hk)
    generalize roundV neg wh kp more = n at *
    go_wp2_with fail
    go_region_held3 (fun w' => w'.cell? ⟨bb, 0, none⟩ = some (.int .i64 (wh : Int)) ∧ w'.cell? ⟨bb, 1, none⟩ = some (.int .i64 (kp : Int)) ∧ w'.cell? ⟨bb, 2, none⟩ = some (.bool more) ∧ w'.cell? ⟨bb, 3, none⟩ = some (.bool false)) (simp [go_sem, *])
      (first | (go_at_call 100; refine (N.out _).mono ?_; rintro e w' ⟨rfl, rfl⟩) | (go_at_call 99; refine (R.out _).mono ?_; rintro e w' ⟨rfl, hb6⟩; have e0 := (hb6.cell (p := ⟨bb, 0, none⟩) (by exact lb)).trans (by exact c0); have e1 := (hb6.cell (p := ⟨bb, 1, none⟩) (by exact lb)).trans (by exact c1); have e2 := (hb6.cell (p := ⟨bb, 2, none⟩) (by exact lb)).trans (by exact c2); have e3 := (hb6.cell (p := ⟨bb, 3, none⟩) (by exact lb)).trans (by exact c3)))
    have b5 := B5.out
    have F := Lib.hid (show Below w.heap.size w w' from Below.trans (below_drew b5) (hb6.mono (by exact Nat.le_trans z2 (Nat.le_of_lt lb))))
    clear b5 hb6 e0 e1 e2 e3 c0 c1 c2 c3
    by_cases l1 : -4294967296 < n
    · by_cases l2 : n < 4294967296
      · have AG := Lib.hid (show ansV n = (n, 0) from if_pos ⟨l1, l2⟩)
        rw [RN.out] at AG
        go_wp2_with fail
        go_ret2
        exact ⟨⟨n, true, rfl, by rw [AG.out, RN.out]; rfl⟩, F.out⟩
      · have AG := Lib.hid (show ansV n = (0, 2) from if_neg fun h => l2 h.2)
        rw [RN.out] at AG
        go_wp2_with fail
        go_ret2
        exact ⟨⟨n, false, rfl, by rw [AG.out]; rfl⟩, F.out⟩
    · have AG := Lib.hid (show ansV n = (0, 2) from if_neg fun h => l1 h.1)
      rw [RN.out] at AG
      go_wp2_with fail
      go_ret2
      exact ⟨⟨n, false, rfl, by rw [AG.out]; rfl⟩, F.out⟩
  · have RG := Lib.hid (great_near neg HK5.out)
    go_wp2_with fail
    go_ret2
    exact ⟨⟨0, false, rfl, RG.out.symm⟩, B5.out⟩

/-- Parse's answer, of whatever text. -/
def ParsePost (l : List UInt8) (w : World) (e : Ending) (w' : World) : Prop :=
  (∃ n er : Int, e = .returned (.tuple #[.int .i64 n, .int .i64 er]) ∧ ((¬ Acc l 1 ∧ n = 0 ∧ er = 3) ∨ ∃ s a pt b x, IsNum l s a pt b x ∧ (n, er) = ansV (nearV (decide (s = [45])) (nat10 (a ++ b)) (exP x - b.length)))) ∧ Below w.heap.size w w'

/-- How many package variables there are: they lie ahead of all that calls make. -/
noncomputable def gN : Nat := Tryd.prog.globals.size
theorem gN_max : 2 < gN := of_decide_eq_true (by kernel_rfl)
theorem gN_follows : 4 < gN := of_decide_eq_true (by kernel_rfl)
/-- What Parse asks of memory. -/
structure Tabs (w : World) : Prop where
  follows : Follows w
  max : SomeMax w
  size : gN ≤ w.heap.size

set_option maxHeartbeats 1000000 in
theorem Parse_any (s : ByteArray) (w : World) (hs : s.size ≤ 100000) (T : Tabs w) : Calls Tryd.prog 76 #[.string s] w (ParsePost s.data.toList w) := by
  have A := Lib.hid (Scan_any s 0 true w (by unfold maxLen; omega) (by omega) T.follows)
  simp only [if_true, List.drop_zero, Nat.zero_add] at A
  have le := walk_fst_le s.data.toList 1
  rw [← size_list] at le
  by_cases hA : Acc s.data.toList 1
  · obtain ⟨sg', a, pt, b, x, h⟩ := acc1 _ hA
    have N := Lib.hid (nearest_any s sg' a pt b x w hs h T.max (Nat.lt_of_lt_of_le gN_max T.size))
    unfold NearPost nearP at N
    have HH := Lib.hid h
    rw [show (walkL s.data.toList 1).1 = s.size from by rw [hA.1, size_list], hA.2] at A
    clear hA h le T
    go_enter Tryd.func76, Tryd.ntmps76
    go_wp2_with fail
    refine A.out.mono ?_
    rintro e w1 ⟨rfl, rfl⟩
    go_wp2_with fail
    refine N.out.mono ?_
    rintro e w2 ⟨⟨n, ok, rfl, he⟩, b2⟩
    have HE := Lib.hid he
    clear he
    cases ok
    · go_wp2_with fail
      go_ret2
      exact ⟨⟨0, 2, rfl, Or.inr ⟨sg', a, pt, b, x, HH.out, HE.out⟩⟩, b2⟩
    · go_wp2_with fail
      go_ret2
      exact ⟨⟨n, 0, rfl, Or.inr ⟨sg', a, pt, b, x, HH.out, HE.out⟩⟩, b2⟩
  · have HA := Lib.hid hA
    unfold Acc at hA
    rw [← size_list] at hA
    generalize (walkL s.data.toList 1).1 = k at *
    generalize wholeS (walkL s.data.toList 1).2 = ok at *
    clear T
    cases ok
    · clear hA
      go_enter Tryd.func76, Tryd.ntmps76
      go_wp2_with fail
      refine A.out.mono ?_
      rintro e w1 ⟨rfl, rfl⟩
      go_wp2_with fail
      go_ret2
      exact ⟨⟨0, 3, rfl, Or.inl ⟨HA.out, rfl, rfl⟩⟩, Below.refl _ _⟩
    · have hlt : k < s.size := by
        refine Nat.lt_of_le_of_ne le fun e => hA ⟨e, rfl⟩
      clear hA
      go_enter Tryd.func76, Tryd.ntmps76
      go_wp2_with fail
      refine A.out.mono ?_
      rintro e w1 ⟨rfl, rfl⟩
      go_wp2_with fail
      go_ret2
      exact ⟨⟨0, 3, rfl, Or.inl ⟨HA.out, rfl, rfl⟩⟩, Below.refl _ _⟩
end Go.Proofs.YtchngbdkgfjpcaaDoor
