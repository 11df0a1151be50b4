/-
  PROVED: the statement of DecNoughts, for every input: noughts ahead, and noughts behind a point, make no difference; a power of ten moves the point. No conditions but what the row lists: package variables as the program's text lays them.
-/
import Derived.Test.YtfikkfiihknccaaDoorDecNums
import Derived.Test.YtfikkfiihknccaaDoorDecLaid
namespace Go.Proofs.YtfikkfiihknccaaDoor.decNoughts
open Go.ChangeShapes Go.WideShapes Go.ChangeAt Go.RowKit Go.Shelf

/-- The four texts' answers are one. -/
theorem four (p t : List UInt8) (k : Nat) (ht : t.length = 5) :
    ansF [43] (nil0 k ++ p) (t ++ nil0 k) none = ansF [] p t none ∧ ansF [] [] (p ++ t) (some (101, [], digL p.length)) = ansF [] p t none ∧ ansF [] (p ++ t ++ nil0 k) [] (some (69, [45], digL (5 + k))) = ansF [] p t none := by
  have e0 : exV none = 0 := rfl
  have n1 : nat10 (nil0 k ++ p ++ (t ++ nil0 k)) = nat10 (p ++ t) * 10 ^ k := by
    have : nil0 k ++ p ++ (t ++ nil0 k) = nil0 k ++ ((p ++ t) ++ nil0 k) := by simp
    rw [this, nat10_append, nil0_nat, nat10_append, nil0_nat, nil0_len]; omega
  have n2 : nat10 (p ++ t ++ nil0 k ++ []) = nat10 (p ++ t) * 10 ^ k := by
    rw [List.append_nil, nat10_append, nil0_nat, nil0_len]; omega
  refine ⟨?_, ?_, ?_⟩
  · unfold ansF
    rw [n1, e0, List.length_append, nil0_len, ht, show (0 : Int) - ((5 + k : Nat) : Int) = -((5 + k : Nat) : Int) from by omega, show (0 : Int) - ((5 : Nat) : Int) = -((5 : Nat) : Int) from by omega, show decide (([43] : List UInt8) = [45]) = false from rfl, show decide (([] : List UInt8) = [45]) = false from rfl]
    exact congrArg ansV (nearV_noughts _ 5 k)
  · unfold ansF
    rw [List.nil_append, List.length_append, ht, e0]
    congr 2
    show sg (decide (([] : List UInt8) = [45])) (nat10 (digL p.length)) - _ = _
    rw [digL_nat, show decide (([] : List UInt8) = [45]) = false from rfl, sg_false]
    omega
  · unfold ansF
    rw [n2, List.length_nil, e0, ht]
    show ansV (nearV _ _ (sg (decide (([45] : List UInt8) = [45])) (nat10 (digL (5 + k))) - _)) = _
    rw [digL_nat, show decide (([45] : List UInt8) = [45]) = true from rfl, sg_true, show -((5 + k : Nat) : Int) - ((0 : Nat) : Int) = -((5 + k : Nat) : Int) from by omega, show (0 : Int) - ((5 : Nat) : Int) = -((5 : Nat) : Int) from by omega, show decide (([] : List UInt8) = [45]) = false from rfl]
    exact congrArg ansV (nearV_noughts _ 5 k)

theorem num1 {p t : List UInt8} (hp : AllDig p) (ht : AllDig t) (h5 : t.length = 5) : IsNum (⟨(p ++ 46 :: t).toArray⟩ : ByteArray).data.toList [] p true t none :=
  ⟨Or.inl rfl, hp, ht, (fun e => by cases e), by omega, trivial, by rw [ba_list]; simp [ptL, expo]⟩
theorem num2 {p t : List UInt8} (k : Nat) (hp : AllDig p) (ht : AllDig t) (h5 : t.length = 5) : IsNum (⟨(43 :: (nil0 k ++ (p ++ 46 :: (t ++ nil0 k)))).toArray⟩ : ByteArray).data.toList [43] (nil0 k ++ p) true (t ++ nil0 k) none :=
  ⟨Or.inr (Or.inl rfl), allDig_append (nil0_all k) hp, allDig_append ht (nil0_all k), (fun e => by cases e), by simp; omega, trivial, by rw [ba_list]; simp [ptL, expo]⟩
theorem num3 {p t : List UInt8} (hp : AllDig p) (ht : AllDig t) (h5 : t.length = 5) : IsNum (⟨(46 :: (p ++ (t ++ 101 :: digL p.length))).toArray⟩ : ByteArray).data.toList [] [] true (p ++ t) (some (101, [], digL p.length)) :=
  ⟨Or.inl rfl, allDig_nil, allDig_append hp ht, (fun e => by cases e), by simp; omega, ⟨by decide, Or.inl rfl, digL_all _, fun h => by have := digL_pos p.length; rw [h] at this; simp at this⟩, by rw [ba_list]; simp [ptL, expo]⟩
theorem num4 {p t : List UInt8} (k : Nat) (hp : AllDig p) (ht : AllDig t) (h5 : t.length = 5) : IsNum (⟨(p ++ (t ++ (nil0 k ++ 69 :: 45 :: digL (5 + k)))).toArray⟩ : ByteArray).data.toList [] (p ++ t ++ nil0 k) false [] (some (69, [45], digL (5 + k))) :=
  ⟨Or.inl rfl, allDig_append (allDig_append hp ht) (nil0_all k), allDig_nil, fun _ => rfl, by simp; omega, ⟨by decide, Or.inr (Or.inr rfl), digL_all _, fun h => by have := digL_pos (5 + k); rw [h] at this; simp at this⟩, by rw [ba_list]; simp [ptL, expo]⟩

def ZInv (k : Nat) (z i : Value) : Prop := ∃ j : Nat, j ≤ k ∧ i = .int .i64 (j : Int) ∧ z = .string ⟨(nil0 j).toArray⟩

set_option maxHeartbeats 1000000 in
theorem walkN (a b c : Nat) (ha : a ≤ 65535) (hb : b ≤ 65535) (hc : c ≤ 255) (w : World) (T : Tabs w) :
    Calls Tryd.prog 5 #[.int .u16 (a : Int), .int .u16 (b : Int), .int .u8 (c : Int)] w fun e w' => e = .returned (.bool true) ∧ Below w.heap.size w w' := by
  have K := Lib.hid (wakes_any _ T)
  have HT := Lib.hid T
  clear T
  have eC : (c : Int).tmod 50 = ((c % 50 : Nat) : Int) := rfl
  have lC : c % 50 < 50 := Nat.mod_lt _ (by decide)
  have mC : IntKind.i64.wrap (c : Int) = (c : Int) := IntWalk.i64_in _ (by omega)
  generalize c % 50 = k at *
  obtain ⟨c0, t, e5, ht, h5, _⟩ := digL_five b (by omega)
  have GA := Lib.hid (fun w => digits_any a w (by omega))
  have GB := Lib.hid (fun w => digits_any (b + 100000) w (by omega))
  rw [e5, show ((b + 100000 : Nat) : Int) = (b : Int) + 100000 from by omega] at GB
  have hp := digL_all a
  have lA := digL_len a 4 (by omega)
  have pA := digL_pos a
  clear e5
  generalize digL a = p at *
  have X5 : (⟨(c0 :: t).toArray⟩ : ByteArray).extract 1 6 = ⟨t.toArray⟩ := by
    refine ByteArray.ext ?_
    refine Array.toList_inj.1 ?_
    rw [Lib.extract_data, ba_list]
    exact List.take_of_length_le (by simp; omega)
  obtain ⟨q2, q3, q4⟩ := four p t k h5
  have ld : (digL p.length).length ≤ 2 := digL_len p.length 1 (by omega)
  have ld5 : (digL (5 + k)).length ≤ 2 := digL_len (5 + k) 1 (by omega)
  have lz := nil0_len k
  have P1 := Lib.hid (fun w T => Parse_num _ _ _ _ _ _ w (by rw [ba_size]; simp; omega) T (num1 hp ht h5))
  have P2 := Lib.hid (fun w T => Parse_num _ _ _ _ _ _ w (by rw [ba_size]; simp; omega) T (num2 k hp ht h5))
  have P3 := Lib.hid (fun w T => Parse_num _ _ _ _ _ _ w (by rw [ba_size]; simp; omega) T (num3 hp ht h5))
  have P4 := Lib.hid (fun w T => Parse_num _ _ _ _ _ _ w (by rw [ba_size]; simp; omega) T (num4 k hp ht h5))
  rw [q2] at P2
  rw [q3] at P3
  rw [q4] at P4
  unfold Tells at P1 P2 P3 P4
  have HO := Lib.hid (show ansF [] p t none = (( ansF [] p t none).1, 0) ∨ ansF [] p t none = (0, 2) from by
    rcases ansV_ok (nearV (decide (([] : List UInt8) = [45])) (nat10 (p ++ t)) (exV none - t.length)) with h | h
    · left; unfold ansF; rw [h]
    · right; exact h)
  have GL := Lib.hid (fun w => digits_any p.length w (by omega))
  have GK := Lib.hid (fun w => digits_any (5 + k) w (by omega))
  rw [show ((5 + k : Nat) : Int) = 5 + (k : Int) from by omega] at GK
  clear q2 q3 q4 hp ht
  generalize ansF [] p t none = an at *
  generalize digL p.length = D at *
  generalize digL (5 + k) = E at *
  have mA : IntKind.i64.wrap (a : Int) = (a : Int) := IntWalk.i64_in _ (by omega)
  have mB : IntKind.i64.wrap (b : Int) = (b : Int) := IntWalk.i64_in _ (by omega)
  have mB' : IntKind.i64.wrap ((b : Int) + 100000) = (b : Int) + 100000 := IntWalk.i64_in _ (by omega)
  go_enter Tryd.func5, Tryd.ntmps5
  go_wp2_with fail
  refine K.out.mono ?_
  rintro e w1 ⟨rfl, b1⟩
  have T1 := Lib.hid (HT.out.next b1)
  have B1 := Lib.hid b1
  clear K HT b1
  go_wp2_with fail
  go_loop [7, 24] (fun z i => ZInv k z i) (fun _ i => k - (intOf i).toNat)
  case atStart => exact ⟨0, by omega, rfl, rfl⟩
  case round =>
    obtain ⟨j, hj, rfl, rfl⟩ := hrel
    have s0 := fun W => cat_run (nil0 j) [48] W (by rw [nil0_len]; simp; omega)
    rw [← nil0_succ] at s0
    by_cases hlt : j < k
    · have n1 : IntKind.i64.wrap ((j : Int) + 1) = ((j + 1 : Nat) : Int) := by rw [IntWalk.i64_in _ (by omega)]; omega
      go_wp2_with fail
      go_round
      case rel => exact ⟨j + 1, by omega, by go_num, rfl⟩
      case measure => simp [intOf]; omega
    · obtain rfl : j = k := by omega
      clear s0
      go_wp2_with fail
      go_region_held3 (fun _ => True) (trivial)
        (first | (go_at_call 12; (with_reducible refine (GA.out _).mono ?_); rintro e wA ⟨rfl, hbA⟩)
               | (go_at_call 12; (with_reducible refine (GB.out _).mono ?_); rintro e wB ⟨rfl, hbB⟩))
      replace hbA : Below w1.heap.size w1 wA := Below.trans (b := w1.drew) ((Below.refl w1.heap.size w1).drew) hbA
      have T2 := Lib.hid ((T1.out.next hbA).next hbB)
      have B2 := Lib.hid ((B1.out.trans (hbA.mono B1.out.size)).trans (hbB.mono (Nat.le_trans B1.out.size hbA.size)))
      clear T1 B1 hbA hbB GA GB X5 mA mB mB' mC
      generalize nil0 j = Z at *
      have s1 := fun W => cat_run p [46] W (by simp; omega)
      have s2 := fun W => cat_run (p ++ [46]) t W (by simp; omega)
      have s3 := fun W => cat_run [43] Z W (by simp; omega)
      have s4 := fun W => cat_run (43 :: Z) (p ++ 46 :: t) W (by simp; omega)
      have s5 := fun W => cat_run (43 :: (Z ++ (p ++ 46 :: t))) Z W (by simp; omega)
      have r1 := fun W => cat_run [46] p W (by simp; omega)
      have r2 := fun W => cat_run (46 :: p) t W (by simp; omega)
      have r3 := fun W => cat_run (46 :: (p ++ t)) [101] W (by simp; omega)
      have r4 := fun W => cat_run (46 :: (p ++ (t ++ [101]))) D W (by simp; omega)
      have v1 := fun W => cat_run p t W (by omega)
      have v2 := fun W => cat_run (p ++ t) Z W (by simp; omega)
      have v3 := fun W => cat_run (p ++ (t ++ Z)) [69, 45] W (by simp; omega)
      have v4 := fun W => cat_run (p ++ (t ++ (Z ++ [69, 45]))) E W (by simp; omega)
      simp only [List.cons_append, List.append_assoc, List.nil_append] at s2 s3 s4 s5 r1 r2 r3 r4 v2 v3 v4
      have m5 : IntKind.i64.wrap (5 + (j : Int)) = 5 + (j : Int) := IntWalk.i64_in _ (by omega)
      go_wp2_with fail
      refine (P1.out _ T2.out).mono ?_
      rintro e w3 ⟨rfl, b3⟩
      have T3 := Lib.hid (T2.out.next b3)
      have B3 := Lib.hid (B2.out.trans (b3.mono B2.out.size))
      clear T2 B2 b3 P1 s1 s2
      go_wp2_with fail
      refine (P2.out _ T3.out).mono ?_
      rintro e w4 ⟨rfl, b4⟩
      have T4 := Lib.hid (T3.out.next b4)
      have B4 := Lib.hid (B3.out.trans (b4.mono B3.out.size))
      clear T3 B3 b4 P2 s3 s4 s5
      go_wp2_with fail
      refine (GL.out _).mono ?_
      rintro e w5 ⟨rfl, b5⟩
      have T5 := Lib.hid (T4.out.next b5)
      have B5 := Lib.hid (B4.out.trans (b5.mono B4.out.size))
      clear T4 B4 b5 GL
      go_wp2_with fail
      refine (P3.out _ T5.out).mono ?_
      rintro e w6 ⟨rfl, b6⟩
      have T6 := Lib.hid (T5.out.next b6)
      have B6 := Lib.hid (B5.out.trans (b6.mono B5.out.size))
      clear T5 B5 b6 P3 r1 r2 r3 r4
      go_wp2_with fail
      refine (GK.out _).mono ?_
      rintro e w7 ⟨rfl, b7⟩
      have T7 := Lib.hid (T6.out.next b7)
      have B7 := Lib.hid (B6.out.trans (b7.mono B6.out.size))
      clear T6 B6 b7 GK
      go_wp2_with fail
      refine (P4.out _ T7.out).mono ?_
      rintro e w8 ⟨rfl, b8⟩
      have T8 := Lib.hid (T7.out.next b8)
      have B8 := Lib.hid (B7.out.trans (b8.mono B7.out.size))
      clear T7 B7 b8 P4 v1 v2 v3 v4
      have ho := HO.out
      clear HO
      obtain ⟨x, e⟩ := an
      rcases ho with h | h
      · obtain rfl : e = 0 := (Prod.mk.inj h).2
        clear h
        go_wp2_with fail
        go_ret
        exact ⟨by simp, B8.out⟩
      · obtain ⟨rfl, rfl⟩ := Prod.mk.inj h
        clear h
        go_wp2_with fail
        go_ret
        exact ⟨by simp, B8.out⟩

theorem u_wf16 {a : Int} (h : (Lit.int .u16 a).wf = true) : ∃ n : Nat, a = (n : Int) ∧ n ≤ 65535 := by
  simp [Lit.wf, IntKind.min, IntKind.max, IntKind.signed, IntKind.bits] at h
  exact ⟨a.toNat, by omega, by omega⟩
theorem u_wf8 {a : Int} (h : (Lit.int .u8 a).wf = true) : ∃ n : Nat, a = (n : Int) ∧ n ≤ 255 := by
  simp [Lit.wf, IntKind.min, IntKind.max, IntKind.signed, IntKind.bits] at h
  exact ⟨a.toNat, by omega, by omega⟩
theorem walk (a b c : Int) (ha : (Lit.int .u16 a).wf = true) (hb : (Lit.int .u16 b).wf = true) (hc : (Lit.int .u8 c).wf = true) (w : World) (T : Tabs w) :
    Calls Tryd.prog 5 #[.int .u16 a, .int .u16 b, .int .u8 c] w fun e w' => e = .returned (.bool true) ∧ Below w.heap.size w w' := by
  obtain ⟨a', rfl, ha'⟩ := u_wf16 ha
  obtain ⟨b', rfl, hb'⟩ := u_wf16 hb
  obtain ⟨c', rfl, hc'⟩ := u_wf8 hc
  exact walkN a' b' c' ha' hb' hc' w T

set_option maxRecDepth 100000 in
theorem lifted (os : Os) (started : os.Started) (H : Type) (enc : TypeId × Value → H) :
    ReturnsInHanded {} Tryd.checked os 5 .any (fun w args => (Rows.decNoughtsSpec.pre enc Tryd.prog Tryd.f5 Rows.decNoughtsRow.domain false w args ∧ laidMetH Tryd.prog laid3 w) ∧ sizedMet enc Tryd.prog Tryd.f5 (OpenSpec.ofChange Rows.decNoughtsSpec) false w args)
      (Rows.decNoughtsSpec.post enc Tryd.prog Tryd.f5 false true false false) := by
  refine wrap_laid (C := Tryd.checked) (X := fun w _ => laidMetH Tryd.prog laid3 w) (fun _ _ _ hh h => h.of_heap hh) own started (by kernel_rfl) Tryd.func5
    (ChangeSpec.witness_shaped (enc := enc) (C := Tryd.checked) (os := os) (X := fun w _ => laidMetH Tryd.prog laid3 w) false (World.laidAll Tryd.prog os laid3) #[.int .u16 0, .int .u16 0, .int .u8 0] 8 (World.laidAll_os _ _ _)
      (World.shaped_of_ZipB (by kernel_rfl) (by kernel_rfl)) (by kernel_rfl) (by kernel_rfl) (by kernel_rfl)
      (by rw [MakeChecks.laidMetH_plain _ _ _ (by kernel_rfl)]; exact laidMet_laidAll _ (by kernel_rfl) (by kernel_rfl))) ?_
  intro W base args ds gs before hval0 hW hcnd _ hL hS _
  have hval : ∀ (j : Nat) t v, Tryd.f5.params[j]? = some t → args[j]? = some v → Value.okWide Tryd.prog W .any base t v := hval0
  have hW' := hW
  obtain ⟨p, q, hA0, hV, rfl, hfz, hnd⟩ := hW
  have hA : DataW.TrodAll enc Tryd.prog W 0 (fun _ => true) true Tryd.f5.params.toList args.toList ds p := hA0
  rw [Tryd.params5] at hA hval
  obtain ⟨v0, v1, v2, d0, d1, d2, p0, p1, p2, rfl, rfl, rfl, h0, h1, h2⟩ := trodAll_three hA
  obtain ⟨rfl, rfl⟩ := trodVars_none hV
  obtain ⟨a0, rfl, rfl, rfl, w0⟩ := open_int Tryd.underlying31 (hval 0 31 v0 rfl rfl) h0
  obtain ⟨a1, rfl, rfl, rfl, w1⟩ := open_int Tryd.underlying31 (hval 1 31 v1 rfl rfl) h1
  obtain ⟨a2, rfl, rfl, rfl, w2⟩ := open_int Tryd.underlying5 (hval 2 5 v2 rfl rfl) h2
  clear hA0 hval0
  simp only [List.append_nil] at hW'
  refine (walk a0 a1 a2 w0 w1 w2 W (tabs_of hL hS)).mono fun e W' ⟨he, hg⟩ => ?_
  subst he
  exact ⟨_, rfl, ⟨_, _, _, [], _, [], hW', trodAll_mk1 (shut_bool Tryd.underlying4 _), trodAll_mk3 (shut_int Tryd.underlying31 w0) (shut_int Tryd.underlying31 w1) (shut_int Tryd.underlying5 w2), rfl, hg.frame _, fun h => by cases h⟩⟩

/-- The row's statement. -/
theorem row_holds : Rows.DecNoughtsSaid :=
  OpenClaim.holds_of_wide 5 Tryd.f5 rfl rfl rfl rfl rfl rfl rfl ⟨rfl, rfl, rfl, rfl, rfl⟩ rfl rfl rfl rfl rfl (by kernel_rfl) Tryd.func5 (by kernel_rfl)
    (of_decide_eq_true (by kernel_rfl)) (by unfold Func.isWrapper; first | (rw [if_pos (by decide +kernel)]; kernel_rfl) | (rw [if_neg (by decide +kernel)]; exact ⟨rfl, rfl⟩))
    (fun os started H enc _ => lifted os started H enc)
/-- The given statement: the card. -/
theorem proved : Rows.DecNoughtsCardSaid :=
  Claim7.holds_tied_plain_at .later [] [.data, .data, .pinned] true (true, "b7df859e86617f85e817c49308b948cd4c0335cb55bafe23485998e54c1e145d") false row_holds (fun _ h => by cases h) (by kernel_rfl) (fun _ h => by cases h) decNoughts_row_tie rfl ⟨rfl, rfl⟩ (by kernel_rfl) rfl
    (fun f fn hf hfn => by
      obtain rfl : f = 5 := Option.some.inj ((show Tryd.prog.funcNamed "pointillist/pointillistlaw04.DecNoughts" = some 5 by kernel_rfl).symm.trans hf) |>.symm
      obtain rfl : fn = Tryd.f5 := (Option.some.inj (Tryd.func5.symm.trans hfn)).symm
      exact ⟨by kernel_rfl, fun j t ht => by
        rw [Tryd.params5] at ht
        have hm : t ∈ [31, 31, 5] := by simpa using Array.mem_of_getElem? ht
        have hall : ([31, 31, 5].all fun u => !Tryd.prog.wantsStandIn u) = true := by kernel_rfl
        exact (show Tryd.prog.wantsStandIn t = false by simpa using List.all_eq_true.1 hall t hm)⟩)
    (by kernel_rfl)
end Go.Proofs.YtfikkfiihknccaaDoor.decNoughts
