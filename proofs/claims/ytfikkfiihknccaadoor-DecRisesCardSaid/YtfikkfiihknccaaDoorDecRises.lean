/-
  PROVED: the statement of DecRises, for every input: of two numbers with one digit more behind, the greater digit's isn't less, and both lie as near to the one without as they should. No conditions but what the row lists: package variables as the program's text lays them.
-/
import Derived.Test.YtfikkfiihknccaaDoorDecNums
import Derived.Test.YtfikkfiihknccaaDoorDecLaid
namespace Go.Proofs.YtfikkfiihknccaaDoor.decRises
open Go.ChangeShapes Go.WideShapes Go.ChangeAt Go.RowKit Go.Shelf

/-- Block g holds four numbers. -/
def Four (g : Nat) (a b c d : Nat) (w : World) : Prop := w.heap[g]? = some (.cells #[.int .u32 (a : Int), .int .u32 (b : Int), .int .u32 (c : Int), .int .u32 (d : Int)] 35)
theorem Four.new (w : World) (a b c d : Nat) : Four w.heap.size a b c d (w.alloc (.cells #[.int .u32 (a : Int), .int .u32 (b : Int), .int .u32 (c : Int), .int .u32 (d : Int)] 35)) := by
  show (w.heap.push _)[w.heap.size]? = _
  rw [Array.getElem?_push, if_pos rfl]
theorem Four.lt {g : Nat} {a b c d : Nat} {w : World} (h : Four g a b c d w) : g < w.heap.size := (Array.getElem?_eq_some_iff.1 h).1
theorem Four.below {g : Nat} {a b c d : Nat} {w w' : World} (h : Four g a b c d w) (t : Below w.heap.size w w') : Four g a b c d w' := by
  have := h.lt
  unfold Four at *
  rw [t.block g this]; exact h
theorem Four.c0 {g : Nat} {a b c d : Nat} {w : World} (h : Four g a b c d w) : w.cell? ⟨g, 0, none⟩ = some (.int .u32 (a : Int)) := by unfold Four at h; simp [World.cell?, h]
theorem Four.c1 {g : Nat} {a b c d : Nat} {w : World} (h : Four g a b c d w) : w.cell? ⟨g, 1, none⟩ = some (.int .u32 (b : Int)) := by unfold Four at h; simp [World.cell?, h]
theorem Four.c2 {g : Nat} {a b c d : Nat} {w : World} (h : Four g a b c d w) : w.cell? ⟨g, 2, none⟩ = some (.int .u32 (c : Int)) := by unfold Four at h; simp [World.cell?, h]
theorem Four.c3 {g : Nat} {a b c d : Nat} {w : World} (h : Four g a b c d w) : w.cell? ⟨g, 3, none⟩ = some (.int .u32 (d : Int)) := by unfold Four at h; simp [World.cell?, h]

/-- What the three texts tell. -/
theorem three (A B i k : Nat) (hi : i ≤ k) (hk : k ≤ 9) : ∃ nx ny nz : Int,
    ansF [] (digL A) (digL B ++ [db i]) none = ansV nx ∧ ansF [] (digL A) (digL B ++ [db k]) none = ansV ny ∧ ansF [] (digL A) (digL B) none = ansV nz ∧
    nx ≤ ny ∧ nz ≤ nx ∧ ny ≤ nz + 65536 ∧ 0 ≤ nz ∧ (A ≤ 65534 → ny ≤ 4294901760) := by
  have hd : ∀ j, j ≤ 9 → nat10 (digL A ++ (digL B ++ [db j])) = 10 * nat10 (digL A ++ digL B) + j := fun j hj => by
    rw [← List.append_assoc, nat10_snoc, db_dv]; omega
  have hN : nat10 (digL A ++ digL B) < (A + 1) * 10 ^ (digL B).length := by
    rw [nat10_append, digL_nat]
    have := nat10_lt _ (digL_all B)
    rw [Nat.add_mul]; omega
  have R := rises_near (nat10 (digL A ++ digL B)) (digL B).length i k A hi hk hN
  have e : ∀ m : Nat, exV none - (m : Int) = -(m : Int) := fun m => by show (0 : Int) - m = _; omega
  refine ⟨_, _, _, ?_, ?_, ?_, R.1, R.2.1, R.2.2.1, R.2.2.2.1, fun h => by have := R.2.2.2.2 h; omega⟩
  · unfold ansF; rw [hd i (by omega), List.length_append, e]; rfl
  · unfold ansF; rw [hd k hk, List.length_append, e]; rfl
  · unfold ansF; rw [e]; rfl

theorem num_of (A : Nat) (t : List UInt8) (h : AllDig t) : IsNum (⟨(digL A ++ 46 :: t).toArray⟩ : ByteArray).data.toList [] (digL A) true t none :=
  ⟨Or.inl rfl, digL_all A, h, (fun e => by cases e), by have := digL_pos A; omega, trivial, by rw [ba_list]; simp [ptL, expo]⟩

set_option maxHeartbeats 1000000 in
theorem walk (a b c d : Nat) (ha : a ≤ 4294967295) (hb : b ≤ 4294967295) (hc : c ≤ 4294967295) (hd : d ≤ 4294967295) (i k : Nat) (hik : (d % 10 < c % 10 ∧ i = d % 10 ∧ k = c % 10) ∨ (¬ d % 10 < c % 10 ∧ i = c % 10 ∧ k = d % 10)) (w : World) (T : Tabs w) :
    Calls Tryd.prog 6 #[.agg #[.int .u32 (a : Int), .int .u32 (b : Int), .int .u32 (c : Int), .int .u32 (d : Int)]] w fun e w' => e = .returned (.bool true) ∧ Below w.heap.size w w' := by
  have b0 := (Below.refl w.heap.size w).alloc (Nat.le_refl _) (.cells #[.int .u32 (a : Int), .int .u32 (b : Int), .int .u32 (c : Int), .int .u32 (d : Int)] 35)
  have T0 := T.next b0
  have F0 := Four.new w a b c d
  have K := Lib.hid (wakes_any _ T0)
  have HT := Lib.hid T0
  have HF := Lib.hid F0
  have HB := Lib.hid b0
  have lA := digL_len (a % 65536) 4 (by omega)
  have lB := digL_len b 9 (by omega)
  have hk9 : i ≤ k ∧ k ≤ 9 := by omega
  obtain ⟨nx, ny, nz, ex, ey, ez, hxy, hzx, hyz, h0, hsm⟩ := three (a % 65536) b i k hk9.1 hk9.2
  have PX := Lib.hid (fun w T => Parse_num _ _ _ _ _ _ w (by rw [ba_size]; simp; omega) T (num_of (a % 65536) (digL b ++ [db i]) (allDig_append (digL_all b) (allDig_one i))))
  have PY := Lib.hid (fun w T => Parse_num _ _ _ _ _ _ w (by rw [ba_size]; simp; omega) T (num_of (a % 65536) (digL b ++ [db k]) (allDig_append (digL_all b) (allDig_one k))))
  have PZ := Lib.hid (fun w T => Parse_num _ _ _ _ _ _ w (by rw [ba_size]; simp; omega) T (num_of (a % 65536) (digL b) (digL_all b)))
  rw [ex] at PX
  rw [ey] at PY
  rw [ez] at PZ
  unfold Tells at PX PY PZ
  have GA := Lib.hid (fun w => digits_any (a % 65536) w (by omega))
  have GB := Lib.hid (fun w => digits_any b w hb)
  have GI := Lib.hid (fun w => digits_any i w (by omega))
  have GK := Lib.hid (fun w => digits_any k w (by omega))
  rw [digL_one i (by omega)] at GI
  rw [digL_one k (by omega)] at GK
  have eA : (a : Int) % 65536 = ((a % 65536 : Nat) : Int) := by omega
  have hA : a % 65536 ≤ 65535 := by omega
  clear ex ey ez
  generalize digL (a % 65536) = p at *
  generalize digL b = q at *
  generalize a % 65536 = A at *
  generalize db i = di at *
  generalize db k = dk at *
  have s1 := fun W => cat_run p [46] W (by simp; omega)
  have s2 := fun W => cat_run (p ++ [46]) q W (by simp; omega)
  have s3 := fun W => cat_run (p ++ 46 :: q) [di] W (by simp; omega)
  have s4 := fun W => cat_run (p ++ 46 :: q) [dk] W (by simp; omega)
  rw [show (p ++ 46 :: q) ++ [di] = p ++ 46 :: (q ++ [di]) from by simp] at s3
  rw [show (p ++ 46 :: q) ++ [dk] = p ++ 46 :: (q ++ [dk]) from by simp] at s4
  have hx : ansV nx = (nx, 0) ∨ (ansV nx = (0, 2) ∧ A = 65535) := by
    rcases ansV_ok nx with h | h
    · exact Or.inl h
    · refine Or.inr ⟨h, ?_⟩
      refine Classical.byContradiction fun hn => ?_
      have := hsm (by omega)
      unfold ansV at h
      rw [if_pos (by omega)] at h
      simp at h
  have hy : ansV ny = (ny, 0) ∨ (ansV ny = (0, 2) ∧ A = 65535) := by
    rcases ansV_ok ny with h | h
    · exact Or.inl h
    · refine Or.inr ⟨h, ?_⟩
      refine Classical.byContradiction fun hn => ?_
      have := hsm (by omega)
      unfold ansV at h
      rw [if_pos (by omega)] at h
      simp at h
  have hz : (ansV nz = (nz, 0) ∧ 0 ≤ nz ∧ nz < 4294967296) ∨ (ansV nz = (0, 2) ∧ A = 65535) := by
    rcases ansV_ok nz with h | h
    · refine Or.inl ⟨h, h0, ?_⟩
      refine Classical.byContradiction fun hn => ?_
      unfold ansV at h
      rw [if_neg (by omega)] at h
      simp at h
    · refine Or.inr ⟨h, ?_⟩
      refine Classical.byContradiction fun hn => ?_
      have := hsm (by omega)
      unfold ansV at h
      rw [if_pos (by omega)] at h
      simp at h
  have HX := Lib.hid hx
  have HY := Lib.hid hy
  have HZ := Lib.hid hz
  have HH := Lib.hid (And.intro hxy (And.intro hzx hyz))
  clear hx hy hz hxy hzx hyz h0 hsm
  have mA : IntKind.i64.wrap (A : Int) = (A : Int) := IntWalk.i64_in _ (by omega)
  have mB : IntKind.i64.wrap (b : Int) = (b : Int) := IntWalk.i64_in _ (by omega)
  clear T0 F0 b0 T
  go_enter Tryd.func6, Tryd.ntmps6
  go_wp2_with fail
  refine K.out.mono ?_
  rintro e w1 ⟨rfl, b1⟩
  have T1 := Lib.hid (HT.out.next b1)
  have F1 := Lib.hid (HF.out.below b1)
  have B1 := Lib.hid (HB.out.trans (b1.mono HB.out.size))
  have k0 := F1.out.c0; have k1 := F1.out.c1; have k2 := F1.out.c2; have k3 := F1.out.c3
  have lg := F1.out.lt
  have gg : w.heap.size ≤ w.heap.size := Nat.le_refl _
  generalize hgen : w.heap.size = g at F1 k0 k1 k2 k3 lg gg ⊢
  clear K HT HF HB b1
  go_wp2_with fail
  go_region_held3 (fun w' => w'.cell? ⟨g, 1, none⟩ = some (.int .u32 (b : Int))) (simp [go_sem, *])
    (first | (go_at_call 12; (with_reducible refine (GA.out _).mono ?_); rintro e wA ⟨rfl, hbA⟩; have kA := (hbA.cell (p := ⟨g, 1, none⟩) (by exact lg)).trans (by exact k1))
           | (go_at_call 12; (with_reducible refine (GB.out _).mono ?_); rintro e wB ⟨rfl, hbB⟩; have kB := (hbB.cell (p := ⟨g, 1, none⟩) (by exact Nat.lt_of_lt_of_le lg hbA.size)).trans (by exact kA)))
  replace hbA : Below w1.heap.size w1 wA := Below.trans (b := w1.drew) ((Below.refl w1.heap.size w1).drew) hbA
  have F2 := Lib.hid ((F1.out.below hbA).below hbB)
  have T2 := Lib.hid ((T1.out.next hbA).next hbB)
  have B2 := Lib.hid ((B1.out.trans (hbA.mono (by exact B1.out.size))).trans (hbB.mono (by exact Nat.le_trans B1.out.size hbA.size)))
  have z2 := F2.out.c2; have z3 := F2.out.c3
  have lg2 := F2.out.lt
  clear F1 T1 B1 hbA hbB k0 k1 k2 k3 kA kB lg s1 s2 GA GB
  have mC : IntKind.i64.wrap (c : Int) = (c : Int) := IntWalk.i64_in _ (by omega)
  have mD : IntKind.i64.wrap (d : Int) = (d : Int) := IntWalk.i64_in _ (by omega)
  have eC : (c : Int).tmod 10 = ((c % 10 : Nat) : Int) := rfl
  have eD : (d : Int).tmod 10 = ((d % 10 : Nat) : Int) := rfl
  have lC : c % 10 < 10 := Nat.mod_lt _ (by decide)
  have lD : d % 10 < 10 := Nat.mod_lt _ (by decide)
  generalize c % 10 = C at *
  generalize d % 10 = D at *
  have nC : IntKind.i64.wrap (C : Int) = (C : Int) := IntWalk.i64_in _ (by omega)
  have nD : IntKind.i64.wrap (D : Int) = (D : Int) := IntWalk.i64_in _ (by omega)
  rcases hik with ⟨hlt, rfl, rfl⟩ | ⟨hlt, rfl, rfl⟩
  all_goals
    go_wp2_with fail
    go_quiet (fail)
    have d2 := below_drewq (Below.refl wB.heap.size wB) nq
    have T3 := Lib.hid (T2.out.next d2)
    have B3 := Lib.hid (B2.out.trans (d2.mono B2.out.size))
    generalize wB.drewN nq = w3 at *
    clear T2 B2 F2 z2 z3 lg2 d2 nC nD eC eD mC mD mA mB
    go_wp2_with fail
    refine (GI.out _).mono ?_
    rintro e w4 ⟨rfl, b4⟩
    have T4 := Lib.hid (T3.out.next b4)
    have B4 := Lib.hid (B3.out.trans (b4.mono B3.out.size))
    clear T3 B3 b4 GI
    go_wp2_with fail
    refine (PX.out _ T4.out).mono ?_
    rintro e w5 ⟨rfl, b5⟩
    have T5 := Lib.hid (T4.out.next b5)
    have B5 := Lib.hid (B4.out.trans (b5.mono B4.out.size))
    clear T4 B4 b5 PX s3
    go_wp2_with fail
    refine (GK.out _).mono ?_
    rintro e w6 ⟨rfl, b6⟩
    have T6 := Lib.hid (T5.out.next b6)
    have B6 := Lib.hid (B5.out.trans (b6.mono B5.out.size))
    clear T5 B5 b6 GK
    go_wp2_with fail
    refine (PY.out _ T6.out).mono ?_
    rintro e w7 ⟨rfl, b7⟩
    have T7 := Lib.hid (T6.out.next b7)
    have B7 := Lib.hid (B6.out.trans (b7.mono B6.out.size))
    clear T6 B6 b7 PY s4
    go_wp2_with fail
    refine (PZ.out _ T7.out).mono ?_
    rintro e w8 ⟨rfl, b8⟩
    have B8 := Lib.hid (B7.out.trans (b8.mono B7.out.size))
    clear T7 B7 b8 PZ
    have hx := HX.out
    have hy := HY.out
    have hz := HZ.out
    clear HX HY HZ
    generalize ansV nx = ax at *
    generalize ansV ny = ay at *
    generalize ansV nz = az at *
    rcases hx with rfl | ⟨rfl, h1⟩
    · rcases hy with rfl | ⟨rfl, h1⟩
      · rcases hz with ⟨rfl, g0, g1⟩ | ⟨rfl, h1⟩
        · obtain ⟨g2, g3, g4⟩ := HH.out
          go_wp2_with fail
          go_ret
          exact ⟨by simp, B8.out⟩
        · subst h1
          go_wp2_with fail
          go_ret
          exact ⟨by simp, B8.out⟩
      · clear hz
        subst h1
        go_wp2_with fail
        go_ret
        exact ⟨by simp, B8.out⟩
    · clear hy hz
      subst h1
      go_wp2_with fail
      go_ret
      exact ⟨by simp, B8.out⟩
theorem cells_arr : Tryd.prog.cellsOf 35 = 4 := by kernel_rfl
theorem cells_u32 : Tryd.prog.cellsOf 34 = 1 := by kernel_rfl
theorem u32_wf {a : Int} (h : (Lit.int .u32 a).wf = true) : ∃ n : Nat, a = (n : Int) ∧ n ≤ 4294967295 := by
  simp [Lit.wf, IntKind.min, IntKind.max, IntKind.signed, IntKind.bits] at h
  exact ⟨a.toNat, by omega, by omega⟩

set_option maxRecDepth 100000 in
/-- An argument of type [4]uint32, read as data. -/
theorem four_of_trod {H : Type} {enc : TypeId × Value → H} {W : World} {base : Nat} {v : Value} {d : DataW H} {p : List MemPlace}
    (hok : Value.okWide Tryd.prog W .any base 35 v) (h : DataW.Trod enc Tryd.prog W 0 (fun _ => true) true 35 v d p) :
    ∃ a b c e : Nat, v = .agg #[.int .u32 (a : Int), .int .u32 (b : Int), .int .u32 (c : Int), .int .u32 (e : Int)] ∧ a ≤ 4294967295 ∧ b ≤ 4294967295 ∧ c ≤ 4294967295 ∧ e ≤ 4294967295 := by
  simp only [Value.okWide, Tryd.underlying35] at hok
  obtain ⟨cs, rfl, h2, _⟩ := hok
  rw [cells_arr] at h2
  obtain ⟨l⟩ := cs
  match l, h2 with
  | [c0, c1, c2, c3], _ =>
    obtain ⟨fuel, hf⟩ := h
    have hf' : DataW.trod enc Tryd.prog W 0 (fun _ => true) true fuel 35 [c0, c1, c2, c3] = some (d, p) := by simpa [Value.cells] using hf
    obtain ⟨y0, y1, y2, y3, n, _, t0, t1, t2, t3⟩ := trod_array4 Tryd.underlying35 cells_u32 hf'
    obtain ⟨a, ea, _, wa⟩ := DataW.trod_int Tryd.underlying34 t0
    obtain ⟨b, eb, _, wb⟩ := DataW.trod_int Tryd.underlying34 t1
    obtain ⟨c, ec, _, wc⟩ := DataW.trod_int Tryd.underlying34 t2
    obtain ⟨e, ee, _, we⟩ := DataW.trod_int Tryd.underlying34 t3
    simp at ea eb ec ee
    subst ea eb ec ee
    obtain ⟨a', rfl, ha⟩ := u32_wf wa
    obtain ⟨b', rfl, hb⟩ := u32_wf wb
    obtain ⟨c', rfl, hc⟩ := u32_wf wc
    obtain ⟨e', rfl, he⟩ := u32_wf we
    exact ⟨a', b', c', e', rfl, ha, hb, hc, he⟩

set_option maxRecDepth 100000 in
theorem lifted (os : Os) (started : os.Started) (H : Type) (enc : TypeId × Value → H) :
    ReturnsInHanded {} Tryd.checked os 6 .any (fun w args => (Rows.decRisesSpec.pre enc Tryd.prog Tryd.f6 Rows.decRisesRow.domain false w args ∧ laidMetH Tryd.prog laid3 w) ∧ sizedMet enc Tryd.prog Tryd.f6 (OpenSpec.ofChange Rows.decRisesSpec) false w args)
      (Rows.decRisesSpec.post enc Tryd.prog Tryd.f6 false true false false) := by
  refine wrap_laid (C := Tryd.checked) (X := fun w _ => laidMetH Tryd.prog laid3 w) (fun _ _ _ hh h => h.of_heap hh) own started (by kernel_rfl) Tryd.func6
    (ChangeSpec.witness_shaped (enc := enc) (C := Tryd.checked) (os := os) (X := fun w _ => laidMetH Tryd.prog laid3 w) false (World.laidAll Tryd.prog os laid3) #[.agg #[.int .u32 0, .int .u32 0, .int .u32 0, .int .u32 0]] 8 (World.laidAll_os _ _ _)
      (World.shaped_of_ZipB (by kernel_rfl) (by kernel_rfl)) (by kernel_rfl) (by kernel_rfl) (by kernel_rfl)
      (by rw [MakeChecks.laidMetH_plain _ _ _ (by kernel_rfl)]; exact laidMet_laidAll _ (by kernel_rfl) (by kernel_rfl))) ?_
  intro W base args ds gs before hval0 hW hcnd _ hL hS _
  have hval : ∀ (j : Nat) t v, Tryd.f6.params[j]? = some t → args[j]? = some v → Value.okWide Tryd.prog W .any base t v := hval0
  have hW' := hW
  obtain ⟨p, q, hA0, hV, rfl, hfz, hnd⟩ := hW
  have hA : DataW.TrodAll enc Tryd.prog W 0 (fun _ => true) true Tryd.f6.params.toList args.toList ds p := hA0
  rw [Tryd.params6] at hA hval
  obtain ⟨v0, d0, rfl, rfl, h0⟩ := trodAll_one hA
  obtain ⟨rfl, rfl⟩ := trodVars_none hV
  obtain ⟨a, b, c, e, rfl, ha, hb, hc, he⟩ := four_of_trod (hval 0 35 v0 rfl rfl) h0
  clear hA0 hval0
  simp only [List.append_nil] at hW'
  have hlt : ∀ x ∈ p, x.block < W.heap.size := fun x hx => by simpa using hW'.lt x hx
  have T := tabs_of hL hS
  have hik : ∃ i k : Nat, (e % 10 < c % 10 ∧ i = e % 10 ∧ k = c % 10) ∨ (¬ e % 10 < c % 10 ∧ i = c % 10 ∧ k = e % 10) := by
    by_cases h : e % 10 < c % 10
    · exact ⟨_, _, Or.inl ⟨h, rfl, rfl⟩⟩
    · exact ⟨_, _, Or.inr ⟨h, rfl, rfl⟩⟩
  obtain ⟨i, k, hik⟩ := hik
  refine (walk a b c e ha hb hc he i k hik W T).mono fun e W' ⟨he, hg⟩ => ?_
  subst he
  have h0' := Below.trod laidOut (by kernel_rfl) (of_decide_eq_true (by kernel_rfl)) h0 hg hlt
  exact ⟨_, rfl, ⟨_, _, _, [], _, [], hW', trodAll_mk1 (shut_bool Tryd.underlying4 _), trodAll_mk1 h0', rfl, hg.frame _, fun h => by cases h⟩⟩

/-- The row's statement. -/
theorem row_holds : Rows.DecRisesSaid :=
  OpenClaim.holds_of_wide 6 Tryd.f6 rfl rfl rfl rfl rfl rfl rfl ⟨rfl, rfl, rfl, rfl, rfl⟩ rfl rfl rfl rfl rfl (by kernel_rfl) Tryd.func6 (by kernel_rfl)
    (of_decide_eq_true (by kernel_rfl)) (by unfold Func.isWrapper; first | (rw [if_pos (by decide +kernel)]; kernel_rfl) | (rw [if_neg (by decide +kernel)]; exact ⟨rfl, rfl⟩))
    (fun os started H enc _ => lifted os started H enc)
/-- The given statement: the card. -/
theorem proved : Rows.DecRisesCardSaid :=
  Claim7.holds_tied_plain_at .later [] [.data, .data, .pinned] true (true, "b7df859e86617f85e817c49308b948cd4c0335cb55bafe23485998e54c1e145d") false row_holds (fun _ h => by cases h) (by kernel_rfl) (fun _ h => by cases h) decRises_row_tie rfl ⟨rfl, rfl⟩ (by kernel_rfl) rfl
    (fun f fn hf hfn => by
      obtain rfl : f = 6 := Option.some.inj ((show Tryd.prog.funcNamed "pointillist/pointillistlaw04.DecRises" = some 6 by kernel_rfl).symm.trans hf) |>.symm
      obtain rfl : fn = Tryd.f6 := (Option.some.inj (Tryd.func6.symm.trans hfn)).symm
      exact ⟨by kernel_rfl, fun j t ht => by
        rw [Tryd.params6] at ht
        have hm : t ∈ [35] := by simpa using Array.mem_of_getElem? ht
        have hall : ([35].all fun u => !Tryd.prog.wantsStandIn u) = true := by kernel_rfl
        exact (show Tryd.prog.wantsStandIn t = false by simpa using List.all_eq_true.1 hall t hm)⟩)
    (by kernel_rfl)
end Go.Proofs.YtfikkfiihknccaaDoor.decRises
