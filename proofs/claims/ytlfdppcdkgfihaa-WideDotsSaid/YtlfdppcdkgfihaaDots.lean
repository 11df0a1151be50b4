/-
  WideDots answers true for every four numbers and every s: Dot tells the nearest whole number to (a b + c d) / 2^s, rounded once, or none, just as the document's answer; and MulShift that of one product. No condition; memory that was there stays as it was.
-/
import Derived.Test.YtlfdppcdkgfihaaMulDivs
import Derived.Test.YtlfdppcdkgfihaaPower
import Derived.Laws.IdiomArrays
namespace Go.Proofs.Ytlfdppcdkgfihaa.wideDots
open Go.ChangeShapes Go.WideShapes Go.ChangeAt Go.RowKit Go.Proofs.Ytlfdppcdkgfihaa Go.Proofs.Ytlfdppcdkgfihaa.wideMulDivs

theorem refdot_bad (a b c d s : Int) (w : World) (hs : s < 0 ∨ 62 < s) :
    Calls Try.prog 15 #[.int .i64 a, .int .i64 b, .int .i64 c, .int .i64 d, .int .i64 s] w fun e w' => e = .returned (.tuple #[.int .i64 0, .bool false]) ∧ w = w' := by
  rcases hs with h | h
  · go_enter Try.func15, Try.ntmps15
    go_wp2
    go_ret2
    exact ⟨rfl, rfl⟩
  · have h2 : ¬ s < 0 := by omega
    go_enter Try.func15, Try.ntmps15
    go_wp2
    go_ret2
    exact ⟨rfl, rfl⟩

theorem nearZ_pow (z : Int) (s : Nat) : nearZ z ((2 ^ s : Nat) : Int) = near z (2 ^ s) := by
  have h := Nat.two_pow_pos s
  unfold nearZ
  rw [if_pos (by omega), Int.natAbs_natCast]

set_option maxHeartbeats 1000000 in
theorem refdot_any (a b c d : Int) (s : Nat) (w : World) (ha : I64 a) (hb : I64 b) (hc : I64 c) (hd : I64 d) (hs : s ≤ 62) :
    Calls Try.prog 15 #[.int .i64 a, .int .i64 b, .int .i64 c, .int .i64 d, .int .i64 s] w fun e w' => e = .returned (Pair (dot a b c d s)) ∧ Below w.heap.size w w' := by
  have hp := prod_abs a b ha hb
  have hq := prod_abs c d hc hd
  have sa : a.natAbs ≤ 9223372036854775808 := by unfold I64 at ha; omega
  have sb : b.natAbs ≤ 9223372036854775808 := by unfold I64 at hb; omega
  have sc : c.natAbs ≤ 9223372036854775808 := by unfold I64 at hc; omega
  have sd : d.natAbs ≤ 9223372036854775808 := by unfold I64 at hd; omega
  have A := Lib.hid (fun w => of_z a w ha)
  have B := Lib.hid (fun w => of_z b w hb)
  have C := Lib.hid (fun w => of_z c w hc)
  have D := Lib.hid (fun w => of_z d w hd)
  have M1 := Lib.hid (fun v1 v2 w => mulz v1 v2 a b w (big_of _ hp) (big_of _ (Nat.le_trans sa (by decide))) (big_of _ (Nat.le_trans sb (by decide))))
  have M2 := Lib.hid (fun v1 v2 w => mulz v1 v2 c d w (big_of _ hq) (big_of _ (Nat.le_trans sc (by decide))) (big_of _ (Nat.le_trans sd (by decide))))
  have hz : (a * b + c * d).natAbs ≤ 170141183460469231731687303715884105728 := by omega
  have h2 := two_pow_le s hs
  have h20 := Nat.two_pow_pos s
  have G := Lib.hid (fun v1 v2 w => add_z v1 v2 (a * b) (c * d) w (fair_big _ (Nat.le_trans hp (by unfold Big; decide))) (fair_big _ (Nat.le_trans hq (by unfold Big; decide))))
  have W := Lib.hid (fun w => power_z s w hs)
  have N := Lib.hid (fun v1 v2 w => near_z v1 v2 (a * b + c * d) ((2 ^ s : Nat) : Int) w (by omega) (Nat.le_trans hz (by unfold Big; decide)) (by rw [Int.natAbs_natCast]; exact big_of _ (by omega)))
  have P := Lib.hid (fun v w => plain_z v (near (a * b + c * d) (2 ^ s)) w (near_fair _ _ h20 (by omega) hz))
  rw [nearZ_pow] at N
  unfold dot
  unfold Pair at P ⊢
  generalize near (a * b + c * d) (2 ^ s) = r at *
  generalize ((2 ^ s : Nat) : Int) = q2 at *
  have s1 : ¬ (s : Int) < 0 := by omega
  have s2 : ¬ 62 < (s : Int) := by omega
  clear hp hq sa sb sc sd hz h2 h20 ha hb hc hd
  generalize a * b = p1 at *
  generalize c * d = p2 at *
  go_enter Try.func15, Try.ntmps15
  go_wp2_with fail
  refine (A.out _).mono ?_
  rintro e w1 ⟨v1, rfl, hv1, b1⟩
  go_wp2_with fail
  refine (B.out _).mono ?_
  rintro e w2 ⟨v2, rfl, hv2, b2⟩
  go_wp2_with fail
  refine (M1.out _ _ _ (hv1.below b2 (Nat.le_refl _)) hv2).mono ?_
  rintro e w3 ⟨v3, rfl, hv3, b3⟩
  go_wp2_with fail
  refine (C.out _).mono ?_
  rintro e w4 ⟨v4, rfl, hv4, b4⟩
  go_wp2_with fail
  refine (D.out _).mono ?_
  rintro e w5 ⟨v5, rfl, hv5, b5⟩
  go_wp2_with fail
  refine (M2.out _ _ _ (hv4.below b5 (Nat.le_refl _)) hv5).mono ?_
  rintro e w6 ⟨v6, rfl, hv6, b6⟩
  go_wp2_with fail
  refine (G.out _ _ _ (((hv3.below b4 (Nat.le_refl _)).below b5 (Nat.le_refl _)).below b6 (Nat.le_refl _)) hv6).mono ?_
  rintro e w7 ⟨v7, rfl, hv7, b7⟩
  go_wp2_with fail
  refine (W.out _).mono ?_
  rintro e w8 ⟨v8, rfl, hv8, b8⟩
  go_wp2_with fail
  refine (N.out _ _ _ (hv7.below b8 (Nat.le_refl _)) hv8).mono ?_
  rintro e w9 ⟨v9, rfl, hv9, b9⟩
  go_wp2_with fail
  refine (P.out _ _ hv9).mono ?_
  rintro e w10 ⟨rfl, b10⟩
  go_wp2_with fail
  go_ret2
  have z1 := b1.size; have z2 := b2.size; have z3 := b3.size; have z4 := b4.size; have z5 := b5.size; have z6 := b6.size; have z7 := b7.size; have z8 := b8.size; have z9 := b9.size
  exact ⟨rfl, ((((((((b1.trans (b2.mono z1)).trans (b3.mono (by omega))).trans (b4.mono (by omega))).trans (b5.mono (by omega))).trans (b6.mono (by omega))).trans (b7.mono (by omega))).trans (b8.mono (by omega))).trans (b9.mono (by omega))).trans (b10.mono (by omega))⟩

/-- Both tell one and the same. -/
theorem both (a b c d s : Int) (ha : I64 a) (hb : I64 b) (hc : I64 c) (hd : I64 d) : ∃ (y : Int) (q : Bool),
    (∀ w : World, Calls Try.prog 14 #[.int .i64 a, .int .i64 b, .int .i64 c, .int .i64 d, .int .i64 s] w fun e w' => e = .returned (.tuple #[.int .i64 y, .bool q]) ∧ Below w.heap.size w w') ∧
    (∀ w : World, Calls Try.prog 15 #[.int .i64 a, .int .i64 b, .int .i64 c, .int .i64 d, .int .i64 s] w fun e w' => e = .returned (.tuple #[.int .i64 y, .bool q]) ∧ Below w.heap.size w w') := by
  by_cases h : s < 0 ∨ 62 < s
  · exact ⟨0, false, fun w => (dot_bad a b c d s w h).mono fun e w' ⟨he, hw⟩ => ⟨he, hw ▸ Below.refl _ _⟩, fun w => (refdot_bad a b c d s w h).mono fun e w' ⟨he, hw⟩ => ⟨he, hw ▸ Below.refl _ _⟩⟩
  · obtain ⟨k, rfl⟩ := Int.eq_ofNat_of_zero_le (show 0 ≤ s by omega)
    exact ⟨told (dot a b c d k), fits (dot a b c d k), fun w => dot_any a b c d k w ha hb hc hd (by omega), fun w => refdot_any a b c d k w ha hb hc hd (by omega)⟩
theorem one (a b s : Int) (ha : I64 a) (hb : I64 b) : ∃ (y : Int) (q : Bool),
    (∀ w : World, Calls Try.prog 16 #[.int .i64 a, .int .i64 b, .int .i64 s] w fun e w' => e = .returned (.tuple #[.int .i64 y, .bool q]) ∧ Below w.heap.size w w') ∧
    (∀ w : World, Calls Try.prog 15 #[.int .i64 a, .int .i64 b, .int .i64 0, .int .i64 0, .int .i64 s] w fun e w' => e = .returned (.tuple #[.int .i64 y, .bool q]) ∧ Below w.heap.size w w') := by
  have h0 : I64 0 := by unfold I64; omega
  by_cases h : s < 0 ∨ 62 < s
  · exact ⟨0, false, fun w => (mulshift_bad a b s w h).mono fun e w' ⟨he, hw⟩ => ⟨he, hw ▸ Below.refl _ _⟩, fun w => (refdot_bad a b 0 0 s w h).mono fun e w' ⟨he, hw⟩ => ⟨he, hw ▸ Below.refl _ _⟩⟩
  · obtain ⟨k, rfl⟩ := Int.eq_ofNat_of_zero_le (show 0 ≤ s by omega)
    exact ⟨told (dot a b 0 0 k), fits (dot a b 0 0 k), fun w => mulshift_any a b k w ha hb (by omega), fun w => refdot_any a b 0 0 k w ha hb h0 h0 (by omega)⟩

/-- Block g holds four numbers. -/
def Four (g : Nat) (a b c d : Int) (w : World) : Prop := w.heap[g]? = some (.cells #[.int .i64 a, .int .i64 b, .int .i64 c, .int .i64 d] 30)
theorem Four.new (w : World) (a b c d : Int) : Four w.heap.size a b c d (w.alloc (.cells #[.int .i64 a, .int .i64 b, .int .i64 c, .int .i64 d] 30)) := by
  show (w.heap.push _)[w.heap.size]? = _
  rw [Array.getElem?_push, if_pos rfl]
theorem Four.lt {g : Nat} {a b c d : Int} {w : World} (h : Four g a b c d w) : g < w.heap.size := (Array.getElem?_eq_some_iff.1 h).1
theorem Four.below {g : Nat} {a b c d : Int} {w w' : World} (h : Four g a b c d w) (t : Below w.heap.size w w') : Four g a b c d w' := by
  have := h.lt
  unfold Four at *
  rw [t.block g this]; exact h
theorem Four.c0 {g : Nat} {a b c d : Int} {w : World} (h : Four g a b c d w) : w.cell? ⟨g, 0, none⟩ = some (.int .i64 a) := by unfold Four at h; simp [World.cell?, h]
theorem Four.c1 {g : Nat} {a b c d : Int} {w : World} (h : Four g a b c d w) : w.cell? ⟨g, 1, none⟩ = some (.int .i64 b) := by unfold Four at h; simp [World.cell?, h]
theorem Four.c2 {g : Nat} {a b c d : Int} {w : World} (h : Four g a b c d w) : w.cell? ⟨g, 2, none⟩ = some (.int .i64 c) := by unfold Four at h; simp [World.cell?, h]
theorem Four.c3 {g : Nat} {a b c d : Int} {w : World} (h : Four g a b c d w) : w.cell? ⟨g, 3, none⟩ = some (.int .i64 d) := by unfold Four at h; simp [World.cell?, h]

set_option maxHeartbeats 1000000 in
theorem walk (a b c d s : Int) (ha : I64 a) (hb : I64 b) (hc : I64 c) (hd : I64 d) (w : World) :
    Calls Try.prog 5 #[.agg #[.int .i64 a, .int .i64 b, .int .i64 c, .int .i64 d], .int .i64 s] w fun e w' => e = .returned (.bool true) ∧ Below w.heap.size w w' := by
  obtain ⟨y, q, h1, h2⟩ := both a b c d s ha hb hc hd
  obtain ⟨y2, q2, h3, h4⟩ := one a b s ha hb
  have A := Lib.hid (fun w => wakes_any w)
  have C := Lib.hid h1
  have D := Lib.hid h2
  have E := Lib.hid h3
  have F := Lib.hid h4
  clear h1 h2 h3 h4 ha hb hc hd
  go_enter Try.func5, Try.ntmps5
  go_wp2_with fail
  refine (A.out _).mono ?_
  rintro e w1 ⟨rfl, b1⟩
  have F1 := (Four.new w a b c d).below b1
  have H1 := Lib.hid F1
  have k0 := F1.c0; have k1 := F1.c1; have k2 := F1.c2; have k3 := F1.c3
  clear F1
  go_wp2_with fail
  refine (C.out _).mono ?_
  rintro e w2 ⟨rfl, b2⟩
  have F2 := H1.out.below b2
  have H2 := Lib.hid F2
  have m0 := F2.c0; have m1 := F2.c1; have m2 := F2.c2; have m3 := F2.c3
  clear F2 k0 k1 k2 k3
  go_wp2_with fail
  refine (D.out _).mono ?_
  rintro e w3 ⟨rfl, b3⟩
  have F3 := H2.out.below b3
  have H3 := Lib.hid F3
  have n0 := F3.c0; have n1 := F3.c1
  clear F3 m0 m1 m2 m3
  go_wp2_with fail
  refine (E.out _).mono ?_
  rintro e w4 ⟨rfl, b4⟩
  have F4 := H3.out.below b4
  have p0 := F4.c0; have p1 := F4.c1
  clear F4 n0 n1
  go_wp2_with fail
  refine (F.out _).mono ?_
  rintro e w5 ⟨rfl, b5⟩
  go_wp2
  go_ret
  have b0 := (Below.refl w.heap.size w).alloc (Nat.le_refl _) (.cells #[.int .i64 a, .int .i64 b, .int .i64 c, .int .i64 d] 30)
  have z0 := b0.size; have z1 := b1.size; have z2 := b2.size; have z3 := b3.size; have z4 := b4.size
  exact ⟨by simp, ((((b0.trans (b1.mono z0)).trans (b2.mono (by omega))).trans (b3.mono (by omega))).trans (b4.mono (by omega))).trans (b5.mono (by omega))⟩

theorem cells_arr : Try.prog.cellsOf 30 = 4 := by kernel_rfl

/-- An argument of type [4]int64, read as data. -/
theorem four_of_trod {H : Type} {enc : TypeId × Value → H} {W : World} {base : Nat} {v : Value} {d : DataW H} {p : List MemPlace}
    (hok : Value.okWide Try.prog W .any base 30 v) (h : DataW.Trod enc Try.prog W 0 (fun _ => true) true 30 v d p) :
    ∃ a b c e : Int, v = .agg #[.int .i64 a, .int .i64 b, .int .i64 c, .int .i64 e] ∧ I64 a ∧ I64 b ∧ I64 c ∧ I64 e := by
  simp only [Value.okWide, Try.underlying30] at hok
  obtain ⟨cs, rfl, h2, _⟩ := hok
  rw [cells_arr] at h2
  obtain ⟨l⟩ := cs
  match l, h2 with
  | [c0, c1, c2, c3], _ =>
    obtain ⟨fuel, hf⟩ := h
    have hf' : DataW.trod enc Try.prog W 0 (fun _ => true) true fuel 30 [c0, c1, c2, c3] = some (d, p) := by simpa [Value.cells] using hf
    obtain ⟨y0, y1, y2, y3, n, _, t0, t1, t2, t3⟩ := trod_array4 Try.underlying30 cells_i64 hf'
    obtain ⟨a, ea, _, wa⟩ := DataW.trod_int Try.underlying2 t0
    obtain ⟨b, eb, _, wb⟩ := DataW.trod_int Try.underlying2 t1
    obtain ⟨c, ec, _, wc⟩ := DataW.trod_int Try.underlying2 t2
    obtain ⟨e, ee, _, we⟩ := DataW.trod_int Try.underlying2 t3
    simp at ea eb ec ee
    subst ea eb ec ee
    exact ⟨a, b, c, e, rfl, i64_wf wa, i64_wf wb, i64_wf wc, i64_wf we⟩

set_option maxRecDepth 100000 in
theorem lifted (os : Os) (started : os.Started) (H : Type) (enc : TypeId × Value → H) :
    ReturnsInHanded {} Try.checked os 5 .any (Rows.wideDotsSpec.pre6 enc Try.prog Try.f5 Rows.wideDotsRow.domain false) (Rows.wideDotsSpec.post enc Try.prog Try.f5 false true false false) := by
  refine returnsInHanded_of_change (C := Try.checked) own started (by kernel_rfl) Try.func5
    (ChangeSpec.witness6 (enc := enc) (C := Try.checked) false ⟨#[], #[.agg #[.int .i64 0, .int .i64 0, .int .i64 0, .int .i64 0], .int .i64 0], []⟩ 8 (by kernel_rfl) (by kernel_rfl) (by kernel_rfl) (by kernel_rfl)) ?_
  intro W base args ds gs before hval0 hW hcnd _
  have hval : ∀ (j : Nat) t v, Try.f5.params[j]? = some t → args[j]? = some v → Value.okWide Try.prog W .any base t v := hval0
  have hW' := hW
  obtain ⟨p, q, hA0, hV, rfl, hfz, hnd⟩ := hW
  have hA : DataW.TrodAll enc Try.prog W 0 (fun _ => true) true Try.f5.params.toList args.toList ds p := hA0
  rw [Try.params5] at hA hval
  obtain ⟨v0, v1, d0, d1, p0, p1, rfl, rfl, rfl, h0, h1⟩ := trodAll_two hA
  obtain ⟨rfl, rfl⟩ := trodVars_none hV
  obtain ⟨a, b, c, e, rfl, ha, hb, hc, he⟩ := four_of_trod (hval 0 30 v0 rfl rfl) h0
  obtain ⟨s, rfl, rfl, rfl, w1⟩ := open_int Try.underlying3 (hval 1 3 v1 rfl rfl) h1
  clear hA0 hval0
  simp only [List.append_nil] at hW'
  have hlt : ∀ x ∈ p0, x.block < W.heap.size := fun x hx => by simpa using hW'.lt x hx
  refine (walk a b c e s ha hb hc he W).mono fun e W' ⟨he, hg⟩ => ?_
  subst he
  have h0' := Below.trod laidOut (by kernel_rfl) (of_decide_eq_true (by kernel_rfl)) h0 hg hlt
  exact ⟨_, rfl, ⟨_, _, _, [], _, [], hW', trodAll_mk1 (shut_bool Try.underlying4 _), trodAll_mk2 h0' (shut_int Try.underlying3 w1), rfl, hg.frame _, fun h => by cases h⟩⟩

/-- The given statement. -/
theorem proved : Rows.WideDotsSaid :=
  OpenClaim.holds_of_wide 5 Try.f5 rfl rfl rfl rfl rfl rfl rfl ⟨rfl, rfl, rfl, rfl, rfl⟩ rfl rfl rfl rfl rfl (by kernel_rfl) Try.func5 (by kernel_rfl)
    (of_decide_eq_true (by kernel_rfl)) (by unfold Func.isWrapper; first | (rw [if_pos (by decide +kernel)]; kernel_rfl) | (rw [if_neg (by decide +kernel)]; exact ⟨rfl, rfl⟩))
    (fun os started H enc _ => lifted os started H enc)
end Go.Proofs.Ytlfdppcdkgfihaa.wideDots
