/-
  Package flat: Chords, by a range over Points. (Typed by a program: wip/gen_chordsp12.py.)
-/
import Derived.Test.YtgkjbmejfcijkaaJRow
import Derived.Test.YtgkjbmejfcijkaaFlatChordsW
namespace Go.Proofs.Ytgkjbmejfcijkaa
open Go.RowKit Go.Shelf
attribute [local go_sem] Oper.semAt_some

theorem chordsQ_len (p : Int × Int) (l : List (Int × Int)) : (chordsQ p l).length ≤ l.length := by
  induction l generalizing p with
  | nil => simp [chordsQ]
  | cons q t ih =>
    have := ih q
    rw [chordsQ, List.length_append, List.length_cons]
    split <;> simp <;> omega
theorem keepsFrom_set {D n o : Nat} {X Y : World} {v : Value} (h : KeepsFrom D X Y) (hn : n < D) : KeepsFrom D X (Y.setCell ⟨n, o, none⟩ v) :=
  ⟨by have := h.1; simpa [World.setCell] using this, fun k ob hk ho hc => (Below.heap_setCell _ _ _ _ (by exact fun e => by have e' : k = n := e; omega)).trans (h.2 k ob hk ho hc)⟩
theorem keepsT_set {T : TypeId → Prop} {a b D n o : Nat} {X Y : World} {v : Value} (h : KeepsT T a b D X Y) (hn : n < D) (hab : n < a ∨ b ≤ n) : KeepsT T a b D X (Y.setCell ⟨n, o, none⟩ v) :=
  ⟨⟨by have := h.1.1; simpa [World.setCell] using this, fun k h1 h2 => (Below.heap_setCell _ _ _ _ (by exact fun e => by have e' : k = n := e; omega)).trans (h.1.2 k h1 h2)⟩, fun k t cs z hd ht hc => (Below.heap_setCell _ _ _ _ (by exact fun e => by have e' : k = n := e; omega)).trans (h.2 k t cs z hd ht hc)⟩
theorem last_snoc (p : Int × Int) (l : List (Int × Int)) (q : Int × Int) : (l ++ [q]).getLast?.getD p = q := by simp
set_option maxHeartbeats 4000000 in
set_option maxRecDepth 100000 in
theorem chords_any (PI : PiecesOk) : ChordsOk := by
  intro c w hc
  refine (callsIn_wide (n := 6)).1 ?_
  have PC := Lib.hid (fun w => points_any PI c w hc)
  have hll : ((pieces12 20 c).map endP).length ≤ 1048576 := by rw [List.length_map]; exact pieces12_big c
  rw [← chordsQ_chain (pieces12 20 c) _ _ (pieces12_chain 20 c)]
  clear PI hc
  generalize (pieces12 20 c).map endP = RES at *
  obtain ⟨px, py, qx, qy, rx, ry, sx, sy⟩ := c
  unfold Crv.val Crv.arr at *
  dsimp only at *
  obtain ⟨k1, k2, k3⟩ := boxes_two w #[.int .i64 px, .int .i64 py, .int .i64 qx, .int .i64 qy, .int .i64 rx, .int .i64 ry, .int .i64 sx, .int .i64 sy] #[.slice none 0 0] 25 37
  have HC0 := Lib.hid k1; have HO0 := Lib.hid k2; have HB0 := Lib.hid k3
  clear k1 k2 k3
  refine callsIn_of_wp_marks Try.func15 rfl trivial ?_ rfl
  simp only [Try.ntmps15, List.size_toArray, List.length_cons, List.length_nil, Nat.reduceAdd, Nat.reduceSub, Array.replicate_succ, Array.replicate_zero, List.push_toArray, List.append_toArray, List.nil_append, List.cons_append]
  refine wpIn_wide.2 ?_
  go_upto_region 2 with fail
  generalize ((w.alloc (.cells #[.int .i64 px, .int .i64 py, .int .i64 qx, .int .i64 qy, .int .i64 rx, .int .i64 ry, .int .i64 sx, .int .i64 sy] 25)).alloc (.cells #[.slice none 0 0] 37)) = w1 at *
  have xC0 : w1.cell? ⟨w.heap.size, 0, none⟩ = some (.int .i64 px) := HC0.out.c 0 rfl
  have xC1 : w1.cell? ⟨w.heap.size, 1, none⟩ = some (.int .i64 py) := HC0.out.c 1 rfl
  have k1 := CBox.new w1 23 #[.int .i64 px, .int .i64 py]
  have b1 := (Below.refl w1.heap.size w1).alloc (Nat.le_refl _) (.cells #[.int .i64 px, .int .i64 py] 23)
  have HA1 := Lib.hid k1; have HO1 := Lib.hid (HO0.out.next b1)
  have lA := HO0.out.lt
  have HB1 := Lib.hid (HB0.out.trans (b1.mono HB0.out.size))
  have HC1 := Lib.hid (HC0.out.next b1)
  clear b1
  go_upto_region 3 with fail
  generalize (w1.alloc (.cells #[.int .i64 px, .int .i64 py] 23)) = w2 at *
  clear k1
  generalize w1.heap.size = qA at *
  clear xC0 xC1
  have xC0 : w2.cell? ⟨w.heap.size, 0, none⟩ = some (.int .i64 px) := HC1.out.c 0 rfl
  have xC1 : w2.cell? ⟨w.heap.size, 1, none⟩ = some (.int .i64 py) := HC1.out.c 1 rfl
  have xC2 : w2.cell? ⟨w.heap.size, 2, none⟩ = some (.int .i64 qx) := HC1.out.c 2 rfl
  have xC3 : w2.cell? ⟨w.heap.size, 3, none⟩ = some (.int .i64 qy) := HC1.out.c 3 rfl
  have xC4 : w2.cell? ⟨w.heap.size, 4, none⟩ = some (.int .i64 rx) := HC1.out.c 4 rfl
  have xC5 : w2.cell? ⟨w.heap.size, 5, none⟩ = some (.int .i64 ry) := HC1.out.c 5 rfl
  have xC6 : w2.cell? ⟨w.heap.size, 6, none⟩ = some (.int .i64 sx) := HC1.out.c 6 rfl
  have xC7 : w2.cell? ⟨w.heap.size, 7, none⟩ = some (.int .i64 sy) := HC1.out.c 7 rfl
  go_wp2_with fail
  refine (PC.out _).mono ?_
  clear xC0 xC1 xC2 xC3 xC4 xC5 xC6 xC7
  rintro o W0 ⟨gf, lb, a, b, rfl, eg, b2, ha, hb, hca, hfe⟩
  have HO := Lib.hid (HO1.out.next b2); have HA := Lib.hid (HA1.out.next b2); have HB := Lib.hid (HB1.out.trans (b2.mono HB1.out.size))
  have hlt : qA < W0.heap.size := HA.out.lt
  have hqa : qA < a := Nat.lt_of_lt_of_le HA1.out.lt ha
  have hfe5 := FeedsO.wideAny (n := 5) hfe
  clear hfe PC b2 HC0 HO0 HB0 HC1 HO1 HA1 HB1
  go_wp2
  refine (wpIn_wide (n := 6)).1 ?_
  have AB : AbideO T12p W0.heap.size (fun (pre : List (Int × Int)) X => (∃ v, CBox (w.heap.size + 1) 37 #[v] X ∧ edgL.own W0.heap.size v (chordsQ (px, py) pre) X) ∧ CBox qA 23 #[.int .i64 (pre.getLast?.getD (px, py)).1, .int .i64 (pre.getLast?.getD (px, py)).2] X ∧ (Below w.heap.size w X ∧ W0.heap.size ≤ X.heap.size)) := (abideO_rowbox (by unfold T12p; decide) (by omega) (chordsQ (px, py))).and ((abideO_boxP (by omega) (fun pre => #[.int .i64 (pre.getLast?.getD (px, py)).1, .int .i64 (pre.getLast?.getD (px, py)).2])).and (abideO_below (by omega)))
  have HAB := Lib.hid AB
  refine wpIn_feedsO (T := T12p) (ca := a) (cb := b) (enc := encQ) (RES := RES) rfl (by decide) (gf := gf) (lb := lb) rfl trivial eg
    hfe5 (Mid.refl _ _ _) hb (fun _ => rfl) (fun pre X => (∃ v, CBox (w.heap.size + 1) 37 #[v] X ∧ edgL.own W0.heap.size v (chordsQ (px, py) pre) X) ∧ CBox qA 23 #[.int .i64 (pre.getLast?.getD (px, py)).1, .int .i64 (pre.getLast?.getD (px, py)).2] X ∧ (Below w.heap.size w X ∧ W0.heap.size ≤ X.heap.size)) (fun _ _ _ => False)
    AB (fun _ => abideO_pre (fun _ => False)) ⟨⟨_, HO.out, Lay8.own_nil _ _⟩, HA.out, ⟨HB.out, Nat.le_refl _⟩⟩
    (fun x a' X => ∃ Bx, W0.heap.size ≤ Bx ∧ CBox Bx 23 #[.int .i64 x.1, .int .i64 x.2] X ∧ a' = { tmps := #[.agg #[.int .i64 px, .int .i64 py, .int .i64 qx, .int .i64 qy, .int .i64 rx, .int .i64 ry, .int .i64 sx, .int .i64 sy], .pointer (some ⟨w.heap.size, 0, none⟩), .slice none 0 0, .pointer (some ⟨w.heap.size + 1, 0, none⟩), .pointer (some ⟨qA, 0, none⟩), .pointer (some ⟨Bx, 0, none⟩), .pointer (some ⟨w.heap.size, 0, none⟩), .agg #[.int .i64 px, .int .i64 py], .agg #[.int .i64 px, .int .i64 py, .int .i64 qx, .int .i64 qy, .int .i64 rx, .int .i64 ry, .int .i64 sx, .int .i64 sy], .func (.func gf) #[] lb, .agg #[.int .i64 x.1, .int .i64 x.2], undef, undef, undef, undef, undef, undef, undef, undef, undef, undef, undef], defers := [] }) ?own ?assign ?body ?done ?stop
  case own =>
    rintro x a' _ X X' row ⟨Bx, h0, h1, h3⟩ hg hr
    exact ⟨Bx, h0, h1.free hg (fun r e => (hr r e).2), h3⟩
  case assign =>
    rintro l' pre x X K hj hws hpx hK
    have z2 := (Below.refl X.heap.size X).alloc (Nat.le_refl _) (.cells #[.int .i64 x.1, .int .i64 x.2] 23)
    have hj' := HAB.out.abide.new _ _ _ hj z2
    have HJ3 := Lib.hid hj'
    have HZ1 := Lib.hid (CBox.new X 23 #[.int .i64 x.1, .int .i64 x.2]); have HZ2 := Lib.hid z2; have HK := Lib.hid hK
    clear z2 hj hK hj' AB
    unfold encQ
    obtain ⟨ax, ay⟩ := x
    dsimp only at *
    gi_wp2
    exact HK.out _ _ ((KeepsOthers.alloc _ _).from _) (KeepsT.below HZ2.out (by omega)) HJ3.out ⟨_, hws, HZ1.out, rfl⟩
  case stop =>
    rintro D c pre X hD hpre h hK
    exact h.elim
  case done =>
    rintro D X hD ⟨⟨v, hv, hrow⟩, _, hbel, hsz⟩ hK
    have HV := Lib.hid hv; have HR := Lib.hid hrow; have HBE := Lib.hid hbel; have HK := Lib.hid hK
    have o0 : X.cell? ⟨w.heap.size + 1, 0, none⟩ = some v := HV.out.c 0 rfl
    clear hv hrow hbel hK HAB AB
    go_wp2_with fail
    refine ⟨by simp, .inl ⟨_, _, rfl, run_takeDeferred HK.out, ?_⟩⟩
    exact ⟨_, results_tmp (t := 2) (by rfl) _ _ _, _, rfl, (done_row HR.out HK.out HBE.out (by omega)).1, (done_row HR.out HK.out HBE.out (by omega)).2⟩
  case body =>
    rintro l' pre x a' X ⟨⟨v, hv, hrow⟩, hat, ⟨hbe, hsz⟩⟩ ⟨Bx, hBx, hbx, rfl⟩ hws hpx
    have hpl : pre.length ≤ 1048576 := by have := hpx.length_le; simp only [List.length_append, List.length_cons, List.length_nil] at this; omega
    have hcl := Nat.le_trans (chordsQ_len (px, py) pre) hpl
    obtain ⟨ra, rc, rfl, hrc⟩ := hrow.shape
    have hsn := chordsQ_snoc (px, py) pre x
    have hla := last_snoc (px, py) pre x
    generalize pre.getLast?.getD (px, py) = u at *
    have HS := Lib.hid hsn; have HLA := Lib.hid hla
    clear hsn hla hpl hpx HAB AB
    obtain ⟨ux, uy⟩ := u
    obtain ⟨ax, ay⟩ := x
    dsimp only at *
    generalize chordsQ (px, py) pre = cs at *
    have HV := Lib.hid hv; have HR := Lib.hid hrow; have HA0 := Lib.hid hat; have HB0 := Lib.hid hbe; have HBX := Lib.hid hbx
    clear hv hrow hat hbe hbx
    have o0 : X.cell? ⟨w.heap.size + 1, 0, none⟩ = some (.slice ra cs.length rc) := HV.out.c 0 rfl
    have b0 : X.cell? ⟨Bx, 0, none⟩ = some (.int .i64 ax) := HBX.out.c 0 rfl; have b1 : X.cell? ⟨Bx, 1, none⟩ = some (.int .i64 ay) := HBX.out.c 1 rfl
    have a0 : X.cell? ⟨qA, 0, none⟩ = some (.int .i64 ux) := HA0.out.c 0 rfl; have a1 : X.cell? ⟨qA, 1, none⟩ = some (.int .i64 uy) := HA0.out.c 1 rfl; have a2 := HA0.out.z 0; have a3 := HA0.out.z 1
    have hno2 := HR.out.not_box HV.out (by decide); have hno3 := HR.out.not_box HA0.out (by decide)
    have hm1 := Lib.hid (show qA ∈ [qA] by simp)
    have he12 := Lib.hid (show ∀ k ∈ [qA], k < W0.heap.size ∧ (k < a ∨ b ≤ k) by
      intro k hk
      simp only [List.mem_cons, List.not_mem_nil, or_false] at hk
      omega)
    by_cases e : ux = ax ∧ uy = ay
    · obtain ⟨rfl, rfl⟩ := e
      have HN3 := Lib.hid hno3
      clear hno2 hno3
      gi_wp2_with fail
      have SM := ((Small12.refl W0.heap.size [qA] X).set (o := 0) hm1.out (.int .i64 ux)).set (o := 1) hm1.out (.int .i64 uy)
      have hk := SM.keeps (T := T12p) hsz hb he12.out
      refine ⟨hk.1, hk.2, ⟨_, (HV.out.other (show w.heap.size + 1 ≠ qA by omega) 0 (.int .i64 ux)).other (show w.heap.size + 1 ≠ qA by omega) 1 (.int .i64 uy), ?_⟩, ?_, Below.setCell (Below.setCell HB0.out (p := ⟨qA, 0, none⟩) (show w.heap.size ≤ qA by omega) (.int .i64 ux)) (p := ⟨qA, 1, none⟩) (show w.heap.size ≤ qA by omega) (.int .i64 uy), Nat.le_trans hsz SM.size⟩
      · rw [HS.out, if_pos trivial, List.append_nil]
        exact HR.out.stay fun q hq => (Below.heap_setCell _ _ _ _ (by exact fun e3 => HN3.out (by have e4 : q = qA := e3; rw [← e4]; exact hq.symm))).trans (Below.heap_setCell _ _ _ _ (by exact fun e3 => HN3.out (by have e4 : q = qA := e3; rw [← e4]; exact hq.symm)))
      · rw [HLA.out]
        exact (HA0.out.set 0 (.int .i64 ux) (show (0 : Nat) < 2 by decide)).set 1 (.int .i64 uy) (show (1 : Nat) < 2 by decide)
    · have e9 := Lib.hid (show ¬ ((ux, uy) : Int × Int) = (ax, ay) from fun h => e ⟨congrArg Prod.fst h, congrArg Prod.snd h⟩)
      have f0 := HV.out.z 0
      have hXw : W0.heap.size ≤ X.heap.size := hsz
      by_cases c0 : ax = ux
      · subst c0
        have d1 : (ay == uy) = false := beq_eq_false_iff_ne.2 (fun h => e ⟨rfl, h.symm⟩)
        have d2 : ¬ ay = uy := fun h => e ⟨rfl, h.symm⟩
        clear e
        gi_wp2_with (gi_at_builtin; refine edg_one_in _ rfl (.tmp 14) (.tmp 18) rfl rfl ⟨ax, uy, ax, ay⟩ HR.out rfl rfl (by omega) hXw ?_; intro v' w1 hown' hg1; obtain ⟨a3, c3, rfl⟩ := hown'.shape1; have HV1 := HV.out.grown hg1 hno2; have HA1 := HA0.out.grown hg1 hno3; have HBX1 := HBX.out.grown hg1 (HR.out.not_box HBX.out (by decide)); have c1 : w1.cell? ⟨w.heap.size + 1, 0, none⟩ = some (.slice ra cs.length rc) := HV1.c 0 rfl; have f1 := HV1.z 0; have STP := Lib.hid (rowbox_step (T := T12p) (a := a) (b := b) (D := W0.heap.size) HV.out HR.out hown' hg1 (by decide) (by unfold T12p; decide) (by omega) (Nat.le_refl _) hb (.inl (by omega)) hsz); have HBY := Lib.hid (HBX1.other (show Bx ≠ w.heap.size + 1 by omega) 0 (.slice a3 (cs.length + 1) c3)); have HAY := Lib.hid (HA1.other (show qA ≠ w.heap.size + 1 by omega) 0 (.slice a3 (cs.length + 1) c3)); have b0 := HBY.out.c 0 rfl; have b1 := HBY.out.c 1 rfl; have a0 := HAY.out.c 0 rfl; have a1 := HAY.out.c 1 rfl; have a2 := HAY.out.z 0; have a3' := HAY.out.z 1; clear HV1 HA1 HBX1 hown' hg1)
        obtain ⟨q1, q2, q3, q4, q5, q6, q7⟩ := STP.out
        have hn9 := q4.not_box HAY.out (by decide)
        refine ⟨keepsFrom_set (keepsFrom_set (q1.from _) hlt) hlt, keepsT_set (keepsT_set q2 hlt (.inl hqa)) hlt (.inl hqa), ⟨_, (q3.other (show w.heap.size + 1 ≠ qA by omega) 0 _).other (show w.heap.size + 1 ≠ qA by omega) 1 _, ?_⟩, ?_, Below.setCell (Below.setCell (q7 _ _ HB0.out (by omega) (by omega) (by omega)) (p := ⟨qA, 0, none⟩) (show w.heap.size ≤ qA by omega) _) (p := ⟨qA, 1, none⟩) (show w.heap.size ≤ qA by omega) _, Nat.le_trans hsz (Nat.le_trans q5 (by simp [World.setCell]))⟩
        · rw [HS.out, if_neg e9.out]
          exact q4.stay fun q hq => (Below.heap_setCell _ _ _ _ (by exact fun e3 => hn9 (by have e4 : q = qA := e3; rw [← e4]; exact hq.symm))).trans (Below.heap_setCell _ _ _ _ (by exact fun e3 => hn9 (by have e4 : q = qA := e3; rw [← e4]; exact hq.symm)))
        · rw [HLA.out]
          exact (HAY.out.set 0 (.int .i64 ax) (show (0 : Nat) < 2 by decide)).set 1 (.int .i64 ay) (show (1 : Nat) < 2 by decide)
      · have d1 : (ax == ux) = false := beq_eq_false_iff_ne.2 c0
        clear e
        gi_wp2_with (gi_at_builtin; refine edg_one_in _ rfl (.tmp 14) (.tmp 18) rfl rfl ⟨ux, uy, ax, ay⟩ HR.out rfl rfl (by omega) hXw ?_; intro v' w1 hown' hg1; obtain ⟨a3, c3, rfl⟩ := hown'.shape1; have HV1 := HV.out.grown hg1 hno2; have HA1 := HA0.out.grown hg1 hno3; have HBX1 := HBX.out.grown hg1 (HR.out.not_box HBX.out (by decide)); have c1 : w1.cell? ⟨w.heap.size + 1, 0, none⟩ = some (.slice ra cs.length rc) := HV1.c 0 rfl; have f1 := HV1.z 0; have STP := Lib.hid (rowbox_step (T := T12p) (a := a) (b := b) (D := W0.heap.size) HV.out HR.out hown' hg1 (by decide) (by unfold T12p; decide) (by omega) (Nat.le_refl _) hb (.inl (by omega)) hsz); have HBY := Lib.hid (HBX1.other (show Bx ≠ w.heap.size + 1 by omega) 0 (.slice a3 (cs.length + 1) c3)); have HAY := Lib.hid (HA1.other (show qA ≠ w.heap.size + 1 by omega) 0 (.slice a3 (cs.length + 1) c3)); have b0 := HBY.out.c 0 rfl; have b1 := HBY.out.c 1 rfl; have a0 := HAY.out.c 0 rfl; have a1 := HAY.out.c 1 rfl; have a2 := HAY.out.z 0; have a3' := HAY.out.z 1; clear HV1 HA1 HBX1 hown' hg1)
        obtain ⟨q1, q2, q3, q4, q5, q6, q7⟩ := STP.out
        have hn9 := q4.not_box HAY.out (by decide)
        refine ⟨keepsFrom_set (keepsFrom_set (q1.from _) hlt) hlt, keepsT_set (keepsT_set q2 hlt (.inl hqa)) hlt (.inl hqa), ⟨_, (q3.other (show w.heap.size + 1 ≠ qA by omega) 0 _).other (show w.heap.size + 1 ≠ qA by omega) 1 _, ?_⟩, ?_, Below.setCell (Below.setCell (q7 _ _ HB0.out (by omega) (by omega) (by omega)) (p := ⟨qA, 0, none⟩) (show w.heap.size ≤ qA by omega) _) (p := ⟨qA, 1, none⟩) (show w.heap.size ≤ qA by omega) _, Nat.le_trans hsz (Nat.le_trans q5 (by simp [World.setCell]))⟩
        · rw [HS.out, if_neg e9.out]
          exact q4.stay fun q hq => (Below.heap_setCell _ _ _ _ (by exact fun e3 => hn9 (by have e4 : q = qA := e3; rw [← e4]; exact hq.symm))).trans (Below.heap_setCell _ _ _ _ (by exact fun e3 => hn9 (by have e4 : q = qA := e3; rw [← e4]; exact hq.symm)))
        · rw [HLA.out]
          exact (HAY.out.set 0 (.int .i64 ax) (show (0 : Nat) < 2 by decide)).set 1 (.int .i64 ay) (show (1 : Nat) < 2 by decide)
end Go.Proofs.Ytgkjbmejfcijkaa
