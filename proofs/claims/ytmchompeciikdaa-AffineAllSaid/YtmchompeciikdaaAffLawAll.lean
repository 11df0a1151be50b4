/-
  PROVED: the statement of AffineAll, for every input. (Typed by a program.)
-/
import Derived.Test.YtmchompeciikdaaRows
import Derived.Test.YtmchompeciikdaaAffWakes
import Derived.Test.YtmchompeciikdaaAffAllA
import Derived.Test.YtmchompeciikdaaAffRAll
namespace Go.Proofs.Ytmchompeciikdaa.affineAll
open Go.ChangeShapes Go.WideShapes Go.ChangeAt Go.RowKit Go.Shelf

theorem all_len (m : Mtx) (l : List Pt) : (allA m l).1.length ≤ l.length := by
  unfold allA
  split
  · split <;> simp
  · simp
set_option maxHeartbeats 8000000 in
set_option maxRecDepth 100000 in
theorem walk (m : Mtx) (i : MI64 m) (a : Option Addr) (l : List Pt) (cap : Nat) (hl : ∀ g ∈ l, I64 g.1 ∧ I64 g.2) (_ : l.length ≤ cap) (w : World) (rd : RdP a l w) :
    Calls Try.prog 4 #[m.val, .slice a l.length cap] w fun e w' => e = .returned (.bool true) ∧ Below w.heap.size w w' := by
  have K := Lib.hid (fun w => wakes8 w)
  have AA := Lib.hid (fun (hn : l.length ≤ 1000) w (r : RdP a l w) => aall8 m a l cap w r i hl hn)
  have RA := Lib.hid (fun (hn : l.length ≤ 1000) w (r : RdP a l w) => rall8 m a l cap w r hn)
  unfold AllP at AA RA
  have hm := MBox.new w m
  have hb := (Below.refl w.heap.size w).alloc (Nat.le_refl _) (.cells m.cells 23)
  have HR0 := Lib.hid (rd.next hb)
  have hL := all_len m l
  clear rd hl i
  generalize allA m l = R at *
  obtain ⟨L, z⟩ := R
  dsimp only at AA RA hL
  obtain ⟨n, en⟩ : ∃ n, n = l.length := ⟨_, rfl⟩
  rw [← en] at AA RA hL ⊢
  have HL := Lib.hid hL
  clear hL
  obtain ⟨ma, mb, mc, md, me, mf⟩ := m
  unfold Mtx.val at AA RA
  simp only [Mtx.cells] at AA RA hm hb HR0
  have HM0 := Lib.hid hm
  have HB0 := Lib.hid hb
  clear hm hb en
  have ez : (z == z) = true := by simp
  have ez' : (z != z) = false := by simp
  show Calls _ _ #[.agg #[.int .i64 ma, .int .i64 mb, .int .i64 mc, .int .i64 md, .int .i64 me, .int .i64 mf], _] w _
  go_enter Try.func4, Try.ntmps4
  go_wp2_with fail
  generalize w.alloc (.cells #[.int .i64 ma, .int .i64 mb, .int .i64 mc, .int .i64 md, .int .i64 me, .int .i64 mf] 23) = w0 at *
  refine (K.out _).mono ?_
  rintro e w1 ⟨rfl, b1⟩
  have HB1 := Lib.hid (HB0.out.trans (b1.mono HB0.out.size))
  have HM1 := Lib.hid (HM0.out.next b1)
  have HR1 := Lib.hid (HR0.out.next b1)
  clear b1 K
  have m0 := HM1.out.c0; have m1 := HM1.out.c1; have m2 := HM1.out.c2; have m3 := HM1.out.c3; have m4 := HM1.out.c4; have m5 := HM1.out.c5
  dsimp only at m0 m1 m2 m3 m4 m5
  by_cases h60 : 60 < n
  case pos =>
    have h60' : (60 : Int) < n := by omega
    go_wp2_with fail
    go_ret
    exact ⟨rfl, HB1.out⟩
  have h60' : ¬ (60 : Int) < n := by omega
  have hn : n ≤ 1000 := by omega
  go_wp2_with fail
  refine (AA.out hn _ HR1.out).mono ?_
  rintro e w2 ⟨v1, rfl, hv1, b2⟩
  have HB2 := Lib.hid (HB1.out.trans (b2.mono HB1.out.size))
  have HM2 := Lib.hid (HM1.out.next b2)
  have HR2 := Lib.hid (HR1.out.next b2)
  obtain ⟨a1, c1, rfl, r1, _⟩ := hv1.reads
  clear b2 hv1 m0 m1 m2 m3 m4 m5
  have m0 := HM2.out.c0; have m1 := HM2.out.c1; have m2 := HM2.out.c2; have m3 := HM2.out.c3; have m4 := HM2.out.c4; have m5 := HM2.out.c5
  dsimp only at m0 m1 m2 m3 m4 m5
  have R1 := Lib.hid r1
  clear r1
  go_wp2_with fail
  refine (RA.out hn _ HR2.out).mono ?_
  rintro e w3 ⟨v2, rfl, hv2, b3⟩
  have HB3 := Lib.hid (HB2.out.trans (b3.mono HB2.out.size))
  obtain ⟨a2, c2, rfl, r2, _⟩ := hv2.reads
  have R2 := Lib.hid r2
  have R1' := Lib.hid (R1.out.next b3)
  clear b3 hv2 r2 m0 m1 m2 m3 m4 m5 R1 HM0 HM1 HM2 HR0 HR1 HR2 HB0 HB1 HB2 AA RA
  obtain ⟨N, eN⟩ : ∃ N, N = L.length := ⟨_, rfl⟩
  rw [← eN]
  have EN := Lib.hid eN
  clear eN
  have eNN : ((N : Int) == (N : Int)) = true := by simp
  have eNN' : ((N : Int) != (N : Int)) = false := by simp
  go_wp2_with fail
  go_loopw [39] (fun i wr => ∃ k : Nat, k ≤ N ∧ i = .int .i64 (k : Int) ∧ Below w3.heap.size w3 wr) (fun i _ => N - (intOf i).toNat)
  case atStart => exact ⟨0, Nat.zero_le _, rfl, Below.refl _ _⟩
  case round =>
    obtain ⟨k, hk, rfl, hbw⟩ := hrel
    have HW := Lib.hid hbw
    clear hbw
    have hk60 : (k : Int) ≤ 60 := by have := HL.out; have := EN.out; omega
    by_cases hlt : k < N
    · have hk' : (k : Int) < N := by omega
      have hk0 : (0 : Int) ≤ k := by omega
      obtain ⟨b, off, rfl, hlb, hc1⟩ := (R1'.out.next HW.out).pos (by rw [← EN.out]; omega)
      obtain ⟨d, off2, rfl, hld, hc2⟩ := (R2.out.next HW.out).pos (by rw [← EN.out]; omega)
      have p := hc1 k (by rw [← EN.out]; exact hlt)
      have q := hc2 k (by rw [← EN.out]; exact hlt)
      clear hc1 hc2
      generalize L.getD k (0, 0) = g at *
      obtain ⟨x, y⟩ := g
      have p0 : wr.cell? ⟨b, off + k * 2, none⟩ = some (.int .i64 x) := p.c0
      have p1 : wr.cell? ⟨b, off + k * 2 + 1, none⟩ = some (.int .i64 y) := p.c1
      have q0 : wr.cell? ⟨d, off2 + k * 2, none⟩ = some (.int .i64 x) := q.c0
      have q1 : wr.cell? ⟨d, off2 + k * 2 + 1, none⟩ = some (.int .i64 y) := q.c1
      clear p q
      go_upto_region 12 with fail
      go_region_held3 (fun w' => w'.cell? ⟨b, off + k * 2, none⟩ = some (.int .i64 x) ∧ w'.cell? ⟨b, off + k * 2 + 1, none⟩ = some (.int .i64 y) ∧ w'.cell? ⟨d, off2 + k * 2, none⟩ = some (.int .i64 x) ∧ w'.cell? ⟨d, off2 + k * 2 + 1, none⟩ = some (.int .i64 y)) (first | (refine ⟨?_, ?_, ?_, ?_⟩ <;> with_reducible assumption) | (simp [go_sem, *]; done))
        (fail)
      all_goals
        go_wp2_with fail
        go_roundw
        case rel => exact ⟨k + 1, by omega, by go_num, HW.out.drew⟩
        case measure => simp [intOf]; omega
    · obtain rfl : k = N := by omega
      go_wp2_with fail
      go_ret
      exact ⟨rfl, HB3.out.trans (HW.out.mono HB3.out.size)⟩
set_option maxRecDepth 100000 in
theorem lifted (os : Os) (started : os.Started) (H : Type) (enc : TypeId × Value → H) :
    ReturnsInHanded {} Try.checked os 4 .any (Rows.affineAllSpec.pre6 enc Try.prog Try.f4 Rows.affineAllRow.domain false) (Rows.affineAllSpec.post enc Try.prog Try.f4 false true false false) := by
  refine returnsInHanded_of_change (C := Try.checked) own started (by kernel_rfl) Try.func4
    (ChangeSpec.witness6 (enc := enc) (C := Try.checked) false ⟨#[], #[.agg #[.int .i64 0, .int .i64 0, .int .i64 0, .int .i64 0, .int .i64 0, .int .i64 0], .slice none 0 0], []⟩ 8 (by kernel_rfl) (by kernel_rfl) (by kernel_rfl) (by kernel_rfl)) ?_
  intro W base args ds gs before hval0 hW hcnd _
  have hval : ∀ (j : Nat) t v, Try.f4.params[j]? = some t → args[j]? = some v → Value.okWide Try.prog W .any base t v := hval0
  have hW' := hW
  obtain ⟨p, q, hA0, hV, rfl, hfz, hnd⟩ := hW
  have hA : DataW.TrodAll enc Try.prog W 0 (fun _ => true) true Try.f4.params.toList args.toList ds p := hA0
  rw [Try.params4] at hA hval
  obtain ⟨v0, v1, d0, d1, p0, p1, rfl, rfl, rfl, h0, h1⟩ := trodAll_two hA
  obtain ⟨rfl, rfl⟩ := trodVars_none hV
  obtain ⟨m0, rfl, w0⟩ := mtx_of_trod Try.underlying23 (by kernel_rfl) (by kernel_rfl) Try.underlying2 Try.underlying2 Try.underlying2 Try.underlying2 Try.underlying2 Try.underlying2 (hval 0 23 v0 rfl rfl) h0
  obtain ⟨a1, l1, cap1, rfl, _, rd1, wl1, le1⟩ := pts_of_trod Try.underlying36 Try.underlying25 (by kernel_rfl) (by kernel_rfl) (hval 1 36 v1 rfl rfl) h1
  clear hA0 hval0
  simp only [List.append_nil] at hW'
  have lt0 : ∀ x ∈ p0, x.block < W.heap.size := fun x hx => hW'.lt x (by simp [hx])
  have lt1 : ∀ x ∈ p1, x.block < W.heap.size := fun x hx => hW'.lt x (by simp [hx])
  refine (walk m0 w0 a1 l1 cap1 wl1 le1 W rd1).mono fun e W' ⟨he, hg⟩ => ?_
  subst he
  have b0' := Below.trod laidOut (by kernel_rfl) (of_decide_eq_true (by kernel_rfl)) h0 hg lt0
  have b1' := Below.trod laidOut (by kernel_rfl) (of_decide_eq_true (by kernel_rfl)) h1 hg lt1
  exact ⟨_, rfl, ⟨_, _, _, [], _, [], hW', trodAll_mk1 (shut_bool Try.underlying4 _), trodAll_mk2 b0' b1', rfl, hg.frame _, fun h => by cases h⟩⟩

/-- The given statement. -/
theorem proved : Rows.AffineAllSaid :=
  OpenClaim.holds_of_wide 4 Try.f4 rfl rfl rfl rfl rfl rfl rfl ⟨rfl, rfl, rfl, rfl, rfl⟩ rfl rfl rfl rfl rfl (by kernel_rfl) Try.func4 (by kernel_rfl)
    (of_decide_eq_true (by kernel_rfl)) (by unfold Func.isWrapper; first | (rw [if_pos (by decide +kernel)]; kernel_rfl) | (rw [if_neg (by decide +kernel)]; exact ⟨rfl, rfl⟩))
    (fun os started H enc _ => lifted os started H enc)
end Go.Proofs.Ytmchompeciikdaa.affineAll
