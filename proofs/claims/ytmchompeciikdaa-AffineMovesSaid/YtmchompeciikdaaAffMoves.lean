/-
  PROVED: the statement of AffineMoves, for every input. (Typed by a program.)
-/
import Derived.Test.YtmchompeciikdaaRows
import Derived.Test.YtmchompeciikdaaAffWakes
import Derived.Test.YtmchompeciikdaaTwoTrod
import Derived.Test.YtmchompeciikdaaAffTrod
import Derived.Test.YtmchompeciikdaaAffCell
import Derived.Deep.DeepCutAuto
namespace Go.Proofs.Ytmchompeciikdaa.affineMoves
open Go.ChangeShapes Go.WideShapes Go.ChangeAt Go.RowKit Go.Shelf

theorem me45 {n : Nat} {a b c d e f : Int} {w : World} (h : MBox n ⟨a, b, c, d, e, f⟩ w) (e' f' : Int) : MBox n ⟨a, b, c, d, e', f'⟩ ((w.setCell ⟨n, 4, none⟩ (.int .i64 e')).setCell ⟨n, 5, none⟩ (.int .i64 f')) := by
  unfold MBox Mtx.cells at *
  simp only [World.setCell, Array.getElem?_modify, h]
  simp
theorem me54 {n : Nat} {a b c d e f : Int} {w : World} (h : MBox n ⟨a, b, c, d, e, f⟩ w) (e' f' : Int) : MBox n ⟨a, b, c, d, e', f'⟩ ((w.setCell ⟨n, 5, none⟩ (.int .i64 f')).setCell ⟨n, 4, none⟩ (.int .i64 e')) := by
  unfold MBox Mtx.cells at *
  simp only [World.setCell, Array.getElem?_modify, h]
  simp
/-- A box with two numbers of 32 bits. -/
def ABox (n : Nat) (a b : Int) (w : World) : Prop := w.heap[n]? = some (.cells #[.int .i32 a, .int .i32 b] 47)
theorem ABox.new (w : World) (a b : Int) : ABox w.heap.size a b (w.alloc (.cells #[.int .i32 a, .int .i32 b] 47)) := World.alloc_heap_new w _
theorem ABox.c0 {n : Nat} {a b : Int} {w : World} (h : ABox n a b w) : w.cell? ⟨n, 0, none⟩ = some (.int .i32 a) := by unfold ABox at h; simp [World.cell?, h]
theorem ABox.c1 {n : Nat} {a b : Int} {w : World} (h : ABox n a b w) : w.cell? ⟨n, 1, none⟩ = some (.int .i32 b) := by unfold ABox at h; simp [World.cell?, h]
theorem ABox.lt {n : Nat} {a b : Int} {w : World} (h : ABox n a b w) : n < w.heap.size := (Array.getElem?_eq_some_iff.1 h).1
theorem ABox.next {n : Nat} {a b : Int} {w w' : World} (h : ABox n a b w) (t : Below w.heap.size w w') : ABox n a b w' := by
  have := h.lt
  unfold ABox at *; rw [t.block n this]; exact h
/-- What a move answers. -/
theorem move_right {e f : Int} (he : In32 e) (hf : In32 f) : Mtx.right ⟨65536, 0, 0, 65536, e, f⟩ := ⟨(show In32 65536 by decide), (show In32 0 by decide), (show In32 0 by decide), (show In32 65536 by decide), he, hf⟩
theorem apply_move {e f x y : Int} (he : In32 e) (hf : In32 f) : applyS ⟨65536, 0, 0, 65536, e, f⟩ x y = if In32 x ∧ In32 y then (if In32 (x + e) ∧ In32 (y + f) then ((x + e, y + f), 0) else ((0, 0), 2)) else ((0, 0), 1) := by
  unfold applyS
  rw [app_move]
  by_cases h : In32 x ∧ In32 y
  · rw [if_pos ⟨move_right he hf, h⟩, if_pos h]
  · rw [if_neg (fun k => h k.2), if_neg h]
theorem move_zero {e f x y : Int} (he : In32 e) (hf : In32 f) (h : (applyS ⟨65536, 0, 0, 65536, e, f⟩ x y).2 = 0) : applyS ⟨65536, 0, 0, 65536, e, f⟩ x y = ((x + e, y + f), 0) ∧ In32 x ∧ In32 y ∧ In32 (x + e) ∧ In32 (y + f) := by
  rw [apply_move he hf] at h ⊢
  split at h
  · rename_i h1
    split at h
    · rename_i h2; rw [if_pos h1, if_pos h2]; exact ⟨rfl, h1.1, h1.2, h2.1, h2.2⟩
    · exact absurd h (by decide)
  · exact absurd h (by decide)
theorem move_back {e f x y : Int} (he : In32 e) (hf : In32 f) (hx : In32 x) (hy : In32 y) (h1 : In32 (x + e)) (h2 : In32 (y + f)) : applyS ⟨65536, 0, 0, 65536, -e, -f⟩ (x + e) (y + f) = ((x, y), 0) := by
  rw [apply_move (in_neg he) (in_neg hf), if_pos ⟨h1, h2⟩, show x + e + -e = x from by omega, show y + f + -f = y from by omega, if_pos ⟨hx, hy⟩]
theorem mi_same : MI64 sameM := by unfold MI64 I64 sameM; decide
set_option maxHeartbeats 8000000 in
set_option maxRecDepth 100000 in
theorem walk (x y : Int) (hx : I64 x) (hy : I64 y) (u v : Int) (hu : I64 u) (hv : I64 v) (b0 b1 : Int) (h0 : -2147483648 ≤ b0 ∧ b0 ≤ 2147483647) (h1 : -2147483648 ≤ b1 ∧ b1 ≤ 2147483647) (w : World) :
    Calls Try.prog 6 #[.agg #[.int .i64 x, .int .i64 y], .agg #[.int .i64 u, .int .i64 v], .agg #[.int .i32 b0, .int .i32 b1]] w fun e w' => e = .returned (.bool true) ∧ Below w.heap.size w w' := by
  have K := Lib.hid (fun w => wakes8 w)
  have SM := Lib.hid (fun w => asame8 w)
  unfold Mtx.val at SM
  simp only [sameM, Mtx.cells] at SM
  have i0 : In32 b0 := ⟨by omega, by omega⟩
  have i1 : In32 b1 := ⟨by omega, by omega⟩
  have mi : MI64 ⟨65536, 0, 0, 65536, b0, b1⟩ := ⟨(show I64 65536 from ⟨by decide, by decide⟩), (show I64 0 from ⟨by decide, by decide⟩), (show I64 0 from ⟨by decide, by decide⟩), (show I64 65536 from ⟨by decide, by decide⟩), i0.i, i1.i⟩
  have mj : MI64 ⟨65536, 0, 0, 65536, -b0, -b1⟩ := ⟨(show I64 65536 from ⟨by decide, by decide⟩), (show I64 0 from ⟨by decide, by decide⟩), (show I64 0 from ⟨by decide, by decide⟩), (show I64 65536 from ⟨by decide, by decide⟩), (in_neg i0).i, (in_neg i1).i⟩
  have A1 := Lib.hid (fun w => aapply8 ⟨65536, 0, 0, 65536, b0, b1⟩ x y w mi hx hy)
  have A2 := Lib.hid (fun w => aapply8 ⟨65536, 0, 0, 65536, b0, b1⟩ u v w mi hu hv)
  have A3 := Lib.hid (fun (h : In32 (x + b0) ∧ In32 (y + b1)) w => aapply8 ⟨65536, 0, 0, 65536, -b0, -b1⟩ (x + b0) (y + b1) w mj h.1.i h.2.i)
  have Z1 := Lib.hid (move_zero (x := x) (y := y) i0 i1)
  have Z2 := Lib.hid (move_zero (x := u) (y := v) i0 i1)
  have MB := Lib.hid (move_back (x := x) (y := y) i0 i1)
  have e1 : IntKind.i64.wrap (-b0) = -b0 := IntWalk.i64_in _ (by omega)
  have e2 : IntKind.i64.wrap (-b1) = -b1 := IntWalk.i64_in _ (by omega)
  have e3 : IntKind.i64.wrap b0 = b0 := IntWalk.i64_in _ (by omega)
  have e4 : IntKind.i64.wrap b1 = b1 := IntWalk.i64_in _ (by omega)
  have al1 := (Below.refl w.heap.size w).alloc (Nat.le_refl _) (.cells #[.int .i64 x, .int .i64 y] 25)
  have hp := PBox.new w x y
  generalize hA : w.alloc (.cells #[.int .i64 x, .int .i64 y] 25) = A at *
  have sA : A.heap.size = w.heap.size + 1 := by rw [← hA]; simp
  have al2 := (Below.refl A.heap.size A).alloc (Nat.le_refl _) (.cells #[.int .i64 u, .int .i64 v] 25)
  have hq := PBox.new A u v
  generalize hB : A.alloc (.cells #[.int .i64 u, .int .i64 v] 25) = B at *
  have sB : B.heap.size = w.heap.size + 1 + 1 := by rw [← hB]; simp [sA]
  have al3 := (Below.refl B.heap.size B).alloc (Nat.le_refl _) (.cells #[.int .i32 b0, .int .i32 b1] 47)
  have ha := ABox.new B b0 b1
  rw [sA] at hq
  rw [sB] at ha
  have HP0 := Lib.hid ((hp.next al2).next al3)
  have HQ0 := Lib.hid (hq.next al3)
  have HY0 := Lib.hid ha
  have HB0 := Lib.hid ((al1.trans (al2.mono al1.size)).trans (al3.mono (Nat.le_trans al1.size al2.size)))
  subst hB hA
  clear al1 al2 al3 hp hq ha sA sB hx hy hu hv mi mj i0 i1 h0 h1
  go_enter Try.func6, Try.ntmps6
  go_wp2_with fail
  generalize ((w.alloc (.cells #[.int .i64 x, .int .i64 y] 25)).alloc (.cells #[.int .i64 u, .int .i64 v] 25)).alloc (.cells #[.int .i32 b0, .int .i32 b1] 47) = w0 at *
  refine (K.out _).mono ?_
  rintro e w1 ⟨rfl, b1⟩
  have HB1 := Lib.hid (HB0.out.trans (b1.mono HB0.out.size))
  have HP1 := Lib.hid (HP0.out.next b1)
  have HQ1 := Lib.hid (HQ0.out.next b1)
  have HY1 := Lib.hid (HY0.out.next b1)
  clear b1
  go_wp2_with fail
  refine (SM.out _).mono ?_
  rintro e w2 ⟨rfl, b2⟩
  have HB2 := Lib.hid (HB1.out.trans (b2.mono HB1.out.size))
  have HP2 := Lib.hid (HP1.out.next b2)
  have HQ2 := Lib.hid (HQ1.out.next b2)
  have HY2 := Lib.hid (HY1.out.next b2)
  clear b2
  go_upto_region 4 with fail
  have al := (Below.refl w2.heap.size w2).alloc (Nat.le_refl _) (.cells #[.int .i64 65536, .int .i64 0, .int .i64 0, .int .i64 65536, .int .i64 0, .int .i64 0] 23)
  have hnew := MBox.new w2 ⟨65536, 0, 0, 65536, 0, 0⟩
  simp only [Mtx.cells] at hnew
  have HM3 := Lib.hid hnew
  have HB3 := Lib.hid (HB2.out.alloc HB2.out.size (.cells #[.int .i64 65536, .int .i64 0, .int .i64 0, .int .i64 65536, .int .i64 0, .int .i64 0] 23))
  have HP3 := Lib.hid (HP2.out.next al)
  have HQ3 := Lib.hid (HQ2.out.next al)
  have HY3 := Lib.hid (HY2.out.next al)
  have lMP := HP2.out.lt
  have lMQ := HQ2.out.lt
  have lMY := HY2.out.lt
  clear al hnew
  generalize w2.alloc (.cells #[.int .i64 65536, .int .i64 0, .int .i64 0, .int .i64 65536, .int .i64 0, .int .i64 0] 23) = w3 at *
  generalize w2.heap.size = km at *
  have y0 : w3.cell? ⟨w.heap.size + 1 + 1, 0, none⟩ = some (.int .i32 b0) := HY3.out.c0
  have y1 : w3.cell? ⟨w.heap.size + 1 + 1, 1, none⟩ = some (.int .i32 b1) := HY3.out.c1
  have c4 := HM3.out.c4
  have c5 := HM3.out.c5
  have z4 := HM3.out.z 4
  have z5 := HM3.out.z 5
  dsimp only at c4 c5
  have nP : w.heap.size ≠ km := Nat.ne_of_lt lMP
  have nQ : w.heap.size + 1 ≠ km := Nat.ne_of_lt lMQ
  have hkm : w.heap.size ≤ km := Nat.le_of_lt lMP
  go_cut [] (fun wc => PBox w.heap.size x y wc ∧ PBox (w.heap.size + 1) u v wc ∧ MBox km ⟨65536, 0, 0, 65536, b0, b1⟩ wc ∧ Below w.heap.size w wc)
  case first =>
    go_region_held3 (fun w' => w'.cell? ⟨w.heap.size + 1 + 1, 0, none⟩ = some (.int .i32 b0) ∧ w'.cell? ⟨w.heap.size + 1 + 1, 1, none⟩ = some (.int .i32 b1)) (first | (refine ⟨?_, ?_⟩ <;> first | with_reducible assumption | (with_reducible refine cell_far ?_ ?_ <;> with_reducible assumption) | (with_reducible refine cell_far (cell_far ?_ ?_) ?_ <;> with_reducible assumption)) | (simp [go_sem, *]; done)) (fail)
    all_goals
      go_wp2_with fail
      go_meet
      first
      | exact ⟨(HP3.out.other nP 4 (.int .i64 b0)).other nP 5 (.int .i64 b1), (HQ3.out.other nQ 4 (.int .i64 b0)).other nQ 5 (.int .i64 b1), me45 HM3.out b0 b1, ((HB3.out.setCell (p := ⟨km, 4, none⟩) hkm (.int .i64 b0)).setCell (p := ⟨km, 5, none⟩) hkm (.int .i64 b1)).drew⟩
      | exact ⟨(HP3.out.other nP 5 (.int .i64 b1)).other nP 4 (.int .i64 b0), (HQ3.out.other nQ 5 (.int .i64 b1)).other nQ 4 (.int .i64 b0), me54 HM3.out b0 b1, ((HB3.out.setCell (p := ⟨km, 5, none⟩) hkm (.int .i64 b1)).setCell (p := ⟨km, 4, none⟩) hkm (.int .i64 b0)).drew⟩
  case rest =>
    obtain ⟨hp4, hq4, hm4, hb4⟩ := hcut
    have HP4 := Lib.hid hp4
    have HQ4 := Lib.hid hq4
    have HM4 := Lib.hid hm4
    have HB4 := Lib.hid hb4
    clear hp4 hq4 hm4 hb4 y0 y1 c4 c5 z4 z5 HP0 HP1 HP2 HP3 HQ0 HQ1 HQ2 HQ3 HY0 HY1 HY2 HY3 HM3 HB0 HB1 HB2 HB3 e3 e4 K SM lMP lMQ lMY
    generalize wc = w4 at *
    generalize hR1 : applyS ⟨65536, 0, 0, 65536, b0, b1⟩ x y = R1 at *
    generalize hR2 : applyS ⟨65536, 0, 0, 65536, b0, b1⟩ u v = R2 at *
    clear hR1 hR2
    obtain ⟨⟨ax, ay⟩, z1⟩ := R1
    obtain ⟨⟨bx, by_⟩, z2⟩ := R2
    unfold PE at A1 A2
    unfold Mtx.val at A1 A2
    simp only [Mtx.cells] at A1 A2
    have m_40 : w4.cell? ⟨km, 0, none⟩ = some (.int .i64 65536) := HM4.out.c0
    have m_41 : w4.cell? ⟨km, 1, none⟩ = some (.int .i64 0) := HM4.out.c1
    have m_42 : w4.cell? ⟨km, 2, none⟩ = some (.int .i64 0) := HM4.out.c2
    have m_43 : w4.cell? ⟨km, 3, none⟩ = some (.int .i64 65536) := HM4.out.c3
    have m_44 : w4.cell? ⟨km, 4, none⟩ = some (.int .i64 b0) := HM4.out.c4
    have m_45 : w4.cell? ⟨km, 5, none⟩ = some (.int .i64 b1) := HM4.out.c5
    have p_40 : w4.cell? ⟨w.heap.size, 0, none⟩ = some (.int .i64 x) := HP4.out.c0
    have p_41 : w4.cell? ⟨w.heap.size, 1, none⟩ = some (.int .i64 y) := HP4.out.c1
    go_wp2_with fail
    refine (A1.out _).mono ?_
    rintro e w5 ⟨rfl, b5⟩
    have HB5 := Lib.hid (HB4.out.trans (b5.mono HB4.out.size))
    have HP5 := Lib.hid (HP4.out.next b5)
    have HQ5 := Lib.hid (HQ4.out.next b5)
    have HM5 := Lib.hid (HM4.out.next b5)
    clear b5
    clear m_40 m_41 m_42 m_43 m_44 m_45 p_40 p_41
    go_upto_region 6 with fail
    have al := (Below.refl w5.heap.size w5).alloc (Nat.le_refl _) (.cells #[.int .i64 ax, .int .i64 ay] 25)
    have hnew := PBox.new w5 ax ay
    have HA6 := Lib.hid hnew
    have HB6 := Lib.hid (HB5.out.alloc HB5.out.size (.cells #[.int .i64 ax, .int .i64 ay] 25))
    have HP6 := Lib.hid (HP5.out.next al)
    have HQ6 := Lib.hid (HQ5.out.next al)
    have HM6 := Lib.hid (HM5.out.next al)
    have lAM := HM5.out.lt
    clear al hnew
    generalize w5.alloc (.cells #[.int .i64 ax, .int .i64 ay] 25) = w6 at *
    generalize w5.heap.size = ka at *
    have m_60 : w6.cell? ⟨km, 0, none⟩ = some (.int .i64 65536) := HM6.out.c0
    have m_61 : w6.cell? ⟨km, 1, none⟩ = some (.int .i64 0) := HM6.out.c1
    have m_62 : w6.cell? ⟨km, 2, none⟩ = some (.int .i64 0) := HM6.out.c2
    have m_63 : w6.cell? ⟨km, 3, none⟩ = some (.int .i64 65536) := HM6.out.c3
    have m_64 : w6.cell? ⟨km, 4, none⟩ = some (.int .i64 b0) := HM6.out.c4
    have m_65 : w6.cell? ⟨km, 5, none⟩ = some (.int .i64 b1) := HM6.out.c5
    have q_60 : w6.cell? ⟨w.heap.size + 1, 0, none⟩ = some (.int .i64 u) := HQ6.out.c0
    have q_61 : w6.cell? ⟨w.heap.size + 1, 1, none⟩ = some (.int .i64 v) := HQ6.out.c1
    go_wp2_with fail
    refine (A2.out _).mono ?_
    rintro e w7 ⟨rfl, b7⟩
    have HB7 := Lib.hid (HB6.out.trans (b7.mono HB6.out.size))
    have HP7 := Lib.hid (HP6.out.next b7)
    have HQ7 := Lib.hid (HQ6.out.next b7)
    have HM7 := Lib.hid (HM6.out.next b7)
    have HA7 := Lib.hid (HA6.out.next b7)
    clear b7
    clear m_60 m_61 m_62 m_63 m_64 m_65 q_60 q_61
    go_upto_region 7 with fail
    have al := (Below.refl w7.heap.size w7).alloc (Nat.le_refl _) (.cells #[.int .i64 bx, .int .i64 by_] 25)
    have hnew := PBox.new w7 bx by_
    have HD8 := Lib.hid hnew
    have HB8 := Lib.hid (HB7.out.alloc HB7.out.size (.cells #[.int .i64 bx, .int .i64 by_] 25))
    have HP8 := Lib.hid (HP7.out.next al)
    have HQ8 := Lib.hid (HQ7.out.next al)
    have HM8 := Lib.hid (HM7.out.next al)
    have HA8 := Lib.hid (HA7.out.next al)
    have lDM := HM7.out.lt
    clear al hnew
    generalize w7.alloc (.cells #[.int .i64 bx, .int .i64 by_] 25) = w8 at *
    generalize w7.heap.size = kd at *
    by_cases h1 : z1 = 0
    case neg =>
      have t1 : (z1 == 0) = false := by simpa using h1
      have t2 : (z1 != 0) = true := by simpa using h1
      go_wp2_with fail
      go_ret
      exact ⟨rfl, HB8.out⟩
    by_cases h2 : z2 = 0
    case neg =>
      have t1 : (z2 == 0) = false := by simpa using h2
      have t2 : (z2 != 0) = true := by simpa using h2
      subst h1
      go_wp2_with fail
      go_ret
      exact ⟨rfl, HB8.out⟩
    obtain ⟨r1, ix, iy, ix', iy'⟩ := Z1.out h1
    obtain ⟨r2, iu, iv, iu', iv'⟩ := Z2.out h2
    subst h1 h2
    simp only [Prod.mk.injEq, and_true] at r1 r2
    obtain ⟨rfl, rfl⟩ := r1
    obtain ⟨rfl, rfl⟩ := r2
    have a3 := A3.out ⟨ix', iy'⟩
    rw [MB.out ix iy ix' iy'] at a3
    unfold PE at a3
    unfold Mtx.val at a3
    simp only [Mtx.cells] at a3
    have A4 := Lib.hid a3
    have f1 : IntKind.i64.wrap (u + b0 - (x + b0)) = u - x := by rw [show u + b0 - (x + b0) = u - x from by omega]; exact IntWalk.i64_in _ (by unfold In32 at *; omega)
    have f2 : IntKind.i64.wrap (v + b1 - (y + b1)) = v - y := by rw [show v + b1 - (y + b1) = v - y from by omega]; exact IntWalk.i64_in _ (by unfold In32 at *; omega)
    have f3 : IntKind.i64.wrap (u - x) = u - x := IntWalk.i64_in _ (by unfold In32 at *; omega)
    have f4 : IntKind.i64.wrap (v - y) = v - y := IntWalk.i64_in _ (by unfold In32 at *; omega)
    clear a3 A1 A2 A3 Z1 Z2 MB ix iy ix' iy' iu iv iu' iv'
    have m_80 : w8.cell? ⟨km, 0, none⟩ = some (.int .i64 65536) := HM8.out.c0
    have m_81 : w8.cell? ⟨km, 1, none⟩ = some (.int .i64 0) := HM8.out.c1
    have m_82 : w8.cell? ⟨km, 2, none⟩ = some (.int .i64 0) := HM8.out.c2
    have m_83 : w8.cell? ⟨km, 3, none⟩ = some (.int .i64 65536) := HM8.out.c3
    have m_84 : w8.cell? ⟨km, 4, none⟩ = some (.int .i64 b0) := HM8.out.c4
    have m_85 : w8.cell? ⟨km, 5, none⟩ = some (.int .i64 b1) := HM8.out.c5
    have zm_80 := HM8.out.z 0
    have zm_81 := HM8.out.z 1
    have zm_82 := HM8.out.z 2
    have zm_83 := HM8.out.z 3
    have zm_84 := HM8.out.z 4
    have zm_85 := HM8.out.z 5
    go_upto_region 10 with fail
    clear m_80 m_81 m_82 m_83 m_84 m_85 zm_80 zm_81 zm_82 zm_83 zm_84 zm_85
    have HM9 := Lib.hid (me45 HM8.out (-b0) (-b1))
    have nA : ka ≠ km := Nat.ne_of_gt lAM
    have nD : kd ≠ km := Nat.ne_of_gt lDM
    have HP9 := Lib.hid ((HP8.out.other nP 4 (.int .i64 (-b0))).other nP 5 (.int .i64 (-b1)))
    have HQ9 := Lib.hid ((HQ8.out.other nQ 4 (.int .i64 (-b0))).other nQ 5 (.int .i64 (-b1)))
    have HA9 := Lib.hid ((HA8.out.other nA 4 (.int .i64 (-b0))).other nA 5 (.int .i64 (-b1)))
    have HD9 := Lib.hid ((HD8.out.other nD 4 (.int .i64 (-b0))).other nD 5 (.int .i64 (-b1)))
    have HB9 := Lib.hid ((HB8.out.setCell (p := ⟨km, 4, none⟩) hkm (.int .i64 (-b0))).setCell (p := ⟨km, 5, none⟩) hkm (.int .i64 (-b1)))
    generalize ((w8.setCell ⟨km, 4, none⟩ (.int .i64 (-b0))).setCell ⟨km, 5, none⟩ (.int .i64 (-b1))) = w9 at *
    have m_90 : w9.cell? ⟨km, 0, none⟩ = some (.int .i64 65536) := HM9.out.c0
    have m_91 : w9.cell? ⟨km, 1, none⟩ = some (.int .i64 0) := HM9.out.c1
    have m_92 : w9.cell? ⟨km, 2, none⟩ = some (.int .i64 0) := HM9.out.c2
    have m_93 : w9.cell? ⟨km, 3, none⟩ = some (.int .i64 65536) := HM9.out.c3
    have m_94 : w9.cell? ⟨km, 4, none⟩ = some (.int .i64 (-b0)) := HM9.out.c4
    have m_95 : w9.cell? ⟨km, 5, none⟩ = some (.int .i64 (-b1)) := HM9.out.c5
    have a_90 : w9.cell? ⟨ka, 0, none⟩ = some (.int .i64 (x + b0)) := HA9.out.c0
    have a_91 : w9.cell? ⟨ka, 1, none⟩ = some (.int .i64 (y + b1)) := HA9.out.c1
    go_wp2_with fail
    refine (A4.out _).mono ?_
    rintro e wA ⟨rfl, bA⟩
    have HBA := Lib.hid (HB9.out.trans (bA.mono HB9.out.size))
    have HPA := Lib.hid (HP9.out.next bA)
    have HQA := Lib.hid (HQ9.out.next bA)
    have HMA := Lib.hid (HM9.out.next bA)
    have HAA := Lib.hid (HA9.out.next bA)
    have HDA := Lib.hid (HD9.out.next bA)
    clear bA
    clear m_90 m_91 m_92 m_93 m_94 m_95 a_90 a_91
    go_upto_region 11 with fail
    have al := (Below.refl wA.heap.size wA).alloc (Nat.le_refl _) (.cells #[.int .i64 x, .int .i64 y] 25)
    have hnew := PBox.new wA x y
    have HCB := Lib.hid hnew
    have HBB := Lib.hid (HBA.out.alloc HBA.out.size (.cells #[.int .i64 x, .int .i64 y] 25))
    have HPB := Lib.hid (HPA.out.next al)
    have HQB := Lib.hid (HQA.out.next al)
    have HMB := Lib.hid (HMA.out.next al)
    have HAB := Lib.hid (HAA.out.next al)
    have HDB := Lib.hid (HDA.out.next al)
    clear al hnew
    generalize wA.alloc (.cells #[.int .i64 x, .int .i64 y] 25) = wB at *
    generalize wA.heap.size = kc at *
    have p_B0 : wB.cell? ⟨w.heap.size, 0, none⟩ = some (.int .i64 x) := HPB.out.c0
    have p_B1 : wB.cell? ⟨w.heap.size, 1, none⟩ = some (.int .i64 y) := HPB.out.c1
    have q_B0 : wB.cell? ⟨w.heap.size + 1, 0, none⟩ = some (.int .i64 u) := HQB.out.c0
    have q_B1 : wB.cell? ⟨w.heap.size + 1, 1, none⟩ = some (.int .i64 v) := HQB.out.c1
    have a_B0 : wB.cell? ⟨ka, 0, none⟩ = some (.int .i64 (x + b0)) := HAB.out.c0
    have a_B1 : wB.cell? ⟨ka, 1, none⟩ = some (.int .i64 (y + b1)) := HAB.out.c1
    have d_B0 : wB.cell? ⟨kd, 0, none⟩ = some (.int .i64 (u + b0)) := HDB.out.c0
    have d_B1 : wB.cell? ⟨kd, 1, none⟩ = some (.int .i64 (v + b1)) := HDB.out.c1
    have c_B0 : wB.cell? ⟨kc, 0, none⟩ = some (.int .i64 x) := HCB.out.c0
    have c_B1 : wB.cell? ⟨kc, 1, none⟩ = some (.int .i64 y) := HCB.out.c1
    go_wp2_with fail
    go_ret
    exact ⟨rfl, HBB.out⟩
set_option maxRecDepth 100000 in
theorem lifted (os : Os) (started : os.Started) (H : Type) (enc : TypeId × Value → H) :
    ReturnsInHanded {} Try.checked os 6 .any (Rows.affineMovesSpec.pre6 enc Try.prog Try.f6 Rows.affineMovesRow.domain false) (Rows.affineMovesSpec.post enc Try.prog Try.f6 false true false false) := by
  refine returnsInHanded_of_change (C := Try.checked) own started (by kernel_rfl) Try.func6
    (ChangeSpec.witness6 (enc := enc) (C := Try.checked) false ⟨#[], #[.agg #[.int .i64 0, .int .i64 0], .agg #[.int .i64 0, .int .i64 0], .agg #[.int .i32 0, .int .i32 0]], []⟩ 8 (by kernel_rfl) (by kernel_rfl) (by kernel_rfl) (by kernel_rfl)) ?_
  intro W base args ds gs before hval0 hW hcnd _
  have hval : ∀ (j : Nat) t v, Try.f6.params[j]? = some t → args[j]? = some v → Value.okWide Try.prog W .any base t v := hval0
  have hW' := hW
  obtain ⟨p, q, hA0, hV, rfl, hfz, hnd⟩ := hW
  have hA : DataW.TrodAll enc Try.prog W 0 (fun _ => true) true Try.f6.params.toList args.toList ds p := hA0
  rw [Try.params6] at hA hval
  obtain ⟨v0, v1, v2, d0, d1, d2, p0, p1, p2, rfl, rfl, rfl, h0, h1, h2⟩ := trodAll_three hA
  obtain ⟨rfl, rfl⟩ := trodVars_none hV
  obtain ⟨x0, y0, rfl, wx0, wy0⟩ := pt_of_trod Try.underlying25 (by kernel_rfl) (by kernel_rfl) Try.underlying2 Try.underlying2 (hval 0 25 v0 rfl rfl) h0
  obtain ⟨x1, y1, rfl, wx1, wy1⟩ := pt_of_trod Try.underlying25 (by kernel_rfl) (by kernel_rfl) Try.underlying2 Try.underlying2 (hval 1 25 v1 rfl rfl) h1
  obtain ⟨a2, b2, rfl, wa2, wb2⟩ := two_of_trod (hval 2 47 v2 rfl rfl) h2
  clear hA0 hval0
  simp only [List.append_nil] at hW'
  have lt0 : ∀ x ∈ p0, x.block < W.heap.size := fun x hx => hW'.lt x (by simp [hx])
  have lt1 : ∀ x ∈ p1, x.block < W.heap.size := fun x hx => hW'.lt x (by simp [hx])
  have lt2 : ∀ x ∈ p2, x.block < W.heap.size := fun x hx => hW'.lt x (by simp [hx])
  refine (walk x0 y0 wx0 wy0 x1 y1 wx1 wy1 a2 b2 wa2 wb2 W).mono fun e W' ⟨he, hg⟩ => ?_
  subst he
  have b0' := Below.trod laidOut (by kernel_rfl) (of_decide_eq_true (by kernel_rfl)) h0 hg lt0
  have b1' := Below.trod laidOut (by kernel_rfl) (of_decide_eq_true (by kernel_rfl)) h1 hg lt1
  have b2' := Below.trod laidOut (by kernel_rfl) (of_decide_eq_true (by kernel_rfl)) h2 hg lt2
  exact ⟨_, rfl, ⟨_, _, _, [], _, [], hW', trodAll_mk1 (shut_bool Try.underlying4 _), trodAll_mk3 b0' b1' b2', rfl, hg.frame _, fun h => by cases h⟩⟩

/-- The given statement. -/
theorem proved : Rows.AffineMovesSaid :=
  OpenClaim.holds_of_wide 6 Try.f6 rfl rfl rfl rfl rfl rfl rfl ⟨rfl, rfl, rfl, rfl, rfl⟩ rfl rfl rfl rfl rfl (by kernel_rfl) Try.func6 (by kernel_rfl)
    (of_decide_eq_true (by kernel_rfl)) (by unfold Func.isWrapper; first | (rw [if_pos (by decide +kernel)]; kernel_rfl) | (rw [if_neg (by decide +kernel)]; exact ⟨rfl, rfl⟩))
    (fun os started H enc _ => lifted os started H enc)
end Go.Proofs.Ytmchompeciikdaa.affineMoves
