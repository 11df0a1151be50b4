/-
  Package vec: Right, Turn; the examples of layer 9 hold.
-/
import Derived.Test.YthnjdncnmdmjaaaVecOfFn
import Derived.Test.YthnjdncnmdmjaaaAffMust
import Derived.Test.YthnjdncnmdmjaaaVecMath
namespace Go.Proofs.Ythnjdncnmdmjaaa
open Go.RowKit Go.Shelf

theorem i64_abs {x : Int} (h : I64 x) : x.natAbs ≤ 9223372036854775808 := by unfold I64 at h; omega
set_option maxHeartbeats 1000000 in
set_option maxRecDepth 100000 in
theorem vright_any (x y : Int) (w : World) (hx : I64 x) (hy : I64 y) :
    Calls Try.prog 22 #[.agg #[.int .i64 x, .int .i64 y]] w fun e w' => e = .returned (.bool (decide (rightD x y))) ∧ Below w.heap.size w w' := by
  have HY := Lib.hid (fun w => Hypot_any x y w hx hy)
  rw [show rt (x.natAbs * x.natAbs + y.natAbs * y.natAbs) = hypN x y from rfl] at HY
  have e : decide (rightD x y) = decide (1073741760 ≤ (hypN x y : Int) ∧ (hypN x y : Int) ≤ 1073741888) := decide_eq_decide.2 ((right_hyp x y (i64_abs hx) (i64_abs hy)).symm.trans (by omega))
  rw [e]
  clear e
  generalize (hypN x y : Int) = k at *
  obtain ⟨R, hR⟩ : ∃ R, decide (1073741760 ≤ k ∧ k ≤ 1073741888) = R := ⟨_, rfl⟩
  rw [hR]
  have al := (Below.refl w.heap.size w).alloc (Nat.le_refl _) (.cells #[.int .i64 x, .int .i64 y] 25)
  have HB0 := Lib.hid al
  have HP0 := Lib.hid (PBox.new w x y)
  clear al hx hy
  go_enter Try.func22, Try.ntmps22
  go_upto_region 1 with fail
  generalize w.alloc (.cells #[.int .i64 x, .int .i64 y] 25) = w1 at *
  have z0 := HP0.out.c0; have z1 := HP0.out.c1
  go_wp2_with fail
  refine (HY.out _).mono ?_
  rintro e w2 ⟨rfl, b2⟩
  have HB2 := Lib.hid (HB0.out.trans (b2.mono HB0.out.size))
  clear b2
  by_cases h1 : 1073741760 ≤ k
  · obtain rfl : decide (k ≤ 1073741888) = R := by rw [← hR]; exact decide_eq_decide.2 ⟨fun h => ⟨h1, h⟩, fun h => h.2⟩
    clear hR
    go_wp2_with fail
    go_ret
    exact ⟨rfl, HB2.out⟩
  · obtain rfl : false = R := by rw [← hR]; exact (decide_eq_false (fun h => h1 h.1)).symm
    clear hR
    go_wp2_with fail
    go_ret
    exact ⟨rfl, HB2.out⟩
theorem modulo_eq (n : Int) : (n.tmod 4 + 4) % 4 = n % 4 ∧ -3 ≤ n.tmod 4 ∧ n.tmod 4 ≤ 3 := by
  have e := Int.tmod_eq_emod (a := n) (b := 4)
  have r : -3 ≤ n.tmod 4 ∧ n.tmod 4 ≤ 3 ∧ (n.tmod 4 = n % 4 ∨ n.tmod 4 + 4 = n % 4) := by
    by_cases hd : 0 ≤ n ∨ (4 : Int) ∣ n
    · rw [if_pos hd] at e; omega
    · rw [if_neg hd] at e; omega
  refine ⟨?_, r.1, r.2.1⟩
  omega
set_option maxHeartbeats 1000000 in
set_option maxRecDepth 100000 in
theorem modulo_any (n : Int) (w : World) :
    Calls Try.prog 50 #[.int .i64 n, .int .i64 4] w fun e w' => e = .returned (.int .i64 (n % 4)) ∧ w = w' := by
  obtain ⟨e, h1, h2⟩ := modulo_eq n
  rw [← e]
  clear e
  go_enter Try.func50, Try.ntmps50
  go_wp2_with fail
  go_ret
  exact ⟨rfl, rfl⟩
theorem boxes2p (w : World) (x y : Int) : PBox w.heap.size x y ((w.alloc (.cells #[.int .i64 x, .int .i64 y] 25)).alloc (.cells #[.int .i64 0, .int .i64 0] 25)) ∧ PBox (w.heap.size + 1) 0 0 ((w.alloc (.cells #[.int .i64 x, .int .i64 y] 25)).alloc (.cells #[.int .i64 0, .int .i64 0] 25)) ∧
    Below w.heap.size w ((w.alloc (.cells #[.int .i64 x, .int .i64 y] 25)).alloc (.cells #[.int .i64 0, .int .i64 0] 25)) := by
  have b1 := (Below.refl w.heap.size w).alloc (Nat.le_refl _) (.cells #[.int .i64 x, .int .i64 y] 25)
  have p1 := PBox.new w x y
  generalize hA : w.alloc (.cells #[.int .i64 x, .int .i64 y] 25) = A at *
  have sA : A.heap.size = w.heap.size + 1 := by rw [← hA]; simp
  have b2 := (Below.refl A.heap.size A).alloc (Nat.le_refl _) (.cells #[.int .i64 0, .int .i64 0] 25)
  have p2 := PBox.new A 0 0
  rw [sA] at p2
  exact ⟨p1.next b2, p2, b1.trans (b2.mono b1.size)⟩
/-- The four directions in one box. -/
def QBox (n : Nat) (x y : Int) (w : World) : Prop := w.heap[n]? = some (.cells #[.int .i64 x, .int .i64 y, .int .i64 (-y), .int .i64 x, .int .i64 (-x), .int .i64 (-y), .int .i64 y, .int .i64 (-x)] 69)
theorem QBox.new (w : World) (x y : Int) : QBox w.heap.size x y (w.alloc (.cells #[.int .i64 x, .int .i64 y, .int .i64 (-y), .int .i64 x, .int .i64 (-x), .int .i64 (-y), .int .i64 y, .int .i64 (-x)] 69)) := World.alloc_heap_new w _
theorem QBox.c0 {n : Nat} {x y : Int} {w : World} (h : QBox n x y w) : w.cell? ⟨n, 0, none⟩ = some (.int .i64 x) := by unfold QBox at h; simp [World.cell?, h]
theorem QBox.c1 {n : Nat} {x y : Int} {w : World} (h : QBox n x y w) : w.cell? ⟨n, 1, none⟩ = some (.int .i64 y) := by unfold QBox at h; simp [World.cell?, h]
theorem QBox.c2 {n : Nat} {x y : Int} {w : World} (h : QBox n x y w) : w.cell? ⟨n, 2, none⟩ = some (.int .i64 (-y)) := by unfold QBox at h; simp [World.cell?, h]
theorem QBox.c3 {n : Nat} {x y : Int} {w : World} (h : QBox n x y w) : w.cell? ⟨n, 3, none⟩ = some (.int .i64 x) := by unfold QBox at h; simp [World.cell?, h]
theorem QBox.c4 {n : Nat} {x y : Int} {w : World} (h : QBox n x y w) : w.cell? ⟨n, 4, none⟩ = some (.int .i64 (-x)) := by unfold QBox at h; simp [World.cell?, h]
theorem QBox.c5 {n : Nat} {x y : Int} {w : World} (h : QBox n x y w) : w.cell? ⟨n, 5, none⟩ = some (.int .i64 (-y)) := by unfold QBox at h; simp [World.cell?, h]
theorem QBox.c6 {n : Nat} {x y : Int} {w : World} (h : QBox n x y w) : w.cell? ⟨n, 6, none⟩ = some (.int .i64 y) := by unfold QBox at h; simp [World.cell?, h]
theorem QBox.c7 {n : Nat} {x y : Int} {w : World} (h : QBox n x y w) : w.cell? ⟨n, 7, none⟩ = some (.int .i64 (-x)) := by unfold QBox at h; simp [World.cell?, h]
def PtV (p : Int × Int) : Value := .agg #[.int .i64 p.1, .int .i64 p.2]
set_option maxHeartbeats 1000000 in
set_option maxRecDepth 100000 in
theorem vturn_any (x y n : Int) (w : World) (hx : In62 x) (hy : In62 y) :
    Calls Try.prog 24 #[.agg #[.int .i64 x, .int .i64 y], .int .i64 n] w fun e w' => e = .returned (PtV (turnP (n % 4).toNat x y)) ∧ Below w.heap.size w w' := by
  have MO := Lib.hid (fun w => modulo_any n w)
  obtain ⟨q, hq⟩ : ∃ q, (n % 4).toNat = q := ⟨_, rfl⟩
  have hq4 : q < 4 := by omega
  have hqi : n % 4 = (q : Int) := by omega
  rw [hq]
  rw [hqi] at MO
  clear hq hqi
  unfold In62 at hx hy
  obtain ⟨hp, hz, hb⟩ := boxes2p w x y
  have HP0 := Lib.hid hp
  have HZ0 := Lib.hid hz
  have HB0 := Lib.hid hb
  clear hp hz hb
  go_enter Try.func24, Try.ntmps24
  go_upto_region 1 with fail
  generalize (w.alloc (.cells #[.int .i64 x, .int .i64 y] 25)).alloc (.cells #[.int .i64 0, .int .i64 0] 25) = w1 at *
  have z0 := HP0.out.c0; have z1 := HP0.out.c1
  go_upto_region 2 with fail
  have hq8 := QBox.new w1 x y
  have al := (Below.refl w1.heap.size w1).alloc (Nat.le_refl _) (.cells #[.int .i64 x, .int .i64 y, .int .i64 (-y), .int .i64 x, .int .i64 (-x), .int .i64 (-y), .int .i64 y, .int .i64 (-x)] 69)
  have HB1 := Lib.hid (HB0.out.trans (al.mono HB0.out.size))
  have HZ1 := Lib.hid (HZ0.out.next al)
  clear al z0 z1 hx hy HP0 HZ0 HB0
  generalize w1.alloc (.cells #[.int .i64 x, .int .i64 y, .int .i64 (-y), .int .i64 x, .int .i64 (-x), .int .i64 (-y), .int .i64 y, .int .i64 (-x)] 69) = w2 at *
  generalize w1.heap.size = nq at *
  have HQ := Lib.hid hq8
  clear hq8
  go_wp2_with fail
  refine (MO.out _).mono ?_
  rintro e w3 ⟨rfl, rfl⟩
  have y0 := HZ1.out.c0; have y1 := HZ1.out.c1; have y2 := HZ1.out.z 0; have y3 := HZ1.out.z 1
  have hq : q = 0 ∨ q = 1 ∨ q = 2 ∨ q = 3 := by omega
  have c0 := HQ.out.c0; have c1 := HQ.out.c1; have c2 := HQ.out.c2; have c3 := HQ.out.c3; have c4 := HQ.out.c4; have c5 := HQ.out.c5; have c6 := HQ.out.c6; have c7 := HQ.out.c7
  clear hq4
  rcases hq with rfl | rfl | rfl | rfl
  all_goals
    simp only [Int.cast_ofNat_Int]
    go_wp2_with fail
    exact pe_ret Try.results24 (HZ1.out.set _ _) (below_pt8 HB1.out (by omega) _ _) rfl
theorem len_34 : lenL 3 4 61 = (1729382256910270464, 2305843009213693952) := by decide +kernel
theorem hyp_34 : hypN 1729382256910270464 2305843009213693952 = 2882303761517117440 := isRoot_unique _ _ _ (hyp_is _ _ (by decide) (by decide)) (by unfold IsRoot; decide +kernel)
theorem of_34 : ofS 3 4 = ((644245094, 858993459), true) := by
  rw [ofS_yes ⟨by decide, by decide, by decide⟩, len_34]
  dsimp only
  rw [hyp_34]
  decide +kernel
set_option maxHeartbeats 1000000 in
set_option maxRecDepth 100000 in
theorem wakes9 (w : World) : Calls Try.prog 19 #[] w fun e w' => e = .returned (.bool true) ∧ Below w.heap.size w w' := by
  have A := Lib.hid (fun w => vof_any 3 4 w (by unfold I64; decide) (by unfold I64; decide))
  rw [of_34] at A
  unfold DOk at A
  dsimp only at A
  have T := Lib.hid (fun w => vturn_any 1073741824 0 1 w (by decide) (by decide))
  rw [show PtV (turnP ((1 : Int) % 4).toNat 1073741824 0) = .agg #[.int .i64 0, .int .i64 1073741824] from rfl] at T
  go_enter Try.func19, Try.ntmps19
  go_wp2_with fail
  refine (A.out _).mono ?_
  rintro e w1 ⟨rfl, b1⟩
  have P1 := Lib.hid (PBox.new w1 644245094 858993459)
  have B1 := Lib.hid (b1.alloc b1.size (.cells #[.int .i64 644245094, .int .i64 858993459] 25))
  clear b1
  go_upto_region 2 with fail
  generalize w1.alloc (.cells #[.int .i64 644245094, .int .i64 858993459] 25) = w2 at *
  have z0 := P1.out.c0; have z1 := P1.out.c1
  go_wp2_with fail
  refine (T.out _).mono ?_
  rintro e w3 ⟨rfl, b3⟩
  have B3 := Lib.hid (B1.out.trans (b3.mono B1.out.size))
  clear b3
  go_wp2_with fail
  go_ret
  exact ⟨rfl, B3.out⟩
end Go.Proofs.Ythnjdncnmdmjaaa
