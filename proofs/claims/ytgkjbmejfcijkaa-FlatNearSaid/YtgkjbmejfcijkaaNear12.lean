/-
  Layer 12's laws: each 16th of a flat curve of a picture is near its chord.
-/
import Derived.Test.YtgkjbmejfcijkaaLawNear12
namespace Go.Proofs.Ytgkjbmejfcijkaa
open Go.RowKit Go.Shelf

theorem w64 {z : Int} (h : -9223372036854775808 ≤ z ∧ z ≤ 9223372036854775807) : wrap64 z = z := by unfold wrap64; omega
theorem k64 {z : Int} (h : -9223372036854775808 ≤ z ∧ z ≤ 9223372036854775807) : IntKind.i64.wrap z = z := IntWalk.i64_in _ h
theorem near12_ok (c : Crv) (k : Nat) (hk : k < 16) (hB : c.inB 33554432) (hf : c.flat) :
    ∃ dx dy qx qy h N U V CR X Y AL h1 K KN h2 L, NearF c.px c.py c.sx c.sy (b4 c.px c.qx c.rx c.sx (4096 * (k : Int))) (b4 c.py c.qy c.ry c.sy (4096 * (k : Int))) dx dy qx qy h N U V CR X Y AL h1 K KN h2 L := by
  have kk : (0 : Int) ≤ 4096 * (k : Int) ∧ 4096 * (k : Int) ≤ 65536 := by omega
  obtain ⟨⟨a1, a2⟩, ⟨b1, b2⟩, ⟨c1, c2⟩, d1, d2⟩ := hB
  have hx := b4_in kk.1 kk.2 a1 b1 c1 d1
  have hy := b4_in kk.1 kk.2 a2 b2 c2 d2
  obtain ⟨f1, f2, f3, f4⟩ := hf
  have ox := off_one c.px c.qx c.rx c.sx k hk ⟨⟨f1.2, f1.1⟩, ⟨f3.2, f3.1⟩⟩
  have oy := off_one c.py c.qy c.ry c.sy k hk ⟨⟨f2.2, f2.1⟩, ⟨f4.2, f4.1⟩⟩
  unfold offL at ox oy
  obtain ⟨dx, hdx⟩ : ∃ d, d = c.sx - c.px := ⟨_, rfl⟩
  obtain ⟨dy, hdy⟩ : ∃ d, d = c.sy - c.py := ⟨_, rfl⟩
  obtain ⟨qx, hqx⟩ : ∃ d, d = b4 c.px c.qx c.rx c.sx (4096 * (k : Int)) - c.px := ⟨_, rfl⟩
  obtain ⟨qy, hqy⟩ : ∃ d, d = b4 c.py c.qy c.ry c.sy (4096 * (k : Int)) - c.py := ⟨_, rfl⟩
  rw [← hdx, ← hqx] at ox
  rw [← hdy, ← hqy] at oy
  have bdx : -67108864 ≤ dx ∧ dx ≤ 67108864 := by omega
  have bdy : -67108864 ≤ dy ∧ dy ≤ 67108864 := by omega
  have bqx : -67108864 ≤ qx ∧ qx ≤ 67108864 := by omega
  have bqy : -67108864 ≤ qy ∧ qy ≤ 67108864 := by omega
  obtain ⟨N, hN⟩ : ∃ N, N = dx.natAbs * dx.natAbs + dy.natAbs * dy.natAbs := ⟨_, rfl⟩
  have nx := Nat.mul_le_mul (show dx.natAbs ≤ 67108864 from by omega) (show dx.natAbs ≤ 67108864 from by omega)
  have ny := Nat.mul_le_mul (show dy.natAbs ≤ 67108864 from by omega) (show dy.natAbs ≤ 67108864 from by omega)
  have hr := rt_is N (by rw [hN]; omega)
  have hlt : rt N < 134217728 := by
    refine Nat.not_le.1 fun h => ?_
    have h2 := Nat.mul_le_mul h h
    have := hr.1
    omega
  have hsq : dx * dx + dy * dy < ((rt N : Nat) : Int) * 1 * 0 + (((rt N : Nat) : Int) + 1) * (((rt N : Nat) : Int) + 1) := by
    have h := hr.2
    have e1 := sq_nat dx
    have e2 := sq_nat dy
    have e3 : (((rt N : Nat) : Int) + 1) * (((rt N : Nat) : Int) + 1) = (((rt N + 1) * (rt N + 1) : Nat) : Int) := by rw [Int.natCast_mul, Int.natCast_add]; rfl
    rw [e1, e2, e3]
    omega
  have hsq' : dx * dx + dy * dy < (((rt N : Nat) : Int) + 1) * (((rt N : Nat) : Int) + 1) := by omega
  clear hsq hr
  have hn0 : (0 : Int) ≤ ((rt N : Nat) : Int) := by omega
  have hn1 : ((rt N : Nat) : Int) < 134217728 := by omega
  obtain ⟨h, hh⟩ : ∃ h : Int, h = ((rt N : Nat) : Int) := ⟨_, rfl⟩
  rw [← hh] at hsq' hn0 hn1
  have nl := near_line (k := (k : Int)) (px := qx) (py := qy) (by omega) (by omega) hn0 hsq' rfl rfl ox oy
  have np := fun h0 : h = 0 => near_point (k := (k : Int)) (px := qx) (py := qy) h0 hsq' rfl rfl ox oy
  have m1 := mul_bd bdx bqy (by decide) (by decide)
  have m2 := mul_bd bdy bqx (by decide) (by decide)
  have m3 := mul_bd bdx bqx (by decide) (by decide)
  have m4 := mul_bd bdy bqy (by decide) (by decide)
  have mL := mul_bd (x := h + 1025) (e := h + 1) (n := 134218753) (E := 134217728) (by omega) (by omega) (by decide) (by decide)
  obtain ⟨⟨l1, l2⟩, l3, l4⟩ := nl
  refine ⟨dx, dy, qx, qy, h, N, dx * qy, dy * qx, dx * qy - dy * qx, dx * qx, dy * qy, dx * qx + dy * qy, h + 1, 1024 * (h + 1), -(1024 * (h + 1)), h + 1025, (h + 1025) * (h + 1), ?_⟩
  exact {
    e1 := (k64 (z := c.sx - c.px) (by omega)).trans hdx.symm
    e2 := (k64 (z := c.sy - c.py) (by omega)).trans hdy.symm
    e3 := (k64 (z := b4 c.px c.qx c.rx c.sx (4096 * (k : Int)) - c.px) (by omega)).trans hqx.symm
    e4 := (k64 (z := b4 c.py c.qy c.ry c.sy (4096 * (k : Int)) - c.py) (by omega)).trans hqy.symm
    e5 := hh.symm
    e6 := w64 (z := h) (by omega)
    e7 := w64 (z := dx * qy) (by omega)
    e8 := w64 (z := dy * qx) (by omega)
    e9 := w64 (z := dx * qy - dy * qx) (by omega)
    e10 := w64 (z := dx * qx) (by omega)
    e11 := w64 (z := dy * qy) (by omega)
    e12 := w64 (z := dx * qx + dy * qy) (by omega)
    e13 := w64 (z := h + 1) (by omega)
    e14 := w64 (z := 1024 * (h + 1)) (by omega)
    e15 := (w64 (z := -1024 * (h + 1)) (by omega)).trans (by omega)
    e15b := w64 (z := -(1024 * (h + 1))) (by omega)
    e16 := w64 (z := h + 1025) (by omega)
    e17 := w64 (z := (h + 1025) * (h + 1)) (by omega)
    c1 := l2
    c2 := l1
    c3 := l3
    c4 := l4
    z := np
    n := hN
    i1 := by unfold I64; omega
    i2 := by unfold I64; omega }
theorem near12 (c : Crv) (k : Nat) (hk : k < 16) (hB : c.inB 33554432) (hf : c.flat) (w : World) :
    Calls Try.prog 19 #[.agg #[.int .i64 c.px, .int .i64 c.py], .agg #[.int .i64 c.sx, .int .i64 c.sy], .agg #[.int .i64 (c.at (4096 * (k : Int))).1, .int .i64 (c.at (4096 * (k : Int))).2]] w fun e w' => e = .returned (.bool true) ∧ Below w.heap.size w w' := by
  obtain ⟨_, _, _, _, _, _, _, _, _, _, _, _, _, _, _, _, _, F⟩ := near12_ok c k hk hB hf
  exact near_walk F w
end Go.Proofs.Ytgkjbmejfcijkaa
