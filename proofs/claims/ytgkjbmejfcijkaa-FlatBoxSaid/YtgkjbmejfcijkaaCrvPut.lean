/-
  Package curve: put, by whatever function puts two numbers together. (Typed by a program: wip/gen_crv2.py.)
-/
import Derived.Test.YtgkjbmejfcijkaaCrvFn
namespace Go.Proofs.Ytgkjbmejfcijkaa
open Go.RowKit Go.Shelf

/-- A function value that puts two numbers of a right curve together: m of them; J is what it asks of the world, and keeps, as long as the blocks below K stay. -/
structure How (g : Nat) (lb : Array Value) (K : Nat) (J : World → Prop) (m : Int → Int → Int) : Prop where
  enter : ∀ args w, (callFunc g args).run Try.prog w = .ok (.enter g args) w
  call : ∀ a b w, In40 a → In40 b → J w → Calls Try.prog g (#[.int .i64 a, .int .i64 b] ++ lb) w fun e w' => e = .returned (.int .i64 (m a b)) ∧ Below w.heap.size w w'
  next : ∀ B w w', K ≤ B → J w → Below B w w' → J w'
  inn : ∀ a b, In40 a → In40 b → In40 (m a b)
set_option maxHeartbeats 4000000 in
set_option maxRecDepth 100000 in
theorem put11 {g : Nat} {lb : Array Value} {K : Nat} {J : World → Prop} {m : Int → Int → Int} (hw : How g lb K J m) (ax ay bx by' : Int) (w : World) (hax : In40 ax) (hay : In40 ay) (hbx : In40 bx) (hby : In40 by') (hK : K ≤ w.heap.size) (hJ : J w) :
    Calls Try.prog 54 #[.agg #[.int .i64 ax, .int .i64 ay], .agg #[.int .i64 bx, .int .i64 by'], .func (.func g) #[] lb] w fun e w' => e = .returned (.agg #[.int .i64 (m ax bx), .int .i64 (m ay by')]) ∧ Below w.heap.size w w' := by
  have S1 : Hid (∀ w' : World, Below w.heap.size w w' → Calls Try.prog g (#[.int .i64 ax, .int .i64 bx] ++ lb) w' fun e w2 => e = .returned (.int .i64 (m ax bx)) ∧ Below w'.heap.size w' w2) := Lib.hid (fun w' b => hw.call ax bx w' hax hbx (hw.next _ _ _ hK hJ b))
  have S2 : Hid (∀ w' : World, Below w.heap.size w w' → Calls Try.prog g (#[.int .i64 ay, .int .i64 by'] ++ lb) w' fun e w2 => e = .returned (.int .i64 (m ay by')) ∧ Below w'.heap.size w' w2) := Lib.hid (fun w' b => hw.call ay by' w' hay hby (hw.next _ _ _ hK hJ b))
  have ef := hw.enter
  generalize m ax bx = X at *
  generalize m ay by' = Y at *
  clear hw hax hay hbx hby hK hJ
  obtain ⟨k1, k2, k3, k4⟩ := boxes_three w #[.int .i64 ax, .int .i64 ay] #[.int .i64 bx, .int .i64 by'] #[.int .i64 0, .int .i64 0] 23 23 23
  have HP0 := Lib.hid k1; have HQ0 := Lib.hid k2; have HZ0 := Lib.hid k3; have HB0 := Lib.hid k4
  clear k1 k2 k3 k4
  go_enter Try.func54, Try.ntmps54
  go_upto_region 1 with fail
  generalize (((w.alloc (.cells #[.int .i64 ax, .int .i64 ay] 23)).alloc (.cells #[.int .i64 bx, .int .i64 by'] 23)).alloc (.cells #[.int .i64 0, .int .i64 0] 23)) = w1 at *
  have xP0 : w1.cell? ⟨w.heap.size, 0, none⟩ = some (.int .i64 ax) := HP0.out.c 0 rfl
  have xP1 : w1.cell? ⟨w.heap.size, 1, none⟩ = some (.int .i64 ay) := HP0.out.c 1 rfl
  have xQ0 : w1.cell? ⟨w.heap.size + 1, 0, none⟩ = some (.int .i64 bx) := HQ0.out.c 0 rfl
  have xQ1 : w1.cell? ⟨w.heap.size + 1, 1, none⟩ = some (.int .i64 by') := HQ0.out.c 1 rfl
  have HBz := Lib.hid (Below.refl w1.heap.size w1)
  have HBd := Lib.hid HBz.out.drew
  go_region_held3 (fun w' => w'.cell? ⟨w.heap.size, 0, none⟩ = some (.int .i64 ax) ∧ w'.cell? ⟨w.heap.size, 1, none⟩ = some (.int .i64 ay) ∧ w'.cell? ⟨w.heap.size + 1, 0, none⟩ = some (.int .i64 bx) ∧ w'.cell? ⟨w.heap.size + 1, 1, none⟩ = some (.int .i64 by')) (first | (refine ⟨?_, ?_, ?_, ?_⟩ <;> first | with_reducible assumption) | (simp [go_sem, *]; done))
    (first
    | ((with_reducible refine (S1.out _ (HB0.out.trans (HBd.out.mono HB0.out.size))).mono ?_); rintro e v1 ⟨rfl, bc1⟩; have HBc1 := Lib.hid (HBd.out.trans (bc1.mono HBd.out.size)); clear xP0 xP1 xQ0 xQ1; have hP_ := HP0.out.next HBc1.out; have xP0 : v1.cell? ⟨w.heap.size, 0, none⟩ = some (.int .i64 ax) := hP_.c 0 rfl; have xP1 : v1.cell? ⟨w.heap.size, 1, none⟩ = some (.int .i64 ay) := hP_.c 1 rfl; clear hP_; have hQ_ := HQ0.out.next HBc1.out; have xQ0 : v1.cell? ⟨w.heap.size + 1, 0, none⟩ = some (.int .i64 bx) := hQ_.c 0 rfl; have xQ1 : v1.cell? ⟨w.heap.size + 1, 1, none⟩ = some (.int .i64 by') := hQ_.c 1 rfl; clear hQ_; clear bc1)
    | ((with_reducible refine (S2.out _ (HB0.out.trans (HBc1.out.mono HB0.out.size))).mono ?_); rintro e v2 ⟨rfl, bc2⟩; have HBc2 := Lib.hid (HBc1.out.trans (bc2.mono HBc1.out.size)); clear xP0 xP1 xQ0 xQ1; have hP_ := HP0.out.next HBc2.out; have xP0 : v2.cell? ⟨w.heap.size, 0, none⟩ = some (.int .i64 ax) := hP_.c 0 rfl; have xP1 : v2.cell? ⟨w.heap.size, 1, none⟩ = some (.int .i64 ay) := hP_.c 1 rfl; clear hP_; have hQ_ := HQ0.out.next HBc2.out; have xQ0 : v2.cell? ⟨w.heap.size + 1, 0, none⟩ = some (.int .i64 bx) := hQ_.c 0 rfl; have xQ1 : v2.cell? ⟨w.heap.size + 1, 1, none⟩ = some (.int .i64 by') := hQ_.c 1 rfl; clear hQ_; have hZ_ := HZ0.out.next HBc2.out; have uZ0 : v2.cell? ⟨w.heap.size + 1 + 1, 0, none⟩ = some (.int .i64 0) := hZ_.c 0 rfl; have rZ0 := hZ_.z 0; have uZ1 : v2.cell? ⟨w.heap.size + 1 + 1, 1, none⟩ = some (.int .i64 0) := hZ_.c 1 rfl; have rZ1 := hZ_.z 1; clear hZ_; clear bc2)
    )
  clear xP0 xP1 xQ0 xQ1
  clear uZ0 rZ0 uZ1 rZ1
  have HB2 := Lib.hid (HB0.out.trans (HBc2.out.mono HB0.out.size))
  have HZ2 := Lib.hid (HZ0.out.next HBc2.out)
  go_wp2_with fail
  exact pe_ret Try.results54 (PBox.set HZ2.out _ _) (below_pt8 HB2.out (by omega) _ _) rfl
end Go.Proofs.Ytgkjbmejfcijkaa
