/-
  Package affine: begin. (Typed by a program.)
-/
import Derived.Test.YtmchompeciikdaaAffCatch
import Derived.Test.YtmchompeciikdaaAffAllM
namespace Go.Proofs.Ytmchompeciikdaa
open Go.RowKit Go.Shelf

set_option maxHeartbeats 1000000 in
theorem begin_S_ok (p q : Addr) (l : List Pt) (w : World) (HK : ∀ w1, Below w.heap.size w w1 → Calls Try.prog 26 #[.pointer (some p), .pointer (some q)] w1 fun e w' => ∃ v, e = .returned v ∧ Pts w1.heap.size v l w' ∧ Below w1.heap.size w1 w') :
    Calls Try.prog 25 #[.func (Fn.func 26) #[] #[.pointer (some p), .pointer (some q)]] w fun e w' => ∃ v, e = .returned (.tuple #[v, .int .i64 0]) ∧ Pts w.heap.size v l w' ∧ Below w.heap.size w w' := by
  have HC := Lib.hid HK
  clear HK
  have hmf : ∀ (fn : Fn) (first cap : Array Value) (w : World), (Instr.makeFunc fn first cap).run Try.prog w = .ok (.func fn first cap) w := fun _ _ _ _ => rfl
  have hb0 := Below.refl w.heap.size w
  go_enter_defers Try.func25, Try.ntmps25
  go_wp2_with fail
  have al := (Below.refl w.heap.size w).alloc (Nat.le_refl _) (.cells #[.int .i64 0] 27)
  have hb1 := hb0.alloc hb0.size (.cells #[.int .i64 0] 27)
  have he1 := EBox.new w 0
  clear al hb0
  generalize w.alloc (.cells #[.int .i64 0] 27) = wb at *
  refine (HC.out _ hb1).mono ?_
  rintro e w2 ⟨v, rfl, hv, b2⟩
  have hb2 := hb1.trans (b2.mono hb1.size)
  have he2 := he1.next b2
  have le := he1.lt
  clear b2 HC hb1 he1
  have e0 := he2.c0
  have g0 := he2.z 0
  go_wp2_with fail
  clear e0 g0  hmf
  have he3 := EBox.set he2 0
  have hv3 := hv.set (q := w.heap.size) le 0 (.int .i64 0)
  have hb3 := hb2.setCell (p := ⟨w.heap.size, 0, none⟩) (by simp) (.int .i64 0)
  generalize w2.setCell ⟨w.heap.size, 0, none⟩ (.int .i64 0) = w3 at *
  have e0 := he3.c0
  refine leaves_cons (f := 33) (args := #[.pointer (some ⟨w.heap.size, 0, none⟩)]) (by simp) (by simp [go_sem]) ?_
  refine (catch_none_S ⟨w.heap.size, 0, none⟩ _).mono ?_
  rintro e u' w'' ⟨rfl, rfl, rfl⟩
  exact ⟨.tuple #[v, .int .i64 0], by simp [results, Try.results25, go_sem, e0], v, rfl, hv3.lower (by omega), hb3⟩
set_option maxHeartbeats 1000000 in
theorem begin_S_no (p q : Addr) (z : Int) (w : World) (HK : ∀ w1, Below w.heap.size w w1 → Calls Try.prog 26 #[.pointer (some p), .pointer (some q)] w1 fun e w' => e = .panicked [{ v := .iface 27 (.int .i64 z), recovered := false }] ∧ Below w1.heap.size w1 w') :
    Calls Try.prog 25 #[.func (Fn.func 26) #[] #[.pointer (some p), .pointer (some q)]] w fun e w' => e = .returned (.tuple #[.slice none 0 0, .int .i64 z]) ∧ Below w.heap.size w w' := by
  have HC := Lib.hid HK
  clear HK
  have hmf : ∀ (fn : Fn) (first cap : Array Value) (w : World), (Instr.makeFunc fn first cap).run Try.prog w = .ok (.func fn first cap) w := fun _ _ _ _ => rfl
  have hb0 := Below.refl w.heap.size w
  go_enter_defers Try.func25, Try.ntmps25
  go_wp2_with fail
  have al := (Below.refl w.heap.size w).alloc (Nat.le_refl _) (.cells #[.int .i64 0] 27)
  have hb1 := hb0.alloc hb0.size (.cells #[.int .i64 0] 27)
  have he1 := EBox.new w 0
  clear al hb0
  generalize w.alloc (.cells #[.int .i64 0] 27) = wb at *
  refine (HC.out _ hb1).mono ?_
  rintro e w2 ⟨rfl, b2⟩
  have hb2 := hb1.trans (b2.mono hb1.size)
  have he2 := he1.next b2
  have le := he1.lt
  clear b2 HC hb1 he1
  have e0 := he2.c0
  have g0 := he2.z 0
  go_wp2_with fail
  refine leaves_cons (f := 33) (args := #[.pointer (some ⟨w.heap.size, 0, none⟩)]) (by simp) (by simp [go_sem]) ?_
  refine (catch_some_S ⟨w.heap.size, 0, none⟩ 0 z [] _ e0 g0).mono ?_
  clear e0 g0  hmf
  rintro e u' w'' ⟨rfl, rfl, rfl⟩
  have he3 := he2.set z
  have hb3 := hb2.setCell (p := ⟨w.heap.size, 0, none⟩) (by simp) (.int .i64 z)
  generalize w2.setCell ⟨w.heap.size, 0, none⟩ (.int .i64 z) = w3 at *
  have e0 := he3.c0
  exact ⟨.tuple #[.slice none 0 0, .int .i64 z], by simp [results, Try.results25, go_sem, e0], rfl, hb3⟩
end Go.Proofs.Ytmchompeciikdaa
