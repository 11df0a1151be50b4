/-
  Package affine: begin. (Typed by a program.)
-/
import Derived.Test.YthnjdncnmdmjaaaAffCatch
namespace Go.Proofs.Ythnjdncnmdmjaaa
open Go.RowKit Go.Shelf

set_option maxHeartbeats 1000000 in
theorem begin_P_ok (p q : Addr) (x y : Int) (w : World) (HK : ∀ w1, Below w.heap.size w w1 → Calls Try.prog 35 #[.pointer (some p), .pointer (some q)] w1 fun e w' => e = .returned (.agg #[.int .i64 x, .int .i64 y]) ∧ Below w1.heap.size w1 w') :
    Calls Try.prog 34 #[.func (Fn.func 35) #[] #[.pointer (some p), .pointer (some q)]] w fun e w' => e = .returned (.tuple #[.agg #[.int .i64 x, .int .i64 y], .int .i64 0]) ∧ Below w.heap.size w w' := by
  have HC := Lib.hid HK
  clear HK
  have hmf : ∀ (fn : Fn) (first cap : Array Value) (w : World), (Instr.makeFunc fn first cap).run Try.prog w = .ok (.func fn first cap) w := fun _ _ _ _ => rfl
  have hb0 := (Below.refl w.heap.size w).alloc (Nat.le_refl _) (.cells #[.int .i64 0, .int .i64 0] 25)
  have hn0 : PBox w.heap.size 0 0 (w.alloc (.cells #[.int .i64 0, .int .i64 0] 25)) := World.alloc_heap_new w _
  have hs0 : (w.alloc (.cells #[.int .i64 0, .int .i64 0] 25)).heap.size = w.heap.size + 1 := by simp
  go_enter_defers Try.func34, Try.ntmps34
  go_wp2_with fail
  generalize w.alloc (.cells #[.int .i64 0, .int .i64 0] 25) = wa at *
  have al := (Below.refl wa.heap.size wa).alloc (Nat.le_refl _) (.cells #[.int .i64 0] 27)
  have hb1 := hb0.alloc hb0.size (.cells #[.int .i64 0] 27)
  have he1 := EBox.new wa 0
  have hn1 := hn0.next al
  rw [hs0] at he1
  clear al hb0 hn0 hs0
  generalize wa.alloc (.cells #[.int .i64 0] 27) = wb at *
  refine (HC.out _ hb1).mono ?_
  rintro e w2 ⟨rfl, b2⟩
  have hb2 := hb1.trans (b2.mono hb1.size)
  have he2 := he1.next b2
  have le := he1.lt
  have hn2 := hn1.next b2
  clear b2 HC hb1 he1 hn1
  have e0 := he2.c0
  have g0 := he2.z 0
  have c0 := hn2.c0
  have f0 := hn2.z 0
  have c1 := hn2.c1
  have f1 := hn2.z 1
  go_wp2_with fail
  clear e0 g0 c0 f0 c1 f1 hmf
  have he3 := EBox.set ((he2.other (q := w.heap.size) (by omega) 0 (.int .i64 x)).other (q := w.heap.size) (by omega) 1 (.int .i64 y)) 0
  have hn3 := (hn2.set x y).other (q := w.heap.size + 1) (by omega) 0 (.int .i64 0)
  have hb3 := ((hb2.setCell (p := ⟨w.heap.size, 0, none⟩) (Nat.le_refl _) (.int .i64 x)).setCell (p := ⟨w.heap.size, 1, none⟩) (Nat.le_refl _) (.int .i64 y)).setCell (p := ⟨w.heap.size + 1, 0, none⟩) (by simp) (.int .i64 0)
  generalize ((w2.setCell ⟨w.heap.size, 0, none⟩ (.int .i64 x)).setCell ⟨w.heap.size, 1, none⟩ (.int .i64 y)).setCell ⟨w.heap.size + 1, 0, none⟩ (.int .i64 0) = w3 at *
  have e0 := he3.c0
  have c0 := hn3.c0
  have c1 := hn3.c1
  refine leaves_cons (f := 56) (args := #[.pointer (some ⟨w.heap.size + 1, 0, none⟩)]) (by simp) (by simp [go_sem]) ?_
  refine (catch_none_P ⟨w.heap.size + 1, 0, none⟩ _).mono ?_
  rintro e u' w'' ⟨rfl, rfl, rfl⟩
  exact ⟨.tuple #[.agg #[.int .i64 x, .int .i64 y], .int .i64 0], by simp [results, Try.results34, go_sem, e0, c0, c1], rfl, hb3⟩
set_option maxHeartbeats 1000000 in
theorem begin_P_no (p q : Addr) (z : Int) (w : World) (HK : ∀ w1, Below w.heap.size w w1 → Calls Try.prog 35 #[.pointer (some p), .pointer (some q)] w1 fun e w' => e = .panicked [{ v := .iface 27 (.int .i64 z), recovered := false }] ∧ Below w1.heap.size w1 w') :
    Calls Try.prog 34 #[.func (Fn.func 35) #[] #[.pointer (some p), .pointer (some q)]] w fun e w' => e = .returned (.tuple #[.agg #[.int .i64 0, .int .i64 0], .int .i64 z]) ∧ Below w.heap.size w w' := by
  have HC := Lib.hid HK
  clear HK
  have hmf : ∀ (fn : Fn) (first cap : Array Value) (w : World), (Instr.makeFunc fn first cap).run Try.prog w = .ok (.func fn first cap) w := fun _ _ _ _ => rfl
  have hb0 := (Below.refl w.heap.size w).alloc (Nat.le_refl _) (.cells #[.int .i64 0, .int .i64 0] 25)
  have hn0 : PBox w.heap.size 0 0 (w.alloc (.cells #[.int .i64 0, .int .i64 0] 25)) := World.alloc_heap_new w _
  have hs0 : (w.alloc (.cells #[.int .i64 0, .int .i64 0] 25)).heap.size = w.heap.size + 1 := by simp
  go_enter_defers Try.func34, Try.ntmps34
  go_wp2_with fail
  generalize w.alloc (.cells #[.int .i64 0, .int .i64 0] 25) = wa at *
  have al := (Below.refl wa.heap.size wa).alloc (Nat.le_refl _) (.cells #[.int .i64 0] 27)
  have hb1 := hb0.alloc hb0.size (.cells #[.int .i64 0] 27)
  have he1 := EBox.new wa 0
  have hn1 := hn0.next al
  rw [hs0] at he1
  clear al hb0 hn0 hs0
  generalize wa.alloc (.cells #[.int .i64 0] 27) = wb at *
  refine (HC.out _ hb1).mono ?_
  rintro e w2 ⟨rfl, b2⟩
  have hb2 := hb1.trans (b2.mono hb1.size)
  have he2 := he1.next b2
  have le := he1.lt
  have hn2 := hn1.next b2
  clear b2 HC hb1 he1 hn1
  have e0 := he2.c0
  have g0 := he2.z 0
  have c0 := hn2.c0
  have f0 := hn2.z 0
  have c1 := hn2.c1
  have f1 := hn2.z 1
  go_wp2_with fail
  refine leaves_cons (f := 56) (args := #[.pointer (some ⟨w.heap.size + 1, 0, none⟩)]) (by simp) (by simp [go_sem]) ?_
  refine (catch_some_P ⟨w.heap.size + 1, 0, none⟩ 0 z [] _ e0 g0).mono ?_
  clear e0 g0 c0 f0 c1 f1 hmf
  rintro e u' w'' ⟨rfl, rfl, rfl⟩
  have he3 := he2.set z
  have hn3 := hn2.other (q := w.heap.size + 1) (by omega) 0 (.int .i64 z)
  have hb3 := hb2.setCell (p := ⟨w.heap.size + 1, 0, none⟩) (by simp) (.int .i64 z)
  generalize w2.setCell ⟨w.heap.size + 1, 0, none⟩ (.int .i64 z) = w3 at *
  have e0 := he3.c0
  have c0 := hn3.c0
  have c1 := hn3.c1
  exact ⟨.tuple #[.agg #[.int .i64 0, .int .i64 0], .int .i64 z], by simp [results, Try.results34, go_sem, e0, c0, c1], rfl, hb3⟩
end Go.Proofs.Ythnjdncnmdmjaaa
