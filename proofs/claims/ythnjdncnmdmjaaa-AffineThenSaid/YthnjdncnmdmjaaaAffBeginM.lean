/-
  Package affine: begin. (Typed by a program.)
-/
import Derived.Test.YthnjdncnmdmjaaaAffCatch
namespace Go.Proofs.Ythnjdncnmdmjaaa
open Go.RowKit Go.Shelf

set_option maxHeartbeats 1000000 in
theorem begin_M_ok (p q : Addr) (x0 x1 x2 x3 x4 x5 : Int) (w : World) (HK : ∀ w1, Below w.heap.size w w1 → Calls Try.prog 41 #[.pointer (some p), .pointer (some q)] w1 fun e w' => e = .returned (.agg #[.int .i64 x0, .int .i64 x1, .int .i64 x2, .int .i64 x3, .int .i64 x4, .int .i64 x5]) ∧ Below w1.heap.size w1 w') :
    Calls Try.prog 40 #[.func (Fn.func 41) #[] #[.pointer (some p), .pointer (some q)]] w fun e w' => e = .returned (.tuple #[.agg #[.int .i64 x0, .int .i64 x1, .int .i64 x2, .int .i64 x3, .int .i64 x4, .int .i64 x5], .int .i64 0]) ∧ Below w.heap.size w w' := by
  have HC := Lib.hid HK
  clear HK
  have hmf : ∀ (fn : Fn) (first cap : Array Value) (w : World), (Instr.makeFunc fn first cap).run Try.prog w = .ok (.func fn first cap) w := fun _ _ _ _ => rfl
  have hb0 := (Below.refl w.heap.size w).alloc (Nat.le_refl _) (.cells #[.int .i64 0, .int .i64 0, .int .i64 0, .int .i64 0, .int .i64 0, .int .i64 0] 23)
  have hn0 : MBox w.heap.size ⟨0, 0, 0, 0, 0, 0⟩ (w.alloc (.cells #[.int .i64 0, .int .i64 0, .int .i64 0, .int .i64 0, .int .i64 0, .int .i64 0] 23)) := World.alloc_heap_new w _
  have hs0 : (w.alloc (.cells #[.int .i64 0, .int .i64 0, .int .i64 0, .int .i64 0, .int .i64 0, .int .i64 0] 23)).heap.size = w.heap.size + 1 := by simp
  go_enter_defers Try.func40, Try.ntmps40
  go_wp2_with fail
  generalize w.alloc (.cells #[.int .i64 0, .int .i64 0, .int .i64 0, .int .i64 0, .int .i64 0, .int .i64 0] 23) = wa at *
  have al := (Below.refl wa.heap.size wa).alloc (Nat.le_refl _) (.cells #[.int .i64 0] 27)
  have hb1 := hb0.alloc hb0.size (.cells #[.int .i64 0] 27)
  have he1 := EBox.new wa 0
  have hn1 := hn0.next al
  rw [hs0] at he1
  clear al hb0 hn0 hs0
  generalize wa.alloc (.cells #[.int .i64 0] 27) = wb at *
  refine (HC.out _ hb1).mono ?_
  rintro e w2 ⟨rfl, b2⟩
  have hb2 := hb1.trans (b2.mono hb1.size)
  have he2 := he1.next b2
  have le := he1.lt
  have hn2 := hn1.next b2
  clear b2 HC hb1 he1 hn1
  have e0 := he2.c0
  have g0 := he2.z 0
  have c0 := hn2.c0
  have f0 := hn2.z 0
  have c1 := hn2.c1
  have f1 := hn2.z 1
  have c2 := hn2.c2
  have f2 := hn2.z 2
  have c3 := hn2.c3
  have f3 := hn2.z 3
  have c4 := hn2.c4
  have f4 := hn2.z 4
  have c5 := hn2.c5
  have f5 := hn2.z 5
  go_wp2_with fail
  clear e0 g0 c0 f0 c1 f1 c2 f2 c3 f3 c4 f4 c5 f5 hmf
  have he3 := EBox.set ((((((he2.other (q := w.heap.size) (by omega) 0 (.int .i64 x0)).other (q := w.heap.size) (by omega) 1 (.int .i64 x1)).other (q := w.heap.size) (by omega) 2 (.int .i64 x2)).other (q := w.heap.size) (by omega) 3 (.int .i64 x3)).other (q := w.heap.size) (by omega) 4 (.int .i64 x4)).other (q := w.heap.size) (by omega) 5 (.int .i64 x5)) 0
  have hn3 := (hn2.set x0 x1 x2 x3 x4 x5).other (q := w.heap.size + 1) (by omega) 0 (.int .i64 0)
  have hb3 := ((((((hb2.setCell (p := ⟨w.heap.size, 0, none⟩) (Nat.le_refl _) (.int .i64 x0)).setCell (p := ⟨w.heap.size, 1, none⟩) (Nat.le_refl _) (.int .i64 x1)).setCell (p := ⟨w.heap.size, 2, none⟩) (Nat.le_refl _) (.int .i64 x2)).setCell (p := ⟨w.heap.size, 3, none⟩) (Nat.le_refl _) (.int .i64 x3)).setCell (p := ⟨w.heap.size, 4, none⟩) (Nat.le_refl _) (.int .i64 x4)).setCell (p := ⟨w.heap.size, 5, none⟩) (Nat.le_refl _) (.int .i64 x5)).setCell (p := ⟨w.heap.size + 1, 0, none⟩) (by simp) (.int .i64 0)
  generalize ((((((w2.setCell ⟨w.heap.size, 0, none⟩ (.int .i64 x0)).setCell ⟨w.heap.size, 1, none⟩ (.int .i64 x1)).setCell ⟨w.heap.size, 2, none⟩ (.int .i64 x2)).setCell ⟨w.heap.size, 3, none⟩ (.int .i64 x3)).setCell ⟨w.heap.size, 4, none⟩ (.int .i64 x4)).setCell ⟨w.heap.size, 5, none⟩ (.int .i64 x5)).setCell ⟨w.heap.size + 1, 0, none⟩ (.int .i64 0) = w3 at *
  have e0 := he3.c0
  have c0 := hn3.c0
  have c1 := hn3.c1
  have c2 := hn3.c2
  have c3 := hn3.c3
  have c4 := hn3.c4
  have c5 := hn3.c5
  refine leaves_cons (f := 58) (args := #[.pointer (some ⟨w.heap.size + 1, 0, none⟩)]) (by simp) (by simp [go_sem]) ?_
  refine (catch_none_M ⟨w.heap.size + 1, 0, none⟩ _).mono ?_
  rintro e u' w'' ⟨rfl, rfl, rfl⟩
  exact ⟨.tuple #[.agg #[.int .i64 x0, .int .i64 x1, .int .i64 x2, .int .i64 x3, .int .i64 x4, .int .i64 x5], .int .i64 0], by simp [results, Try.results40, go_sem, e0, c0, c1, c2, c3, c4, c5], rfl, hb3⟩
set_option maxHeartbeats 1000000 in
theorem begin_M_no (p q : Addr) (z : Int) (w : World) (HK : ∀ w1, Below w.heap.size w w1 → Calls Try.prog 41 #[.pointer (some p), .pointer (some q)] w1 fun e w' => e = .panicked [{ v := .iface 27 (.int .i64 z), recovered := false }] ∧ Below w1.heap.size w1 w') :
    Calls Try.prog 40 #[.func (Fn.func 41) #[] #[.pointer (some p), .pointer (some q)]] w fun e w' => e = .returned (.tuple #[.agg #[.int .i64 0, .int .i64 0, .int .i64 0, .int .i64 0, .int .i64 0, .int .i64 0], .int .i64 z]) ∧ Below w.heap.size w w' := by
  have HC := Lib.hid HK
  clear HK
  have hmf : ∀ (fn : Fn) (first cap : Array Value) (w : World), (Instr.makeFunc fn first cap).run Try.prog w = .ok (.func fn first cap) w := fun _ _ _ _ => rfl
  have hb0 := (Below.refl w.heap.size w).alloc (Nat.le_refl _) (.cells #[.int .i64 0, .int .i64 0, .int .i64 0, .int .i64 0, .int .i64 0, .int .i64 0] 23)
  have hn0 : MBox w.heap.size ⟨0, 0, 0, 0, 0, 0⟩ (w.alloc (.cells #[.int .i64 0, .int .i64 0, .int .i64 0, .int .i64 0, .int .i64 0, .int .i64 0] 23)) := World.alloc_heap_new w _
  have hs0 : (w.alloc (.cells #[.int .i64 0, .int .i64 0, .int .i64 0, .int .i64 0, .int .i64 0, .int .i64 0] 23)).heap.size = w.heap.size + 1 := by simp
  go_enter_defers Try.func40, Try.ntmps40
  go_wp2_with fail
  generalize w.alloc (.cells #[.int .i64 0, .int .i64 0, .int .i64 0, .int .i64 0, .int .i64 0, .int .i64 0] 23) = wa at *
  have al := (Below.refl wa.heap.size wa).alloc (Nat.le_refl _) (.cells #[.int .i64 0] 27)
  have hb1 := hb0.alloc hb0.size (.cells #[.int .i64 0] 27)
  have he1 := EBox.new wa 0
  have hn1 := hn0.next al
  rw [hs0] at he1
  clear al hb0 hn0 hs0
  generalize wa.alloc (.cells #[.int .i64 0] 27) = wb at *
  refine (HC.out _ hb1).mono ?_
  rintro e w2 ⟨rfl, b2⟩
  have hb2 := hb1.trans (b2.mono hb1.size)
  have he2 := he1.next b2
  have le := he1.lt
  have hn2 := hn1.next b2
  clear b2 HC hb1 he1 hn1
  have e0 := he2.c0
  have g0 := he2.z 0
  have c0 := hn2.c0
  have f0 := hn2.z 0
  have c1 := hn2.c1
  have f1 := hn2.z 1
  have c2 := hn2.c2
  have f2 := hn2.z 2
  have c3 := hn2.c3
  have f3 := hn2.z 3
  have c4 := hn2.c4
  have f4 := hn2.z 4
  have c5 := hn2.c5
  have f5 := hn2.z 5
  go_wp2_with fail
  refine leaves_cons (f := 58) (args := #[.pointer (some ⟨w.heap.size + 1, 0, none⟩)]) (by simp) (by simp [go_sem]) ?_
  refine (catch_some_M ⟨w.heap.size + 1, 0, none⟩ 0 z [] _ e0 g0).mono ?_
  clear e0 g0 c0 f0 c1 f1 c2 f2 c3 f3 c4 f4 c5 f5 hmf
  rintro e u' w'' ⟨rfl, rfl, rfl⟩
  have he3 := he2.set z
  have hn3 := hn2.other (q := w.heap.size + 1) (by omega) 0 (.int .i64 z)
  have hb3 := hb2.setCell (p := ⟨w.heap.size + 1, 0, none⟩) (by simp) (.int .i64 z)
  generalize w2.setCell ⟨w.heap.size + 1, 0, none⟩ (.int .i64 z) = w3 at *
  have e0 := he3.c0
  have c0 := hn3.c0
  have c1 := hn3.c1
  have c2 := hn3.c2
  have c3 := hn3.c3
  have c4 := hn3.c4
  have c5 := hn3.c5
  exact ⟨.tuple #[.agg #[.int .i64 0, .int .i64 0, .int .i64 0, .int .i64 0, .int .i64 0, .int .i64 0], .int .i64 z], by simp [results, Try.results40, go_sem, e0, c0, c1, c2, c3, c4, c5], rfl, hb3⟩
end Go.Proofs.Ythnjdncnmdmjaaa
