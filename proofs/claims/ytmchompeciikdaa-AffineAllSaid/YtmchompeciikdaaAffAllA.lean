/-
  Package affine: All, its answer.
-/
import Derived.Test.YtmchompeciikdaaAffAll
import Derived.Test.YtmchompeciikdaaAffAllP
import Derived.Test.YtmchompeciikdaaAffBeginS
namespace Go.Proofs.Ytmchompeciikdaa
open Go.RowKit Go.Shelf

set_option maxHeartbeats 4000000 in
set_option maxRecDepth 100000 in
theorem aall8 (m : Mtx) (a : Option Addr) (l : List Pt) (cap : Nat) (w : World) (rd : RdP a l w) (i : MI64 m) (hl : ∀ g ∈ l, I64 g.1 ∧ I64 g.2) (hn : l.length ≤ 1000) :
    Calls Try.prog 15 #[m.val, .slice a l.length cap] w (AllP m l w) := by
  have hmf : ∀ (fn : Fn) (first cap : Array Value) (w : World), (Instr.makeFunc fn first cap).run Try.prog w = .ok (.func fn first cap) w := fun _ _ _ _ => rfl
  have b1 := (Below.refl w.heap.size w).alloc (Nat.le_refl _) (.cells m.cells 23)
  have m1 := MBox.new w m
  have r1 := rd.next b1
  generalize hA : w.alloc (.cells m.cells 23) = A at *
  have sA : A.heap.size = w.heap.size + 1 := by rw [← hA]; simp
  have b2 := (Below.refl A.heap.size A).alloc (Nat.le_refl _) (.cells #[.slice a l.length cap] 36)
  have p2 := SBox.new A (.slice a l.length cap)
  rw [sA] at p2
  have m2 := m1.next b2
  have r2 := r1.next b2
  have hb := b1.trans (b2.mono b1.size)
  have BG : Hid (∀ w1 : World, MBox w.heap.size m w1 → SBox (w.heap.size + 1) (.slice a l.length cap) w1 → RdP a l w1 → Calls Try.prog 25 #[.func (Fn.func 26) #[] #[.pointer (some ⟨w.heap.size, 0, none⟩), .pointer (some ⟨w.heap.size + 1, 0, none⟩)]] w1 fun e w' => ∃ v, e = .returned (.tuple #[v, .int .i64 (allA m l).2]) ∧ Pts w1.heap.size v (allA m l).1 w' ∧ Below w1.heap.size w1 w') := Lib.hid (by
    intro w1 h1 h2 h3
    have hz := all_zero m l
    have K := fun (w2 : World) (b : Below w1.heap.size w1 w2) => clos_S w.heap.size (w.heap.size + 1) m a l cap w2 (h1.next b) (h2.next b) (h3.next b) i hl hn
    unfold AllPost at K
    generalize allA m l = R at *
    obtain ⟨L, z⟩ := R
    dsimp only at K hz ⊢
    by_cases h0 : z = 0
    · subst h0
      exact begin_S_ok _ _ L w1 (fun w2 b => (K w2 b).mono (fun e w' h => by obtain ⟨v, e1, hv⟩ := h.1 rfl; exact ⟨v, e1, hv, h.2.2⟩))
    · obtain rfl : L = [] := hz h0
      exact (begin_S_no _ _ z w1 (fun w2 b => (K w2 b).mono (fun e w' h => ⟨h.2.1 h0, h.2.2⟩))).mono (fun e w' h => ⟨_, h.1, Pts.nil _ _, h.2⟩))
  obtain ⟨PP, hPP⟩ : ∃ PP, AllP m l w = PP := ⟨_, rfl⟩
  rw [hPP]
  have hPP' : Hid (∀ v e w', e = .returned (.tuple #[v, .int .i64 (allA m l).2]) → Pts w.heap.size v (allA m l).1 w' → Below w.heap.size w w' → PP e w') := Lib.hid (by
    intro v e w' he hv hb; rw [← hPP]; exact ⟨v, he, hv, hb⟩)
  clear hPP
  generalize allA m l = R at *
  obtain ⟨L, z⟩ := R
  obtain ⟨ma, mb, mc, md, me, mf⟩ := m
  subst hA
  clear i hl hn rd b1 m1 r1 sA b2
  simp only [Mtx.cells] at p2 m2 r2 hb
  have HM1 := Lib.hid m2
  have HS1 := Lib.hid p2
  have HR1 := Lib.hid r2
  have HB1 := Lib.hid hb
  clear m2 p2 r2 hb
  dsimp only at BG hPP'
  show Calls _ _ #[.agg #[.int .i64 ma, .int .i64 mb, .int .i64 mc, .int .i64 md, .int .i64 me, .int .i64 mf], _] w _
  go_enter Try.func15, Try.ntmps15
  go_wp2_with fail
  generalize (w.alloc (.cells #[.int .i64 ma, .int .i64 mb, .int .i64 mc, .int .i64 md, .int .i64 me, .int .i64 mf] 23)).alloc (.cells #[.slice a l.length cap] 36) = w1 at *
  refine (BG.out _ HM1.out HS1.out HR1.out).mono ?_
  rintro e w2 ⟨v, rfl, hv, b2⟩
  have HB2 := Lib.hid (HB1.out.trans (b2.mono HB1.out.size))
  have HV := Lib.hid (hv.lower HB1.out.size)
  clear b2 hv
  go_wp2_with fail
  show PP (.returned (.tuple #[_, _])) _
  exact hPP'.out _ _ _ rfl HV.out HB2.out
end Go.Proofs.Ytmchompeciikdaa
