/-
  The example of layer 12's laws holds, whatever tells the pieces and counts them. (Typed by a program: wip/gen_wakes12.py.)
-/
import Derived.Test.YtgkjbmejfcijkaaLawTold12
import Derived.Deep.DeepCutAuto
namespace Go.Proofs.Ytgkjbmejfcijkaa
open Go.RowKit Go.Shelf

/-- What Count tells. -/
def CountOk : Prop := ∀ (c : Crv) (w : World), c.right → Calls Try.prog 13 #[c.val] w fun e w' => e = .returned (.int .i64 ((min 4096 (pieces12 20 c).length : Nat) : Int)) ∧ Below w.heap.size w w'
theorem crvL_at {R b k cap : Nat} {l : List Crv} {W : World} (h : crvL.own R (.slice (some ⟨b, 0, none⟩) k cap) l W) {i j : Nat} {g : Crv} {u : Value} (hi : l[i]? = some g) (hj : g.lst[j]? = some u) : W.cell? ⟨b, i * 8 + j, none⟩ = some u := h.cell (crvL.flat_at l i g j u hi hj)
theorem own_some {α : Type} {L : Lay8 α} {R : Nat} {v : Value} {l : List α} {W : World} (h : L.own R v l W) (h0 : 0 < l.length) : ∃ b cap, v = .slice (some ⟨b, 0, none⟩) l.length cap ∧ b < W.heap.size ∧ l.length ≤ cap := by
  rcases h.2 with ⟨_, h2⟩ | ⟨g, cap, cur, hv, _, hg, h1, _⟩
  · omega
  · exact ⟨g, cap, hv, (Array.getElem?_eq_some_iff.1 hg).1, h1⟩
set_option maxHeartbeats 4000000 in
set_option maxRecDepth 100000 in
theorem wakes12 (PI : PiecesOk) (CO : CountOk) (w : World) : Calls Try.prog 8 #[] w fun e w' => e = .returned (.bool true) ∧ Below w.heap.size w w' := by
  have hr : Crv.right ⟨0, 0, 100, 0, 200, 0, 300, 0⟩ := by decide
  have hf : Crv.flat ⟨0, 0, 100, 0, 200, 0, 300, 0⟩ := by decide
  have TO := Lib.hid (fun w => told12 PI ⟨0, 0, 100, 0, 200, 0, 300, 0⟩ 9 w hr (by decide))
  have CN := Lib.hid (fun w => CO ⟨0, 0, 100, 0, 200, 0, 300, 0⟩ w hr)
  rw [pieces12_flat hf] at TO CN
  clear PI CO hr hf
  have e1 : ([⟨0, 0, 100, 0, 200, 0, 300, 0⟩] : List Crv).take 9 = [⟨0, 0, 100, 0, 200, 0, 300, 0⟩] := rfl
  have e2 : ((min 4096 ([⟨0, 0, 100, 0, 200, 0, 300, 0⟩] : List Crv).length : Nat) : Int) = 1 := rfl
  rw [e1] at TO
  rw [show ((9 : Nat) : Int) = 9 from rfl] at TO
  rw [e2] at CN
  clear e1 e2
  unfold Crv.val Crv.arr at TO CN
  dsimp only at TO CN
  have HC0 := Lib.hid (CBox.new w 25 #[.int .i64 0, .int .i64 0, .int .i64 100, .int .i64 0, .int .i64 200, .int .i64 0, .int .i64 300, .int .i64 0])
  have HB0 := Lib.hid ((Below.refl w.heap.size w).alloc (Nat.le_refl _) (.cells #[.int .i64 0, .int .i64 0, .int .i64 100, .int .i64 0, .int .i64 200, .int .i64 0, .int .i64 300, .int .i64 0] 25))
  go_enter Try.func8, Try.ntmps8
  go_upto_region 2 with fail
  generalize w.alloc (.cells #[.int .i64 0, .int .i64 0, .int .i64 100, .int .i64 0, .int .i64 200, .int .i64 0, .int .i64 300, .int .i64 0] 25) = w1 at *
  have xC0 : w1.cell? ⟨w.heap.size, 0, none⟩ = some (.int .i64 0) := HC0.out.c 0 rfl
  have xC1 : w1.cell? ⟨w.heap.size, 1, none⟩ = some (.int .i64 0) := HC0.out.c 1 rfl
  have xC2 : w1.cell? ⟨w.heap.size, 2, none⟩ = some (.int .i64 100) := HC0.out.c 2 rfl
  have xC3 : w1.cell? ⟨w.heap.size, 3, none⟩ = some (.int .i64 0) := HC0.out.c 3 rfl
  have xC4 : w1.cell? ⟨w.heap.size, 4, none⟩ = some (.int .i64 200) := HC0.out.c 4 rfl
  have xC5 : w1.cell? ⟨w.heap.size, 5, none⟩ = some (.int .i64 0) := HC0.out.c 5 rfl
  have xC6 : w1.cell? ⟨w.heap.size, 6, none⟩ = some (.int .i64 300) := HC0.out.c 6 rfl
  have xC7 : w1.cell? ⟨w.heap.size, 7, none⟩ = some (.int .i64 0) := HC0.out.c 7 rfl
  go_wp2_with fail
  refine (TO.out _).mono ?_
  rintro e w2 ⟨v, rfl, hrow, b1⟩
  clear xC0 xC1 xC2 xC3 xC4 xC5 xC6 xC7
  have HB1 := Lib.hid (HB0.out.trans (b1.mono HB0.out.size))
  have HC1 := Lib.hid (HC0.out.next b1)
  clear b1
  obtain ⟨b, cap, rfl, hb, hcap⟩ := own_some hrow (by decide)
  have HR := Lib.hid hrow
  clear hrow TO
  go_upto_region 3 with fail
  have xC0 : w2.cell? ⟨w.heap.size, 0, none⟩ = some (.int .i64 0) := HC1.out.c 0 rfl
  have xC1 : w2.cell? ⟨w.heap.size, 1, none⟩ = some (.int .i64 0) := HC1.out.c 1 rfl
  have xC2 : w2.cell? ⟨w.heap.size, 2, none⟩ = some (.int .i64 100) := HC1.out.c 2 rfl
  have xC3 : w2.cell? ⟨w.heap.size, 3, none⟩ = some (.int .i64 0) := HC1.out.c 3 rfl
  have xC4 : w2.cell? ⟨w.heap.size, 4, none⟩ = some (.int .i64 200) := HC1.out.c 4 rfl
  have xC5 : w2.cell? ⟨w.heap.size, 5, none⟩ = some (.int .i64 0) := HC1.out.c 5 rfl
  have xC6 : w2.cell? ⟨w.heap.size, 6, none⟩ = some (.int .i64 300) := HC1.out.c 6 rfl
  have xC7 : w2.cell? ⟨w.heap.size, 7, none⟩ = some (.int .i64 0) := HC1.out.c 7 rfl
  have y0 : w2.cell? ⟨b, 0, none⟩ = some (.int .i64 0) := HR.out.cell (show _ = _ from rfl)
  have y1 : w2.cell? ⟨b, 1, none⟩ = some (.int .i64 0) := HR.out.cell (show _ = _ from rfl)
  have y2 : w2.cell? ⟨b, 2, none⟩ = some (.int .i64 100) := HR.out.cell (show _ = _ from rfl)
  have y3 : w2.cell? ⟨b, 3, none⟩ = some (.int .i64 0) := HR.out.cell (show _ = _ from rfl)
  have y4 : w2.cell? ⟨b, 4, none⟩ = some (.int .i64 200) := HR.out.cell (show _ = _ from rfl)
  have y5 : w2.cell? ⟨b, 5, none⟩ = some (.int .i64 0) := HR.out.cell (show _ = _ from rfl)
  have y6 : w2.cell? ⟨b, 6, none⟩ = some (.int .i64 300) := HR.out.cell (show _ = _ from rfl)
  have y7 : w2.cell? ⟨b, 7, none⟩ = some (.int .i64 0) := HR.out.cell (show _ = _ from rfl)
  have HBd := Lib.hid (Below.refl w2.heap.size w2).drew
  go_region_held3 (fun w' => w'.cell? ⟨w.heap.size, 0, none⟩ = some (.int .i64 0) ∧ w'.cell? ⟨w.heap.size, 1, none⟩ = some (.int .i64 0) ∧ w'.cell? ⟨w.heap.size, 2, none⟩ = some (.int .i64 100) ∧ w'.cell? ⟨w.heap.size, 3, none⟩ = some (.int .i64 0) ∧ w'.cell? ⟨w.heap.size, 4, none⟩ = some (.int .i64 200) ∧ w'.cell? ⟨w.heap.size, 5, none⟩ = some (.int .i64 0) ∧ w'.cell? ⟨w.heap.size, 6, none⟩ = some (.int .i64 300) ∧ w'.cell? ⟨w.heap.size, 7, none⟩ = some (.int .i64 0) ∧ w'.cell? ⟨b, 0, none⟩ = some (.int .i64 0) ∧ w'.cell? ⟨b, 1, none⟩ = some (.int .i64 0) ∧ w'.cell? ⟨b, 2, none⟩ = some (.int .i64 100) ∧ w'.cell? ⟨b, 3, none⟩ = some (.int .i64 0) ∧ w'.cell? ⟨b, 4, none⟩ = some (.int .i64 200) ∧ w'.cell? ⟨b, 5, none⟩ = some (.int .i64 0) ∧ w'.cell? ⟨b, 6, none⟩ = some (.int .i64 300) ∧ w'.cell? ⟨b, 7, none⟩ = some (.int .i64 0)) (first | (refine ⟨?_, ?_, ?_, ?_, ?_, ?_, ?_, ?_, ?_, ?_, ?_, ?_, ?_, ?_, ?_, ?_⟩ <;> first | with_reducible assumption) | (simp [go_sem, *]; done))
    (first | (go_at_call 13; (with_reducible refine (CN.out _).mono ?_); rintro e v1 ⟨rfl, bc1⟩; have HBc1 := Lib.hid (HBd.out.trans (bc1.mono HBd.out.size)); clear xC0 y0 xC1 y1 xC2 y2 xC3 y3 xC4 y4 xC5 y5 xC6 y6 xC7 y7; have hC_ := HC1.out.next HBc1.out; have hR_ := HR.out.next HBc1.out; have xC0 : v1.cell? ⟨w.heap.size, 0, none⟩ = some (.int .i64 0) := hC_.c 0 rfl; have y0 : v1.cell? ⟨b, 0, none⟩ = some (.int .i64 0) := hR_.cell (show _ = _ from rfl); have xC1 : v1.cell? ⟨w.heap.size, 1, none⟩ = some (.int .i64 0) := hC_.c 1 rfl; have y1 : v1.cell? ⟨b, 1, none⟩ = some (.int .i64 0) := hR_.cell (show _ = _ from rfl); have xC2 : v1.cell? ⟨w.heap.size, 2, none⟩ = some (.int .i64 100) := hC_.c 2 rfl; have y2 : v1.cell? ⟨b, 2, none⟩ = some (.int .i64 100) := hR_.cell (show _ = _ from rfl); have xC3 : v1.cell? ⟨w.heap.size, 3, none⟩ = some (.int .i64 0) := hC_.c 3 rfl; have y3 : v1.cell? ⟨b, 3, none⟩ = some (.int .i64 0) := hR_.cell (show _ = _ from rfl); have xC4 : v1.cell? ⟨w.heap.size, 4, none⟩ = some (.int .i64 200) := hC_.c 4 rfl; have y4 : v1.cell? ⟨b, 4, none⟩ = some (.int .i64 200) := hR_.cell (show _ = _ from rfl); have xC5 : v1.cell? ⟨w.heap.size, 5, none⟩ = some (.int .i64 0) := hC_.c 5 rfl; have y5 : v1.cell? ⟨b, 5, none⟩ = some (.int .i64 0) := hR_.cell (show _ = _ from rfl); have xC6 : v1.cell? ⟨w.heap.size, 6, none⟩ = some (.int .i64 300) := hC_.c 6 rfl; have y6 : v1.cell? ⟨b, 6, none⟩ = some (.int .i64 300) := hR_.cell (show _ = _ from rfl); have xC7 : v1.cell? ⟨w.heap.size, 7, none⟩ = some (.int .i64 0) := hC_.c 7 rfl; have y7 : v1.cell? ⟨b, 7, none⟩ = some (.int .i64 0) := hR_.cell (show _ = _ from rfl); clear hC_ hR_ bc1))
  have HB2 := Lib.hid (HB1.out.trans (HBc1.out.mono HB1.out.size))
  go_wp2_with fail
  go_ret
  exact ⟨rfl, HB2.out⟩
end Go.Proofs.Ytgkjbmejfcijkaa
