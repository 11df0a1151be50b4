/-
  Package snap: All, as what it hands to a loop's body.
-/
import Derived.Test.YtejhegoegmoemaaSnapE
import Derived.Test.YtejhegoegmoemaaSnapClone
import Derived.Test.YtejhegoegmoemaaIterBox
namespace Go.Proofs.Ytejhegoegmoemaa
open Go.RowKit Go.Shelf
attribute [local go_sem] Oper.semAt_some
set_option linter.unusedSimpArgs false

/-- The types of an iterator's own variables that a loop over it keeps. -/
def T14 (t : TypeId) : Prop := t ≠ 35
def encE (g : Edg) : Array Value := #[g.val]
/-- An iterator is told. -/
def GivesIt14 (RES : List Edg) (w : World) (e : Ending) (w' : World) : Prop :=
  ∃ gf lb a b, e = .returned (.func (.func gf) #[] lb) ∧ (∀ args W, (callFunc gf args).run Try.prog W = .ok (.enter gf args) W) ∧ Below w.heap.size w w' ∧ w.heap.size ≤ a ∧ b ≤ w'.heap.size ∧
    FeedsO Try.prog T14 a b encE RES Fence.wide 6 gf lb w'
theorem snapL_pre {l : List Edg} {k : Nat} {g : Edg} (h : l[k]? = some g) (hG : Goes14 g) : snapL (l.take k) ++ [snapE g] <+: snapL l := by
  have e := snapL_take h
  rw [if_pos hG] at e
  rw [← e]
  conv => rhs; rw [← List.take_append_drop (k + 1) l, snapL_append]
  exact List.prefix_append _ _
theorem own_mid {α : Type} {L : Lay8 α} {R ca cb : Nat} {v : Value} {l : List α} {W W' : World} (h : L.own R v l W) (hm : Mid ca cb W W') (h1 : ca ≤ R) (h2 : W.heap.size ≤ cb) : L.own R v l W' :=
  h.stay fun q hq => by
    have := h.type q hq
    exact hm.block q (by omega) (by omega)
/-- What the loop over the row keeps. -/
def AllInv (l : List Edg) (ca cb D : Nat) (W : World) (J : List Edg → World → Prop) (i : Value) (wr : World) : Prop :=
  ∃ k : Nat, k ≤ l.length ∧ i = .int .i64 (k : Int) ∧ J (snapL (l.take k)) wr ∧ Mid ca cb W wr ∧ D ≤ wr.heap.size
theorem all_next {l : List Edg} {ca cb D k : Nat} {W wr : World} {J : List Edg → World → Prop} {g : Edg} {z : Int} (hz : z = (k : Int) + 1) (h1 : l[k]? = some g) (hj : J (snapL (l.take k) ++ (if Goes14 g then [snapE g] else [])) wr) (hm : Mid ca cb W wr) (hd : D ≤ wr.heap.size) : AllInv l ca cb D W J (.int .i64 z) wr :=
  ⟨k + 1, (List.getElem?_eq_some_iff.1 h1).1, by rw [hz]; rfl, by rw [snapL_take h1]; exact hj, hm, hd⟩
set_option maxRecDepth 100000 in
set_option maxHeartbeats 4000000 in
theorem all_feed (a : Option Addr) (l : List Edg) (cap : Nat) (hl : l.length ≤ 100000000) (hS : ∀ g ∈ l, EdgS g) (be R ca cb : Nat) (w0 : World) (hE : CBox be 28 #[.slice a l.length cap] w0) (hO : edgL.own R (.slice a l.length cap) l w0) (hb1 : ca ≤ be) (hb2 : be < cb) (hR : ca ≤ R) (hcb : cb = w0.heap.size) :
    FeedsO Try.prog T14 ca cb encE (snapL l) Fence.wide 6 19 #[.pointer (some ⟨be, 0, none⟩)] w0 := by
  intro y J Jx W hW aJ aJx hY h0
  have hEW : CBox be 28 #[.slice a l.length cap] W := by
    unfold CBox at *
    exact (hW.block be hb1 hb2).trans hE
  have hOW : edgL.own R (.slice a l.length cap) l W := own_mid hO hW hR (Nat.le_of_eq hcb.symm)
  have hcW : cb ≤ W.heap.size := hcb ▸ hW.size
  have HY := Lib.hid hY; have HJ := Lib.hid aJ; have HC := Lib.hid hcW; have HSM := Lib.hid hS
  have HRD := Lib.hid (fun (wr : World) (hm : Mid ca cb W wr) => show RdE a l wr from Lay8.own.rd (hOW.stay fun q hq => hm.block q (by have := hOW.type q hq; omega) (by have := hO.type q hq; omega)))
  have x0 : W.cell? ⟨be, 0, none⟩ = some (.slice a l.length cap) := hEW.c 0 rfl
  obtain ⟨n, hn⟩ : ∃ n, n = l.length := ⟨_, rfl⟩
  have EN := Lib.hid hn
  rw [← hn] at x0 hl
  clear hY aJ aJx hEW hE hcb hS hW hcW hOW hO hb1 hb2 hR hn
  refine callsIn_of_wp Try.func19 rfl trivial ?_ rfl
  simp only [Try.ntmps19, List.size_toArray, List.length_cons, List.length_nil, Nat.reduceAdd, Nat.reduceSub, Array.replicate_succ, Array.replicate_zero, List.push_toArray, List.append_toArray, List.nil_append, List.cons_append]
  gi_wp2_with fail
  clear x0
  gi_loopw [9] (fun i wr => AllInv l ca cb W.heap.size W J i wr) (fun i _ => n - (intOf i).toNat)
  case atStart => exact ⟨0, Nat.zero_le _, rfl, h0, Mid.refl _ _ _, Nat.le_refl _⟩
  case round =>
    obtain ⟨k, hk, rfl, hj, hm, hd⟩ := hrel
    rw [← EN.out] at hk
    by_cases hlt : k < n
    · obtain ⟨g, hg⟩ : ∃ g, l[k]? = some g := ⟨l[k]'(by rw [← EN.out]; exact hlt), List.getElem?_eq_getElem _⟩
      obtain ⟨b, o, rfl, l1, x0, x1, x2, x3⟩ := RdE.at (HRD.out _ hm) hg
      have hk0 : (0 : Int) ≤ k := by omega
      have hk1 : (k : Int) < n := by omega
      have ew : wrap64 ((k : Int) + 1) = (k : Int) + 1 := by unfold wrap64; omega
      have hgs := HSM.out g (List.mem_of_getElem? hg)
      have EA := Lib.hid (fun w => (callsIn_wide (n := 6 - 1)).2 (edge_any g w hgs))
      have NX := Lib.hid (fun z w' (hz : z = (k : Int) + 1) hj hm hd => all_next (l := l) (ca := ca) (cb := cb) (D := W.heap.size) (W := W) (wr := w') (J := J) (k := k) (g := g) (z := z) hz hg hj hm hd)
      have HJ0 := Lib.hid hj; have HM0 := Lib.hid hm; have HD0 := Lib.hid hd
      by_cases hG : Goes14 g
      · have Y := Lib.hid (fun W1 hj hs => HY.out (snapL (l.take k)) (snapE g) W1 hj hs (snapL_pre hg hG))
        have HP := Lib.hid (snapL_pre hg hG)
        rw [show snapO g = snapE g from if_pos hG, decide_eq_true hG] at EA
        rw [if_pos hG] at NX
        clear hgs hj hm hd hg hG HY HSM
        generalize snapL (l.take k) = pre at *
        unfold encE Edg.val Edg.arr at Y
        unfold Edg.val Edg.arr at EA
        generalize snapE g = s at *
        obtain ⟨px, py, qx, qy⟩ := g
        obtain ⟨X, Y1, U, V⟩ := s
        dsimp only at *
        have bz := (Below.refl wr.heap.size wr).alloc (Nat.le_refl _) (.cells #[.int .i64 px, .int .i64 py, .int .i64 qx, .int .i64 qy] 35)
        have HE1 := Lib.hid (CBox.new wr 35 #[.int .i64 px, .int .i64 py, .int .i64 qx, .int .i64 qy])
        have HJ1 := Lib.hid (HJ.out.abide.new _ _ _ HJ0.out bz)
        have HM1 := Lib.hid (HM0.out.trans (Mid.of_below (bz.mono (Nat.le_trans HC.out HD0.out))))
        have HD1 := Lib.hid (Nat.le_trans HD0.out bz.size)
        clear bz HJ0 HM0
        have e0 : (wr.alloc (.cells #[.int .i64 px, .int .i64 py, .int .i64 qx, .int .i64 qy] 35)).cell? ⟨wr.heap.size, 0, none⟩ = some (.int .i64 px) := HE1.out.c 0 rfl
        have e1 : (wr.alloc (.cells #[.int .i64 px, .int .i64 py, .int .i64 qx, .int .i64 qy] 35)).cell? ⟨wr.heap.size, 1, none⟩ = some (.int .i64 py) := HE1.out.c 1 rfl
        have e2 : (wr.alloc (.cells #[.int .i64 px, .int .i64 py, .int .i64 qx, .int .i64 qy] 35)).cell? ⟨wr.heap.size, 2, none⟩ = some (.int .i64 qx) := HE1.out.c 2 rfl
        have e3 : (wr.alloc (.cells #[.int .i64 px, .int .i64 py, .int .i64 qx, .int .i64 qy] 35)).cell? ⟨wr.heap.size, 3, none⟩ = some (.int .i64 qy) := HE1.out.c 3 rfl
        gi_wp2_with fail
        refine ⟨trivial, (EA.out _).mono ?_⟩
        clear e0 e1 e2 e3 x0 x1 x2 x3
        generalize wr.alloc (.cells #[.int .i64 px, .int .i64 py, .int .i64 qx, .int .i64 qy] 35) = w1 at *
        rintro o w2 ⟨rfl, b2⟩
        have b3 := b2.trans (((Below.refl w2.heap.size w2).alloc (Nat.le_refl _) (.cells #[.int .i64 X, .int .i64 Y1, .int .i64 U, .int .i64 V] 35)).mono b2.size)
        have HS3 := Lib.hid (CBox.new w2 35 #[.int .i64 X, .int .i64 Y1, .int .i64 U, .int .i64 V])
        have HJ3 := Lib.hid (HJ.out.abide.new _ _ _ HJ1.out b3)
        have HM3 := Lib.hid (HM1.out.trans (Mid.of_below (b3.mono (Nat.le_trans HC.out HD1.out))))
        have HD3 := Lib.hid (Nat.le_trans HD1.out b3.size)
        clear b2 b3 HJ1 HM1 HD1 HE1 EA
        have Y4 := Lib.hid (Y.out _ HJ3.out HD3.out)
        obtain ⟨fn, tmps, assign, body, hy, hR⟩ := Y4.out
        have s0 : (w2.alloc (.cells #[.int .i64 X, .int .i64 Y1, .int .i64 U, .int .i64 V] 35)).cell? ⟨w2.heap.size, 0, none⟩ = some (.int .i64 X) := HS3.out.c 0 rfl
        have s1 : (w2.alloc (.cells #[.int .i64 X, .int .i64 Y1, .int .i64 U, .int .i64 V] 35)).cell? ⟨w2.heap.size, 1, none⟩ = some (.int .i64 Y1) := HS3.out.c 1 rfl
        have s2 : (w2.alloc (.cells #[.int .i64 X, .int .i64 Y1, .int .i64 U, .int .i64 V] 35)).cell? ⟨w2.heap.size, 2, none⟩ = some (.int .i64 U) := HS3.out.c 2 rfl
        have s3 : (w2.alloc (.cells #[.int .i64 X, .int .i64 Y1, .int .i64 U, .int .i64 V] 35)).cell? ⟨w2.heap.size, 3, none⟩ = some (.int .i64 V) := HS3.out.c 3 rfl
        gi_wp2_with fail
        refine hR.mono ?_
        clear s0 s1 s2 s3
        rintro o W3 (⟨rfl, hJ5, hk5, _⟩ | ⟨rfl, hJx5, _⟩)
        · have HM5 := Lib.hid (HM3.out.trans hk5.mid)
          have HZ5 := Lib.hid (Nat.le_trans HD3.out hk5.mid.size)
          have HJ5 := Lib.hid hJ5
          clear hk5 hJ5 hy hR
          gi_wp2_with fail
          go_roundw
          case rel => exact NX.out _ _ (by first | rfl | exact ew) HJ5.out HM5.out HZ5.out
          case measure => simp [intOf]; omega
        · gi_wp2
          refine bodyPost_ret (results_none rfl _ _ _) rfl ?_
          exact ⟨⟨_, rfl⟩, .inr ⟨_, HP.out, hJx5⟩⟩
      · rw [show snapO g = zeroE from if_neg hG, decide_eq_false hG] at EA
        rw [if_neg hG, List.append_nil] at NX
        clear hgs hj hm hd hg hG HY HSM
        generalize snapL (l.take k) = pre at *
        unfold Edg.val Edg.arr zeroE at EA
        obtain ⟨px, py, qx, qy⟩ := g
        dsimp only at *
        have bz := (Below.refl wr.heap.size wr).alloc (Nat.le_refl _) (.cells #[.int .i64 px, .int .i64 py, .int .i64 qx, .int .i64 qy] 35)
        have HE1 := Lib.hid (CBox.new wr 35 #[.int .i64 px, .int .i64 py, .int .i64 qx, .int .i64 qy])
        have HJ1 := Lib.hid (HJ.out.abide.new _ _ _ HJ0.out bz)
        have HM1 := Lib.hid (HM0.out.trans (Mid.of_below (bz.mono (Nat.le_trans HC.out HD0.out))))
        have HD1 := Lib.hid (Nat.le_trans HD0.out bz.size)
        clear bz HJ0 HM0
        have e0 : (wr.alloc (.cells #[.int .i64 px, .int .i64 py, .int .i64 qx, .int .i64 qy] 35)).cell? ⟨wr.heap.size, 0, none⟩ = some (.int .i64 px) := HE1.out.c 0 rfl
        have e1 : (wr.alloc (.cells #[.int .i64 px, .int .i64 py, .int .i64 qx, .int .i64 qy] 35)).cell? ⟨wr.heap.size, 1, none⟩ = some (.int .i64 py) := HE1.out.c 1 rfl
        have e2 : (wr.alloc (.cells #[.int .i64 px, .int .i64 py, .int .i64 qx, .int .i64 qy] 35)).cell? ⟨wr.heap.size, 2, none⟩ = some (.int .i64 qx) := HE1.out.c 2 rfl
        have e3 : (wr.alloc (.cells #[.int .i64 px, .int .i64 py, .int .i64 qx, .int .i64 qy] 35)).cell? ⟨wr.heap.size, 3, none⟩ = some (.int .i64 qy) := HE1.out.c 3 rfl
        gi_wp2_with fail
        refine ⟨trivial, (EA.out _).mono ?_⟩
        clear e0 e1 e2 e3 x0 x1 x2 x3
        generalize wr.alloc (.cells #[.int .i64 px, .int .i64 py, .int .i64 qx, .int .i64 qy] 35) = w1 at *
        rintro o w2 ⟨rfl, b2⟩
        have b3 := b2.trans (((Below.refl w2.heap.size w2).alloc (Nat.le_refl _) (.cells #[.int .i64 0, .int .i64 0, .int .i64 0, .int .i64 0] 35)).mono b2.size)
        have HJ3 := Lib.hid (HJ.out.abide.new _ _ _ HJ1.out b3)
        have HM3 := Lib.hid (HM1.out.trans (Mid.of_below (b3.mono (Nat.le_trans HC.out HD1.out))))
        have HD3 := Lib.hid (Nat.le_trans HD1.out b3.size)
        clear b2 b3 HJ1 HM1 HD1 HE1 EA
        gi_wp2_with fail
        refine ⟨(fun _ h => by cases h), ?_⟩
        gi_wp2_with fail
        go_roundw
        case rel => exact NX.out _ _ (by first | rfl | exact ew) HJ3.out HM3.out HD3.out
        case measure => simp [intOf]; omega
    · obtain rfl : k = n := by omega
      rw [EN.out, List.take_length] at hj
      have HJ1 := Lib.hid hj
      clear hj hm hd
      gi_wp2_with fail
      go_end0
      exact ⟨⟨_, rfl⟩, .inl HJ1.out⟩
end Go.Proofs.Ytejhegoegmoemaa
