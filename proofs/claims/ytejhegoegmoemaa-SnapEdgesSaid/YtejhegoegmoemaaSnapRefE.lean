/-
  The document's Edges of layer 14. (Typed by a program: wip/gen_snap5.py.)
-/
import Derived.Test.YtejhegoegmoemaaSnapE
import Derived.Test.YtejhegoegmoemaaRowAt
import Derived.Deep.DeepCutAuto
import Derived.Deep.CutBlock
namespace Go.Proofs.Ytejhegoegmoemaa
open Go.RowKit Go.Shelf
set_option linter.unusedSimpArgs false

/-- What Edges' loop keeps. -/
def ReInv (l : List Edg) (w : World) (out i : Value) (wr : World) : Prop := ∃ k : Nat, k ≤ l.length ∧ i = .int .i64 (k : Int) ∧ edgL.own w.heap.size out (snapL (l.take k)) wr ∧ Below w.heap.size w wr
theorem re_next {l : List Edg} {w wr : World} {k : Nat} {g : Edg} {z : Int} {out : Value} (hz : z = (k : Int) + 1) (h1 : l[k]? = some g) (hb : Below w.heap.size w wr) (h : edgL.own w.heap.size out (snapL (l.take k) ++ (if Goes14 g then [snapE g] else [])) wr) : ReInv l w out (.int .i64 z) wr :=
  ⟨k + 1, (List.getElem?_eq_some_iff.1 h1).1, by rw [hz]; rfl, by rw [snapL_take h1]; exact h, hb⟩
theorem edg_one_pl {ops : Array Oper} {rest : List Oper} {o : Oper} {a : Act} {Q : Exit → Act → World → Prop} (w : World) (hgd : o.guard = none) (s x : Operand)
    (ho : o.op = .call { callee := .builtin .append, args := #[s, x], argTypes := #[28, 28] }) {B n : Nat} {v : Value} {l : List Edg} (hn : w.heap.size = n) (g : Edg) (hown : edgL.own B v l w) (hs : a.eval s = v)
    (hx : a.eval x = .slice (some ⟨n, 0, none⟩) 1 1) (hk : l.length ≤ 100000000) (hB : B ≤ w.heap.size)
    (h : ∀ v' w', edgL.own B v' (l ++ [g]) w' → w.grownBy w' v.ownBlock → wpList Try.prog ops Q rest (a.put o.dst v') w') :
    wpList Try.prog ops Q (o :: rest) a (w.alloc (.cells #[.int .i64 g.px, .int .i64 g.py, .int .i64 g.qx, .int .i64 g.qy] 35)) := by
  obtain ⟨i0, hi, hz0, hz1, hz2⟩ := info_parts info_edg
  exact Lay8.one_pl edgL w Try.underlying28 hi hz0 hz1 hz2 rfl (by decide) hgd s x ho hn g hown hs hx hk hB h
def sreOp0 : Oper := { dst := some 12, op := Go.Op.move (Go.Operand.tmp 0), type := 28, pos := "ref.go:25", after := #[], guard := none }
def sreOp1 : Oper := { dst := some 13, op := Go.Op.move (Go.Operand.tmp 4), type := 3, pos := "ref.go:25", after := #[], guard := none }
def sreOp2 : Oper := { dst := some 14, op := Go.Op.indexAddr 28 (Go.Operand.tmp 12) (Go.Operand.tmp 13), type := 0, pos := "ref.go:25", after := #[{ on := 0, ground := Go.Ground.data }, { on := 1, ground := Go.Ground.data }], guard := none }
def sreOp3 : Oper := { dst := some 15, op := Go.Op.fieldAddr 35 (Go.Operand.tmp 14) 0, type := 0, pos := "ref.go:25", after := #[{ on := 2, ground := Go.Ground.data }], guard := none }
def sreOp4 : Oper := { dst := some 16, op := Go.Op.load 25 (Go.Operand.tmp 15), type := 25, pos := "ref.go:25", after := #[{ on := 3, ground := Go.Ground.data }], guard := none }
def sreOp5 : Oper := { dst := some 17, op := Go.Op.call { callee := Go.Callee.value (Go.Operand.func 17), args := #[Go.Operand.tmp 16], argTypes := #[25] }, type := 25, pos := "ref.go:25", after := #[{ on := 4, ground := Go.Ground.data }], guard := none }
def sreOp6 : Oper := { dst := some 18, op := Go.Op.move (Go.Operand.tmp 0), type := 28, pos := "ref.go:25", after := #[], guard := none }
def sreOp7 : Oper := { dst := some 19, op := Go.Op.move (Go.Operand.tmp 4), type := 3, pos := "ref.go:25", after := #[], guard := none }
def sreOp8 : Oper := { dst := some 20, op := Go.Op.indexAddr 28 (Go.Operand.tmp 18) (Go.Operand.tmp 19), type := 0, pos := "ref.go:25", after := #[{ on := 6, ground := Go.Ground.data }, { on := 7, ground := Go.Ground.data }], guard := none }
def sreOp9 : Oper := { dst := some 21, op := Go.Op.fieldAddr 35 (Go.Operand.tmp 20) 1, type := 0, pos := "ref.go:25", after := #[{ on := 8, ground := Go.Ground.data }], guard := none }
def sreOp10 : Oper := { dst := some 22, op := Go.Op.load 25 (Go.Operand.tmp 21), type := 25, pos := "ref.go:25", after := #[{ on := 9, ground := Go.Ground.data }], guard := none }
def sreOp11 : Oper := { dst := some 23, op := Go.Op.call { callee := Go.Callee.value (Go.Operand.func 17), args := #[Go.Operand.tmp 22], argTypes := #[25] }, type := 25, pos := "ref.go:25", after := #[{ on := 10, ground := Go.Ground.data }, { on := 5, ground := Go.Ground.chain }], guard := none }
def sreOp12 : Oper := { dst := some 24, op := Go.Op.build 35 #[(0, Go.Operand.tmp 17), (1, Go.Operand.tmp 23)], type := 35, pos := "ref.go:25", after := #[{ on := 5, ground := Go.Ground.data }, { on := 11, ground := Go.Ground.data }], guard := none }
def sreOp13 : Oper := { dst := some 5, op := Go.Op.alloc 35, type := 0, pos := "ref.go:25", after := #[], guard := none }
def sreOp14 : Oper := { dst := none, op := Go.Op.store 35 (Go.Operand.tmp 5) (Go.Operand.tmp 24), type := 0, pos := "ref.go:25", after := #[{ on := 13, ground := Go.Ground.data }, { on := 12, ground := Go.Ground.data }, { on := 11, ground := Go.Ground.chain }, { on := 0, ground := Go.Ground.phase }, { on := 1, ground := Go.Ground.phase }, { on := 2, ground := Go.Ground.phase }, { on := 3, ground := Go.Ground.phase }, { on := 4, ground := Go.Ground.phase }, { on := 5, ground := Go.Ground.phase }, { on := 6, ground := Go.Ground.phase }, { on := 7, ground := Go.Ground.phase }, { on := 8, ground := Go.Ground.phase }, { on := 9, ground := Go.Ground.phase }, { on := 10, ground := Go.Ground.phase }, { on := 11, ground := Go.Ground.phase }, { on := 12, ground := Go.Ground.phase }, { on := 13, ground := Go.Ground.phase }], guard := none }
theorem sreS {W : World} {nR oR : Nat} {r0 r1 r2 r3 : Value} (hR : RowAt nR oR #[r0, r1, r2, r3] W) : W.cell? ⟨nR, oR, none⟩ = some r0 ∧ W.cell? ⟨nR, oR + 1, none⟩ = some r1 ∧ W.cell? ⟨nR, oR + 2, none⟩ = some r2 ∧ W.cell? ⟨nR, oR + 3, none⟩ = some r3 := ⟨hR.c 0 rfl, hR.c 1 rfl, hR.c 2 rfl, hR.c 3 rfl⟩
set_option maxHeartbeats 8000000 in
set_option maxRecDepth 100000 in
theorem redges14 (a : Option Addr) (l : List Edg) (cap : Nat) (w : World) (hl : l.length ≤ 100000000) (hS : ∀ g ∈ l, EdgS g) (ha : RdE a l w) :
    Calls Try.prog 12 #[.slice a l.length cap] w fun e w' => ∃ v, e = .returned v ∧ edgL.own w.heap.size v (snapL l) w' ∧ Below w.heap.size w w' := by
  have HA := Lib.hid ha; have HSM := Lib.hid hS
  obtain ⟨n, hn⟩ : ∃ n, n = l.length := ⟨_, rfl⟩
  have EN := Lib.hid hn
  rw [← hn]
  rw [← hn] at hl
  clear ha hn hS
  go_enter Try.func12, Try.ntmps12
  go_wp2_with fail
  go_loopw [3, 4] (fun o i wr => ReInv l w o i wr) (fun _ i _ => n - (intOf i).toNat)
  case atStart => exact ⟨0, Nat.zero_le _, rfl, Lay8.own_nil _ _, Below.refl _ _⟩
  case round =>
    obtain ⟨k, hk, rfl, ho, hb⟩ := hrel
    have HB := Lib.hid hb; have HO := Lib.hid ho
    clear hb ho
    rw [← EN.out] at hk
    by_cases hlt : k < n
    · obtain ⟨g, hg⟩ : ∃ g, l[k]? = some g := ⟨l[k]'(by rw [← EN.out]; exact hlt), List.getElem?_eq_getElem _⟩
      have hgs := HSM.out g (List.mem_of_getElem? hg)
      have ha := Lay8.rd.next HA.out HB.out
      obtain ⟨b, o, rfl, hra⟩ := RdE.rowAt ha hg
      have HR0 := Lib.hid hra
      have hk0 : (0 : Int) ≤ k := by omega
      have hk1 : (k : Int) < n := by omega
      have ew : wrap64 ((k : Int) + 1) = (k : Int) + 1 := by unfold wrap64; omega
      have hcl : (snapL (l.take k)).length ≤ 100000000 := Nat.le_trans (snapL_len _) (by rw [List.length_take]; omega)
      have NX : Hid (¬ snapN g.py = snapN g.qy → ∀ z out w', z = (k : Int) + 1 → Below w.heap.size w w' → edgL.own w.heap.size out (snapL (l.take k) ++ [snapE g]) w' → ReInv l w out (.int .i64 z) w') :=
        Lib.hid (fun hc z out w' hz hb h => re_next hz hg hb (by rw [if_pos (show Goes14 g from hc)]; exact h))
      have NZ : Hid (snapN g.py = snapN g.qy → ∀ z out w', z = (k : Int) + 1 → Below w.heap.size w w' → edgL.own w.heap.size out (snapL (l.take k)) w' → ReInv l w out (.int .i64 z) w') :=
        Lib.hid (fun hc z out w' hz hb h => re_next hz hg hb (by rw [if_neg (show ¬ Goes14 g from fun h => h hc), List.append_nil]; exact h))
      have P1 := Lib.hid (fun w => rpoint_any g.px g.py w hgs.1.1 hgs.1.2)
      have P2 := Lib.hid (fun w => rpoint_any g.qx g.qy w hgs.2.1 hgs.2.2)
      unfold snapE at NX
      generalize snapL (l.take k) = E at *
      obtain ⟨px, py, qx, qy⟩ := g
      dsimp only at *
      clear hgs hra hg ha HSM
      generalize snapN px = X at *
      generalize snapN py = Y at *
      generalize snapN qx = U at *
      generalize snapN qy = V at *
      go_upto_region 5 with fail
      go_cut [5] (fun s5 wc => ∃ q : Nat, s5 = .pointer (some ⟨q, 0, none⟩) ∧ CBox q 35 #[.int .i64 X, .int .i64 Y, .int .i64 U, .int .i64 V] wc ∧ Below wr.heap.size wr wc)
      case first =>
        have hs_ := sreS HR0.out
        refine wp_region_held_drew (S := (fun w' => w'.cell? ⟨b, o + k * 4, none⟩ = some (.int .i64 px) ∧ w'.cell? ⟨b, o + k * 4 + 1, none⟩ = some (.int .i64 py) ∧ w'.cell? ⟨b, o + k * 4 + 2, none⟩ = some (.int .i64 qx) ∧ w'.cell? ⟨b, o + k * 4 + 3, none⟩ = some (.int .i64 qy))) (by kernel_rfl) ?_ (fun hHeld => ?_)
        · (try dsimp only); first | exact hs_ | (simp [go_sem, *]; done)
        clear hs_
        have HBk1 : Hid (Below wr.heap.size wr wr.drew) := Lib.hid (Below.refl wr.heap.size wr).drew
        have HRk1 : Hid (RowAt (b) (o + k * 4) #[.int .i64 px, .int .i64 py, .int .i64 qx, .int .i64 qy] wr.drew) := Lib.hid HR0.out
        generalize wr.drew = dk1 at *
        have hs_ := sreS HRk1.out
        refine wpAnyH_take (i := 0) (oi := sreOp0) (v := ?_) rfl (by kernel_rfl) (by kernel_rfl) (by kernel_rfl) (fun _ _ _ h => h) (Or.inl ⟨by rfl, ?_⟩) (by assumption) ?_
        rotate_left
        · ((try unfold sreOp0); intro w hSw; (try dsimp only at hSw); go_simp; (first | done | with_reducible rfl))
        (try unfold sreOp0)
        (try simp only [Act.put, List.setIfInBounds_toArray, List.set_cons_zero, List.set_cons_succ])
        refine wpAnyH_take (i := 1) (oi := sreOp1) (v := ?_) rfl (by kernel_rfl) (by kernel_rfl) (by kernel_rfl) (fun _ _ _ h => h) (Or.inl ⟨by rfl, ?_⟩) (by assumption) ?_
        rotate_left
        · ((try unfold sreOp1); intro w hSw; (try dsimp only at hSw); go_simp; (first | done | with_reducible rfl))
        (try unfold sreOp1)
        (try simp only [Act.put, List.setIfInBounds_toArray, List.set_cons_zero, List.set_cons_succ])
        refine wpAnyH_take (i := 2) (oi := sreOp2) (v := ?_) rfl (by kernel_rfl) (by kernel_rfl) (by kernel_rfl) (fun _ _ _ h => h) (Or.inl ⟨by rfl, ?_⟩) (by assumption) ?_
        rotate_left
        · ((try unfold sreOp2); intro w hSw; (try dsimp only at hSw); go_simp; (first | done | with_reducible rfl))
        (try unfold sreOp2)
        (try simp only [Act.put, List.setIfInBounds_toArray, List.set_cons_zero, List.set_cons_succ])
        refine wpAnyH_take (i := 3) (oi := sreOp3) (v := ?_) rfl (by kernel_rfl) (by kernel_rfl) (by kernel_rfl) (fun _ _ _ h => h) (Or.inl ⟨by rfl, ?_⟩) (by assumption) ?_
        rotate_left
        · ((try unfold sreOp3); intro w hSw; (try dsimp only at hSw); go_simp; (first | done | with_reducible rfl))
        (try unfold sreOp3)
        (try simp only [Act.put, List.setIfInBounds_toArray, List.set_cons_zero, List.set_cons_succ])
        refine wpAnyH_take (i := 4) (oi := sreOp4) (v := ?_) rfl (by kernel_rfl) (by kernel_rfl) (by kernel_rfl) (fun _ _ _ h => h) (Or.inl ⟨by rfl, ?_⟩) (by assumption) ?_
        rotate_left
        · ((try unfold sreOp4); intro w hSw; (try dsimp only at hSw); go_simp; (first | done | with_reducible rfl))
        (try unfold sreOp4)
        (try simp only [Act.put, List.setIfInBounds_toArray, List.set_cons_zero, List.set_cons_succ])
        refine wpAnyH_take (i := 6) (oi := sreOp6) (v := ?_) rfl (by kernel_rfl) (by kernel_rfl) (by kernel_rfl) (fun _ _ _ h => h) (Or.inl ⟨by rfl, ?_⟩) (by assumption) ?_
        rotate_left
        · ((try unfold sreOp6); intro w hSw; (try dsimp only at hSw); go_simp; (first | done | with_reducible rfl))
        (try unfold sreOp6)
        (try simp only [Act.put, List.setIfInBounds_toArray, List.set_cons_zero, List.set_cons_succ])
        refine wpAnyH_take (i := 7) (oi := sreOp7) (v := ?_) rfl (by kernel_rfl) (by kernel_rfl) (by kernel_rfl) (fun _ _ _ h => h) (Or.inl ⟨by rfl, ?_⟩) (by assumption) ?_
        rotate_left
        · ((try unfold sreOp7); intro w hSw; (try dsimp only at hSw); go_simp; (first | done | with_reducible rfl))
        (try unfold sreOp7)
        (try simp only [Act.put, List.setIfInBounds_toArray, List.set_cons_zero, List.set_cons_succ])
        refine wpAnyH_take (i := 8) (oi := sreOp8) (v := ?_) rfl (by kernel_rfl) (by kernel_rfl) (by kernel_rfl) (fun _ _ _ h => h) (Or.inl ⟨by rfl, ?_⟩) (by assumption) ?_
        rotate_left
        · ((try unfold sreOp8); intro w hSw; (try dsimp only at hSw); go_simp; (first | done | with_reducible rfl))
        (try unfold sreOp8)
        (try simp only [Act.put, List.setIfInBounds_toArray, List.set_cons_zero, List.set_cons_succ])
        refine wpAnyH_take (i := 9) (oi := sreOp9) (v := ?_) rfl (by kernel_rfl) (by kernel_rfl) (by kernel_rfl) (fun _ _ _ h => h) (Or.inl ⟨by rfl, ?_⟩) (by assumption) ?_
        rotate_left
        · ((try unfold sreOp9); intro w hSw; (try dsimp only at hSw); go_simp; (first | done | with_reducible rfl))
        (try unfold sreOp9)
        (try simp only [Act.put, List.setIfInBounds_toArray, List.set_cons_zero, List.set_cons_succ])
        refine wpAnyH_take (i := 10) (oi := sreOp10) (v := ?_) rfl (by kernel_rfl) (by kernel_rfl) (by kernel_rfl) (fun _ _ _ h => h) (Or.inl ⟨by rfl, ?_⟩) (by assumption) ?_
        rotate_left
        · ((try unfold sreOp10); intro w hSw; (try dsimp only at hSw); go_simp; (first | done | with_reducible rfl))
        (try unfold sreOp10)
        (try simp only [Act.put, List.setIfInBounds_toArray, List.set_cons_zero, List.set_cons_succ])
        refine wpAnyH_ready (rs := [5, 13]) (by kernel_rfl) (by simp) ?_
        refine AllReadyH.cons (o := sreOp5) rfl (fun K hK => ?_) (AllReadyH.cons (o := sreOp13) rfl (fun K hK => ?_) AllReadyH.nil)
        ·
          (try unfold sreOp5)
          go_simp
          (go_at_call 17; (with_reducible refine (P1.out _).mono ?_); rintro e vk2 ⟨rfl, bq⟩)
          have HBk2 := Lib.hid (HBk1.out.trans (bq.mono HBk1.out.size)); have HRk2 := Lib.hid (HRk1.out.next bq); clear bq
          clear hs_
          have hs_ := sreS HRk2.out
          refine hK.out _ _ (by exact hs_) (fun hHeld => ?_)
          clear hK K; (try simp only [Act.put, List.setIfInBounds_toArray, List.set_cons_zero, List.set_cons_succ])
          refine wpAnyH_ready (rs := [11, 13]) (by kernel_rfl) (by simp) ?_
          refine AllReadyH.cons (o := sreOp11) rfl (fun K hK => ?_) (AllReadyH.cons (o := sreOp13) rfl (fun K hK => ?_) AllReadyH.nil)
          ·
            (try unfold sreOp11)
            go_simp
            (go_at_call 17; (with_reducible refine (P2.out _).mono ?_); rintro e vk3 ⟨rfl, bq⟩)
            have HBk3 := Lib.hid (HBk2.out.trans (bq.mono HBk2.out.size)); have HRk3 := Lib.hid (HRk2.out.next bq); clear bq
            clear hs_
            have hs_ := sreS HRk3.out
            refine hK.out _ _ (by exact hs_) (fun hHeld => ?_)
            clear hK K; (try simp only [Act.put, List.setIfInBounds_toArray, List.set_cons_zero, List.set_cons_succ])
            refine wpAnyH_take (i := 12) (oi := sreOp12) (v := ?_) rfl (by kernel_rfl) (by kernel_rfl) (by kernel_rfl) (fun _ _ _ h => h) (Or.inl ⟨by rfl, ?_⟩) (by assumption) ?_
            rotate_left
            · ((try unfold sreOp12); intro w hSw; (try dsimp only at hSw); go_simp; (first | done | with_reducible rfl))
            (try unfold sreOp12)
            (try simp only [Act.put, List.setIfInBounds_toArray, List.set_cons_zero, List.set_cons_succ])
            refine wpAnyH_ready (rs := [13]) (by kernel_rfl) (by simp) ?_
            refine AllReadyH.cons (o := sreOp13) rfl (fun K hK => ?_) AllReadyH.nil
            (try unfold sreOp13)
            go_simp
            have bq := (Below.refl vk3.heap.size (vk3)).alloc (Nat.le_refl _) (.cells #[.int .i64 0, .int .i64 0, .int .i64 0, .int .i64 0] 35)
            have HBk4 := Lib.hid (HBk3.out.trans (bq.mono HBk3.out.size))
            have HRk4 := Lib.hid (HRk3.out.next bq)
            have HSk4 := Lib.hid (CBox.new (vk3) 35 #[.int .i64 0, .int .i64 0, .int .i64 0, .int .i64 0])
            have gS := HBk3.out.size
            have ne_R_S := Nat.ne_of_lt HRk3.out.lt
            have en_R_S := Nat.ne_of_gt HRk3.out.lt
            clear bq
            clear hs_
            clear HBk3 HRk3
            generalize (vk3.alloc (.cells #[.int .i64 0, .int .i64 0, .int .i64 0, .int .i64 0] 35)) = vk4 at *
            generalize (vk3).heap.size = qSk4 at *
            have hs_ := sreS HRk4.out
            refine hK.out _ _ (by exact hs_) (fun hHeld => ?_)
            clear hK K; (try simp only [Act.put, List.setIfInBounds_toArray, List.set_cons_zero, List.set_cons_succ])
            refine wpAnyH_ready (rs := [14]) (by kernel_rfl) (by simp) ?_
            refine AllReadyH.cons (o := sreOp14) rfl (fun K hK => ?_) AllReadyH.nil
            (try unfold sreOp14)
            have u0_ : vk4.cell? ⟨qSk4, 0, none⟩ = some (.int .i64 0) := HSk4.out.c 0 rfl
            have r0_ := HSk4.out.z 0
            have u1_ : vk4.cell? ⟨qSk4, 1, none⟩ = some (.int .i64 0) := HSk4.out.c 1 rfl
            have r1_ := HSk4.out.z 1
            have u2_ : vk4.cell? ⟨qSk4, 2, none⟩ = some (.int .i64 0) := HSk4.out.c 2 rfl
            have r2_ := HSk4.out.z 2
            have u3_ : vk4.cell? ⟨qSk4, 3, none⟩ = some (.int .i64 0) := HSk4.out.c 3 rfl
            have r3_ := HSk4.out.z 3
            go_simp
            clear u0_ r0_ u1_ r1_ u2_ r2_ u3_ r3_
            have HBk5 : Hid (Below wr.heap.size wr ((((vk4.setCell ⟨qSk4, 0, none⟩ (.int .i64 X)).setCell ⟨qSk4, 1, none⟩ (.int .i64 Y)).setCell ⟨qSk4, 2, none⟩ (.int .i64 U)).setCell ⟨qSk4, 3, none⟩ (.int .i64 V))) := Lib.hid (Below.setCell (Below.setCell (Below.setCell (Below.setCell HBk4.out gS (.int .i64 X)) gS (.int .i64 Y)) gS (.int .i64 U)) gS (.int .i64 V))
            have HRk5 := Lib.hid (RowAt.other (RowAt.other (RowAt.other (RowAt.other HRk4.out (by first | exact ne_R_S | exact en_S_R) 0 (.int .i64 X)) (by first | exact ne_R_S | exact en_S_R) 1 (.int .i64 Y)) (by first | exact ne_R_S | exact en_S_R) 2 (.int .i64 U)) (by first | exact ne_R_S | exact en_S_R) 3 (.int .i64 V))
            have HSk5 : Hid (CBox (qSk4) 35 #[.int .i64 X, .int .i64 Y, .int .i64 U, .int .i64 V] ((((vk4.setCell ⟨qSk4, 0, none⟩ (.int .i64 X)).setCell ⟨qSk4, 1, none⟩ (.int .i64 Y)).setCell ⟨qSk4, 2, none⟩ (.int .i64 U)).setCell ⟨qSk4, 3, none⟩ (.int .i64 V))) := Lib.hid (CBox.set (CBox.set (CBox.set (CBox.set HSk4.out 0 (.int .i64 X) (show (0 : Nat) < 4 by decide)) 1 (.int .i64 Y) (show (1 : Nat) < 4 by decide)) 2 (.int .i64 U) (show (2 : Nat) < 4 by decide)) 3 (.int .i64 V) (show (3 : Nat) < 4 by decide))
            clear hs_
            generalize ((((vk4.setCell ⟨qSk4, 0, none⟩ (.int .i64 X)).setCell ⟨qSk4, 1, none⟩ (.int .i64 Y)).setCell ⟨qSk4, 2, none⟩ (.int .i64 U)).setCell ⟨qSk4, 3, none⟩ (.int .i64 V)) = vk5 at *
            have hs_ := sreS HRk5.out
            refine hK.out _ _ (by exact hs_) (fun hHeld => ?_)
            clear hK K; (try simp only [Act.put, List.setIfInBounds_toArray, List.set_cons_zero, List.set_cons_succ])
            refine wpAnyH_done (by kernel_rfl) ?_ _
            go_wp2_with fail
            go_meet
            exact ⟨_, rfl, HSk5.out, HBk5.out⟩
          ·
            (try unfold sreOp13)
            go_simp
            have bq := (Below.refl vk2.heap.size (vk2)).alloc (Nat.le_refl _) (.cells #[.int .i64 0, .int .i64 0, .int .i64 0, .int .i64 0] 35)
            have HBk6 := Lib.hid (HBk2.out.trans (bq.mono HBk2.out.size))
            have HRk6 := Lib.hid (HRk2.out.next bq)
            have HSk6 := Lib.hid (CBox.new (vk2) 35 #[.int .i64 0, .int .i64 0, .int .i64 0, .int .i64 0])
            have gS := HBk2.out.size
            have ne_R_S := Nat.ne_of_lt HRk2.out.lt
            have en_R_S := Nat.ne_of_gt HRk2.out.lt
            clear bq
            clear hs_
            clear HBk2 HRk2
            generalize (vk2.alloc (.cells #[.int .i64 0, .int .i64 0, .int .i64 0, .int .i64 0] 35)) = vk6 at *
            generalize (vk2).heap.size = qSk6 at *
            have hs_ := sreS HRk6.out
            refine hK.out _ _ (by exact hs_) (fun hHeld => ?_)
            clear hK K; (try simp only [Act.put, List.setIfInBounds_toArray, List.set_cons_zero, List.set_cons_succ])
            refine wpAnyH_ready (rs := [11]) (by kernel_rfl) (by simp) ?_
            refine AllReadyH.cons (o := sreOp11) rfl (fun K hK => ?_) AllReadyH.nil
            (try unfold sreOp11)
            go_simp
            (go_at_call 17; (with_reducible refine (P2.out _).mono ?_); rintro e vk7 ⟨rfl, bq⟩)
            have HBk7 := Lib.hid (HBk6.out.trans (bq.mono HBk6.out.size)); have HRk7 := Lib.hid (HRk6.out.next bq); have HSk7 := Lib.hid (HSk6.out.next bq); clear bq
            clear hs_
            have hs_ := sreS HRk7.out
            refine hK.out _ _ (by exact hs_) (fun hHeld => ?_)
            clear hK K; (try simp only [Act.put, List.setIfInBounds_toArray, List.set_cons_zero, List.set_cons_succ])
            refine wpAnyH_take (i := 12) (oi := sreOp12) (v := ?_) rfl (by kernel_rfl) (by kernel_rfl) (by kernel_rfl) (fun _ _ _ h => h) (Or.inl ⟨by rfl, ?_⟩) (by assumption) ?_
            rotate_left
            · ((try unfold sreOp12); intro w hSw; (try dsimp only at hSw); go_simp; (first | done | with_reducible rfl))
            (try unfold sreOp12)
            (try simp only [Act.put, List.setIfInBounds_toArray, List.set_cons_zero, List.set_cons_succ])
            refine wpAnyH_ready (rs := [14]) (by kernel_rfl) (by simp) ?_
            refine AllReadyH.cons (o := sreOp14) rfl (fun K hK => ?_) AllReadyH.nil
            (try unfold sreOp14)
            have u0_ : vk7.cell? ⟨qSk6, 0, none⟩ = some (.int .i64 0) := HSk7.out.c 0 rfl
            have r0_ := HSk7.out.z 0
            have u1_ : vk7.cell? ⟨qSk6, 1, none⟩ = some (.int .i64 0) := HSk7.out.c 1 rfl
            have r1_ := HSk7.out.z 1
            have u2_ : vk7.cell? ⟨qSk6, 2, none⟩ = some (.int .i64 0) := HSk7.out.c 2 rfl
            have r2_ := HSk7.out.z 2
            have u3_ : vk7.cell? ⟨qSk6, 3, none⟩ = some (.int .i64 0) := HSk7.out.c 3 rfl
            have r3_ := HSk7.out.z 3
            go_simp
            clear u0_ r0_ u1_ r1_ u2_ r2_ u3_ r3_
            have HBk8 : Hid (Below wr.heap.size wr ((((vk7.setCell ⟨qSk6, 0, none⟩ (.int .i64 X)).setCell ⟨qSk6, 1, none⟩ (.int .i64 Y)).setCell ⟨qSk6, 2, none⟩ (.int .i64 U)).setCell ⟨qSk6, 3, none⟩ (.int .i64 V))) := Lib.hid (Below.setCell (Below.setCell (Below.setCell (Below.setCell HBk7.out gS (.int .i64 X)) gS (.int .i64 Y)) gS (.int .i64 U)) gS (.int .i64 V))
            have HRk8 := Lib.hid (RowAt.other (RowAt.other (RowAt.other (RowAt.other HRk7.out (by first | exact ne_R_S | exact en_S_R) 0 (.int .i64 X)) (by first | exact ne_R_S | exact en_S_R) 1 (.int .i64 Y)) (by first | exact ne_R_S | exact en_S_R) 2 (.int .i64 U)) (by first | exact ne_R_S | exact en_S_R) 3 (.int .i64 V))
            have HSk8 : Hid (CBox (qSk6) 35 #[.int .i64 X, .int .i64 Y, .int .i64 U, .int .i64 V] ((((vk7.setCell ⟨qSk6, 0, none⟩ (.int .i64 X)).setCell ⟨qSk6, 1, none⟩ (.int .i64 Y)).setCell ⟨qSk6, 2, none⟩ (.int .i64 U)).setCell ⟨qSk6, 3, none⟩ (.int .i64 V))) := Lib.hid (CBox.set (CBox.set (CBox.set (CBox.set HSk7.out 0 (.int .i64 X) (show (0 : Nat) < 4 by decide)) 1 (.int .i64 Y) (show (1 : Nat) < 4 by decide)) 2 (.int .i64 U) (show (2 : Nat) < 4 by decide)) 3 (.int .i64 V) (show (3 : Nat) < 4 by decide))
            clear hs_
            generalize ((((vk7.setCell ⟨qSk6, 0, none⟩ (.int .i64 X)).setCell ⟨qSk6, 1, none⟩ (.int .i64 Y)).setCell ⟨qSk6, 2, none⟩ (.int .i64 U)).setCell ⟨qSk6, 3, none⟩ (.int .i64 V)) = vk8 at *
            have hs_ := sreS HRk8.out
            refine hK.out _ _ (by exact hs_) (fun hHeld => ?_)
            clear hK K; (try simp only [Act.put, List.setIfInBounds_toArray, List.set_cons_zero, List.set_cons_succ])
            refine wpAnyH_done (by kernel_rfl) ?_ _
            go_wp2_with fail
            go_meet
            exact ⟨_, rfl, HSk8.out, HBk8.out⟩
        ·
          (try unfold sreOp13)
          go_simp
          have bq := (Below.refl dk1.heap.size (dk1)).alloc (Nat.le_refl _) (.cells #[.int .i64 0, .int .i64 0, .int .i64 0, .int .i64 0] 35)
          have HBk9 := Lib.hid (HBk1.out.trans (bq.mono HBk1.out.size))
          have HRk9 := Lib.hid (HRk1.out.next bq)
          have HSk9 := Lib.hid (CBox.new (dk1) 35 #[.int .i64 0, .int .i64 0, .int .i64 0, .int .i64 0])
          have gS := HBk1.out.size
          have ne_R_S := Nat.ne_of_lt HRk1.out.lt
          have en_R_S := Nat.ne_of_gt HRk1.out.lt
          clear bq
          clear hs_
          clear HBk1 HRk1
          generalize (dk1.alloc (.cells #[.int .i64 0, .int .i64 0, .int .i64 0, .int .i64 0] 35)) = vk9 at *
          generalize (dk1).heap.size = qSk9 at *
          have hs_ := sreS HRk9.out
          refine hK.out _ _ (by exact hs_) (fun hHeld => ?_)
          clear hK K; (try simp only [Act.put, List.setIfInBounds_toArray, List.set_cons_zero, List.set_cons_succ])
          refine wpAnyH_ready (rs := [5]) (by kernel_rfl) (by simp) ?_
          refine AllReadyH.cons (o := sreOp5) rfl (fun K hK => ?_) AllReadyH.nil
          (try unfold sreOp5)
          go_simp
          (go_at_call 17; (with_reducible refine (P1.out _).mono ?_); rintro e vk10 ⟨rfl, bq⟩)
          have HBk10 := Lib.hid (HBk9.out.trans (bq.mono HBk9.out.size)); have HRk10 := Lib.hid (HRk9.out.next bq); have HSk10 := Lib.hid (HSk9.out.next bq); clear bq
          clear hs_
          have hs_ := sreS HRk10.out
          refine hK.out _ _ (by exact hs_) (fun hHeld => ?_)
          clear hK K; (try simp only [Act.put, List.setIfInBounds_toArray, List.set_cons_zero, List.set_cons_succ])
          refine wpAnyH_ready (rs := [11]) (by kernel_rfl) (by simp) ?_
          refine AllReadyH.cons (o := sreOp11) rfl (fun K hK => ?_) AllReadyH.nil
          (try unfold sreOp11)
          go_simp
          (go_at_call 17; (with_reducible refine (P2.out _).mono ?_); rintro e vk11 ⟨rfl, bq⟩)
          have HBk11 := Lib.hid (HBk10.out.trans (bq.mono HBk10.out.size)); have HRk11 := Lib.hid (HRk10.out.next bq); have HSk11 := Lib.hid (HSk10.out.next bq); clear bq
          clear hs_
          have hs_ := sreS HRk11.out
          refine hK.out _ _ (by exact hs_) (fun hHeld => ?_)
          clear hK K; (try simp only [Act.put, List.setIfInBounds_toArray, List.set_cons_zero, List.set_cons_succ])
          refine wpAnyH_take (i := 12) (oi := sreOp12) (v := ?_) rfl (by kernel_rfl) (by kernel_rfl) (by kernel_rfl) (fun _ _ _ h => h) (Or.inl ⟨by rfl, ?_⟩) (by assumption) ?_
          rotate_left
          · ((try unfold sreOp12); intro w hSw; (try dsimp only at hSw); go_simp; (first | done | with_reducible rfl))
          (try unfold sreOp12)
          (try simp only [Act.put, List.setIfInBounds_toArray, List.set_cons_zero, List.set_cons_succ])
          refine wpAnyH_ready (rs := [14]) (by kernel_rfl) (by simp) ?_
          refine AllReadyH.cons (o := sreOp14) rfl (fun K hK => ?_) AllReadyH.nil
          (try unfold sreOp14)
          have u0_ : vk11.cell? ⟨qSk9, 0, none⟩ = some (.int .i64 0) := HSk11.out.c 0 rfl
          have r0_ := HSk11.out.z 0
          have u1_ : vk11.cell? ⟨qSk9, 1, none⟩ = some (.int .i64 0) := HSk11.out.c 1 rfl
          have r1_ := HSk11.out.z 1
          have u2_ : vk11.cell? ⟨qSk9, 2, none⟩ = some (.int .i64 0) := HSk11.out.c 2 rfl
          have r2_ := HSk11.out.z 2
          have u3_ : vk11.cell? ⟨qSk9, 3, none⟩ = some (.int .i64 0) := HSk11.out.c 3 rfl
          have r3_ := HSk11.out.z 3
          go_simp
          clear u0_ r0_ u1_ r1_ u2_ r2_ u3_ r3_
          have HBk12 : Hid (Below wr.heap.size wr ((((vk11.setCell ⟨qSk9, 0, none⟩ (.int .i64 X)).setCell ⟨qSk9, 1, none⟩ (.int .i64 Y)).setCell ⟨qSk9, 2, none⟩ (.int .i64 U)).setCell ⟨qSk9, 3, none⟩ (.int .i64 V))) := Lib.hid (Below.setCell (Below.setCell (Below.setCell (Below.setCell HBk11.out gS (.int .i64 X)) gS (.int .i64 Y)) gS (.int .i64 U)) gS (.int .i64 V))
          have HRk12 := Lib.hid (RowAt.other (RowAt.other (RowAt.other (RowAt.other HRk11.out (by first | exact ne_R_S | exact en_S_R) 0 (.int .i64 X)) (by first | exact ne_R_S | exact en_S_R) 1 (.int .i64 Y)) (by first | exact ne_R_S | exact en_S_R) 2 (.int .i64 U)) (by first | exact ne_R_S | exact en_S_R) 3 (.int .i64 V))
          have HSk12 : Hid (CBox (qSk9) 35 #[.int .i64 X, .int .i64 Y, .int .i64 U, .int .i64 V] ((((vk11.setCell ⟨qSk9, 0, none⟩ (.int .i64 X)).setCell ⟨qSk9, 1, none⟩ (.int .i64 Y)).setCell ⟨qSk9, 2, none⟩ (.int .i64 U)).setCell ⟨qSk9, 3, none⟩ (.int .i64 V))) := Lib.hid (CBox.set (CBox.set (CBox.set (CBox.set HSk11.out 0 (.int .i64 X) (show (0 : Nat) < 4 by decide)) 1 (.int .i64 Y) (show (1 : Nat) < 4 by decide)) 2 (.int .i64 U) (show (2 : Nat) < 4 by decide)) 3 (.int .i64 V) (show (3 : Nat) < 4 by decide))
          clear hs_
          generalize ((((vk11.setCell ⟨qSk9, 0, none⟩ (.int .i64 X)).setCell ⟨qSk9, 1, none⟩ (.int .i64 Y)).setCell ⟨qSk9, 2, none⟩ (.int .i64 U)).setCell ⟨qSk9, 3, none⟩ (.int .i64 V)) = vk12 at *
          have hs_ := sreS HRk12.out
          refine hK.out _ _ (by exact hs_) (fun hHeld => ?_)
          clear hK K; (try simp only [Act.put, List.setIfInBounds_toArray, List.set_cons_zero, List.set_cons_succ])
          refine wpAnyH_done (by kernel_rfl) ?_ _
          go_wp2_with fail
          go_meet
          exact ⟨_, rfl, HSk12.out, HBk12.out⟩
      case rest =>
        obtain ⟨q, rfl, hs, hb⟩ := hcut
        have HO2 := Lib.hid (HO.out.next hb)
        have HB2 := Lib.hid (HB.out.trans (hb.mono HB.out.size))
        have HS2 := Lib.hid hs
        clear hs hb HR0 P1 P2 HB HO
        have s0 : wc.cell? ⟨q, 0, none⟩ = some (.int .i64 X) := HS2.out.c 0 rfl
        have s1 : wc.cell? ⟨q, 1, none⟩ = some (.int .i64 Y) := HS2.out.c 1 rfl
        have s2 : wc.cell? ⟨q, 2, none⟩ = some (.int .i64 U) := HS2.out.c 2 rfl
        have s3 : wc.cell? ⟨q, 3, none⟩ = some (.int .i64 V) := HS2.out.c 3 rfl
        by_cases hc : Y = V
        · have NY := Lib.hid (NZ.out hc)
          clear NX NZ
          subst hc
          go_wp2_with fail
          go_roundw
          case rel => exact NY.out _ _ _ (by first | rfl | exact ew) HB2.out HO2.out
          case measure => simp [intOf]; omega
        · have NY := Lib.hid (NX.out hc)
          clear NX NZ
          have hd : (Y != V) = true := bne_iff_ne.2 hc
          have hz : w.heap.size ≤ wc.heap.size := HB2.out.size
          go_wp2_with (refine edg_one_pl _ rfl (.tmp 32) (.tmp 34) rfl rfl ⟨X, Y, U, V⟩ HO2.out rfl rfl hcl hz ?_; intro v' w' ho' hg; have HO3 := Lib.hid ho'; have HB3 := Lib.hid (HB2.out.trans (HO2.out.grown hg hz)); clear ho' hg)
          go_roundw
          case rel => exact NY.out _ _ _ (by first | rfl | exact ew) HB3.out HO3.out
          case measure => simp [intOf]; omega
    · obtain rfl : k = n := by omega
      have ho := HO.out
      rw [EN.out, List.take_length] at ho
      have HO2 := Lib.hid ho
      clear ho
      go_wp2_with fail
      go_ret
      exact ⟨_, rfl, HO2.out, HB.out⟩
end Go.Proofs.Ytejhegoegmoemaa
