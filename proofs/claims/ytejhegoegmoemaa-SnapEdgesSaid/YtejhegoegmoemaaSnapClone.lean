/-
  slices.Clone of a row of edges.
-/
import Derived.Test.YtejhegoegmoemaaEdgMem
import Derived.BigFrame
namespace Go.Proofs.Ytejhegoegmoemaa
open Go.RowKit Go.Shelf

/-- A row that is read, behind an empty one of the call's own. -/
theorem edg_all_pl {ops : Array Oper} {rest : List Oper} {o : Oper} {a : Act} {Q : Exit → Act → World → Prop} (w : World) (hgd : o.guard = none) (s x : Operand)
    (ho : o.op = .call { callee := .builtin .append, args := #[s, x], argTypes := #[28, 28] }) {B : Nat} {v : Value} {l : List Edg} {ad : Addr} {c : Nat} (hown : edgL.own B v [] w) (hs : a.eval s = v) (hr : RdE (some ad) l w) (hx : a.eval x = .slice (some ad) l.length c)
    (hk : l.length ≤ 100000000) (hB : B ≤ w.heap.size) (h : ∀ v' w', edgL.own B v' l w' → w.grownBy w' v.ownBlock → wpList Try.prog ops Q rest (a.put o.dst v') w') :
    wpList Try.prog ops Q (o :: rest) a w := by
  obtain ⟨i0, hi, hz0, hz1, hz2⟩ := info_parts info_edg
  have hw : Region.wanted o (yielded ops a.tmps) = true := by simp [Region.wanted, hgd]
  rcases hr with rfl | ⟨b, off, e, _, hc⟩
  · obtain ⟨aa, cap, rfl, hle⟩ := hown.shape
    refine Go.BigFrame.wpList_want hw fun K hK => ?_
    have hrun : (Builtin.append_ #[28, 28] o.type #[.slice aa 0 cap, .slice (some ad) 0 c]).run Try.prog w = .ok (.slice aa 0 cap) w :=
      run_append_nothing w _ _ o.type 35 i0 Try.underlying28 hi _ _ _ hle _ (Src.ofSlice _ Try.underlying28 ad 0 c [] (by simp) (fun j u hj => by simp at hj) (fun u hu => by simp at hu))
    unfold Oper.wp execOp
    simp only [List.length_nil] at hx hs
    simp only [ho, resolve, invoke, builtin, Sem.run_bind, Sem.run_pure, Result.andThen_ok, List.map_toArray, List.map_cons, List.map_nil, hs, hx, hrun]
    exact hK _ _ (h _ _ hown ⟨rfl, rfl, rfl, Nat.le_refl _, fun _ _ _ => rfl⟩)
  · injection e with e
    subst e
    refine Lay8.append edgL w Try.underlying28 hi hz0 hz1 hz2 rfl (by decide) hw s x ho hown hs hc hx (by simpa using hk) hB ?_
    intro v' w' ho' hg
    exact h v' w' (by simpa using ho') hg
theorem nil_edgs (c : Nat) (w : World) : Sem.run Try.prog (binOp BinOp.eql 28 (Value.slice none 0 c) (Value.slice none 0 0)) w = .ok (.bool true) w := by kernel_rfl
theorem some_edgs (ad : Addr) (n c : Nat) (w : World) : Sem.run Try.prog (binOp BinOp.eql 28 (Value.slice (some ad) n c) (Value.slice none 0 0)) w = .ok (.bool false) w := by kernel_rfl
set_option maxRecDepth 100000 in
theorem clone_any (a : Option Addr) (l : List Edg) (cap : Nat) (w : World) (hl : l.length ≤ 100000000) (h : RdE a l w) :
    Calls Try.prog 18 #[.slice a l.length cap] w fun e w' => ∃ v, e = .returned v ∧ edgL.own w.heap.size v l w' ∧ Below w.heap.size w w' := by
  cases a with
  | none =>
    obtain rfl : l = [] := by
      rcases h with h | ⟨b, off, e, _⟩
      · exact h
      · cases e
    have hn := nil_edgs cap w
    go_enter Try.func18, Try.ntmps18
    go_wp2_with fail
    go_ret
    exact ⟨_, rfl, Lay8.own_nil _ _, Below.refl _ _⟩
  | some ad =>
    have bA := (Below.refl w.heap.size w).alloc (Nat.le_refl _) (.cells #[] 35)
    have HO := Lib.hid (show edgL.own w.heap.size (.slice (some ⟨w.heap.size, 0, none⟩) 0 0) [] (w.alloc (.cells #[] 35)) from World.ownsRow_lit w #[] 0 (Nat.le_refl _) (by decide) rfl)
    have HR := Lib.hid (Lay8.rd.next h bA)
    have HB := Lib.hid bA
    clear bA h
    have hn := some_edgs ad l.length cap w
    have hz : w.heap.size ≤ (w.alloc (.cells #[] 35)).heap.size := HB.out.size
    go_enter Try.func18, Try.ntmps18
    go_wp2_with (refine edg_all_pl _ rfl (.tmp 5) (.tmp 6) rfl HO.out rfl HR.out rfl hl hz ?_; intro v' w' ho' hg; have HO2 := Lib.hid ho'; have HB2 := Lib.hid (HB.out.trans (HO.out.grown hg hz)); clear ho' hg)
    go_ret
    exact ⟨_, rfl, HO2.out, HB2.out⟩
end Go.Proofs.Ytejhegoegmoemaa
