/-
  The document's Parse of path data: its three loops.
-/
import Derived.Test.YtgiibcnakiggaaaGreatDoorRef6One
namespace Go.Proofs.YtgiibcnakiggaaaGreatDoor
open Go.RowKit Go.Shelf

/-- What the document's Parse answers lies in block q. -/
def ToldAt (q : Nat) (v : Value) (z er : Int) (w : World) : Prop := w.heap[q]? = some (.cells #[v, .int .i64 z, .int .i64 er] 48)
theorem ToldAt.c0 {q : Nat} {v : Value} {z er : Int} {w : World} (h : ToldAt q v z er w) : w.cell? ⟨q, 0, none⟩ = some v := by unfold ToldAt at h; simp [World.cell?, h]
theorem ToldAt.c1 {q : Nat} {v : Value} {z er : Int} {w : World} (h : ToldAt q v z er w) : w.cell? ⟨q, 1, none⟩ = some (.int .i64 z) := by unfold ToldAt at h; simp [World.cell?, h]
theorem ToldAt.c2 {q : Nat} {v : Value} {z er : Int} {w : World} (h : ToldAt q v z er w) : w.cell? ⟨q, 2, none⟩ = some (.int .i64 er) := by unfold ToldAt at h; simp [World.cell?, h]
theorem ToldAt.z {q : Nat} {v : Value} {z er : Int} {w : World} (h : ToldAt q v z er w) (o : Nat) : w.frozen? ⟨q, o, none⟩ = false := by unfold ToldAt at h; simp [World.frozen?, h]
theorem ToldAt.lt {q : Nat} {v : Value} {z er : Int} {w : World} (h : ToldAt q v z er w) : q < w.heap.size := by
  unfold ToldAt at h; exact (Array.getElem?_eq_some_iff.1 h).1
theorem ToldAt.below {q B : Nat} {v : Value} {z er : Int} {w w' : World} (h : ToldAt q v z er w) (t : Below B w w') (hq : q < B) : ToldAt q v z er w' := by
  unfold ToldAt at *; rw [t.block q hq]; exact h
theorem ToldAt.set {q : Nat} {v : Value} {z er : Int} {w : World} (h : ToldAt q v z er w) (v' : Value) (z' er' : Int) : ToldAt q v' z' er' (((w.setCell ⟨q, 0, none⟩ v').setCell ⟨q, 1, none⟩ (.int .i64 z')).setCell ⟨q, 2, none⟩ (.int .i64 er')) := by
  unfold ToldAt at *
  simp only [World.setCell, Array.getElem?_modify, h]
  simp
theorem set3_kep (w : World) (q : Nat) (a b c : Value) : Kep q none w (((w.setCell ⟨q, 0, none⟩ a).setCell ⟨q, 1, none⟩ b).setCell ⟨q, 2, none⟩ c) :=
  ⟨rfl, rfl, rfl, by simp [World.setCell], fun k _ hn _ => (Below.heap_setCell _ _ _ _ (by exact hn)).trans ((Below.heap_setCell _ _ _ _ (by exact hn)).trans (Below.heap_setCell _ _ _ _ (by exact hn)))⟩
/-- What the document's Parse leaves. -/
def ToldPost (RES : List Cmd × Int × Int) (w : World) (e : Ending) (W' : World) : Prop :=
  ∃ v, e = .returned (.agg #[v, .int .i64 RES.2.1, .int .i64 RES.2.2]) ∧ Cmds (w.heap.size + 1) v RES.1 W' ∧ Below w.heap.size w W'
theorem told_close {f : Func} {n : Nat} (hres : f.results = #[ResultVar.cell n 48]) {RES : List Cmd × Int × Int} {w wr : World} {q : Nat} {v v0 : Value} {z0 e0 : Int} {ts : Array Value} (hq : q = w.heap.size) (ht : ToldAt q v0 z0 e0 wr) (hc : Cmds (w.heap.size + 1) v RES.1 wr) (hb : Below w.heap.size w wr) (hts : ts[n]? = some (.pointer (some ⟨q, 0, none⟩))) :
    bodyPost Tryz.prog f (ToldPost RES w) .ret { tmps := ts, defers := [] } (((wr.setCell ⟨q, 0, none⟩ v).setCell ⟨q, 1, none⟩ (.int .i64 RES.2.1)).setCell ⟨q, 2, none⟩ (.int .i64 RES.2.2)) := by
  have hg := ht.set v RES.2.1 RES.2.2
  have c0 := hg.c0
  have c1 := hg.c1
  have c2 := hg.c2
  have K := set3_kep wr q v (.int .i64 RES.2.1) (.int .i64 RES.2.2)
  obtain ⟨a, cap, rfl⟩ := hc.shape
  have hbb : Below w.heap.size w (((wr.setCell ⟨q, 0, none⟩ (.slice a RES.1.length cap)).setCell ⟨q, 1, none⟩ (.int .i64 RES.2.1)).setCell ⟨q, 2, none⟩ (.int .i64 RES.2.2)) :=
    Below.setCell (Below.setCell (Below.setCell hb (by exact Nat.le_of_eq hq.symm) _) (by exact Nat.le_of_eq hq.symm) _) (by exact Nat.le_of_eq hq.symm) _
  have hcc : Cmds (w.heap.size + 1) (.slice a RES.1.length cap) RES.1 (((wr.setCell ⟨q, 0, none⟩ (.slice a RES.1.length cap)).setCell ⟨q, 1, none⟩ (.int .i64 RES.2.1)).setCell ⟨q, 2, none⟩ (.int .i64 RES.2.2)) := by
    obtain ⟨avs, h1, h2, h3⟩ := hc
    have st : ∀ {e : TypeId} {sz k : Nat} {u : Value} {xs : List Value}, wr.ownsRow (w.heap.size + 1) e sz u k xs → (((wr.setCell ⟨q, 0, none⟩ (.slice a RES.1.length cap)).setCell ⟨q, 1, none⟩ (.int .i64 RES.2.1)).setCell ⟨q, 2, none⟩ (.int .i64 RES.2.2)).ownsRow (w.heap.size + 1) e sz u k xs :=
      fun h => own_stay h fun j hj => by
        have := own_type h j hj
        exact K.block j this.1 (by omega) (by simp)
    exact ⟨avs, h1, st h2, fun i x av hx ha => ⟨st (h3 i x av hx ha).1, (h3 i x av hx ha).2⟩⟩
  refine bodyPost_ret (v := .agg #[.slice a RES.1.length cap, .int .i64 RES.2.1, .int .i64 RES.2.2]) (by simp [results, hres, go_sem, c0, c1, c2, hts]) rfl ⟨_, rfl, hcc, hbb⟩
theorem own_grown {W W1 : World} {R R' : Nat} {e e' : TypeId} {sz sz' : Nat} {v av : Value} {k k' : Nat} {xs ys : List Value} (h : W.ownsRow R' e' sz' av k' ys) (hrow : W.ownsRow R e sz v k xs) (he : e ≠ e') (hg : W.grownBy W1 v.ownBlock) : W1.ownsRow R' e' sz' av k' ys :=
  own_stay h fun q hq => by
    obtain ⟨hlt, _, cur, hc⟩ := own_type h q hq
    refine hg.block q hlt (fun e2 => he ?_)
    obtain ⟨_, _, cur2, hc2⟩ := own_type hrow q e2.symm
    rw [hc2] at hc
    injection hc with hc
    injection hc with _ hc
theorem cmds_snoc {R : Nat} {v v' av : Value} {l : List Cmd} {x : Cmd} {avs : List Value} {W W1 : World} (h1 : avs.length = l.length) (h2 : W.ownsRow R 52 2 v l.length (flatC l avs))
    (h3 : ∀ (i : Nat) y a, l[i]? = some y → avs[i]? = some a → W.ownsRow R 2 1 a y.args.length (ints y.args) ∧ y.letter < 256) (hx : W.ownsRow R 2 1 av x.args.length (ints x.args)) (hc : x.letter < 256)
    (hg : W.grownBy W1 v.ownBlock) (h' : W1.ownsRow R 52 2 v' (l.length + 1) (flatC l avs ++ [.int .u8 (x.letter : Int), av])) : Cmds R v' (l ++ [x]) W1 := by
  refine ⟨avs ++ [av], by simp [h1], ?_, ?_⟩
  · rw [flatC_snoc _ _ _ _ h1, List.length_append]; exact h'
  · intro i y a hy ha
    by_cases hi : i < l.length
    · rw [List.getElem?_append_left hi] at hy
      rw [List.getElem?_append_left (by omega)] at ha
      exact ⟨own_grown (h3 i y a hy ha).1 h2 (by decide) hg, (h3 i y a hy ha).2⟩
    · have hi' : i = l.length := by
        have := (List.getElem?_eq_some_iff.1 hy).1
        simp at this; omega
      subst hi'
      rw [List.getElem?_append_right (Nat.le_refl _), Nat.sub_self] at hy
      rw [List.getElem?_append_right (by omega), h1, Nat.sub_self] at ha
      obtain rfl : x = y := by simpa using hy
      obtain rfl : av = a := by simpa using ha
      exact ⟨own_grown hx h2 (by decide) hg, hc⟩
theorem Cmds.below {R B : Nat} {v : Value} {l : List Cmd} {W W' : World} (h : Cmds R v l W) (t : Below B W W') (hB : B = W.heap.size) : Cmds R v l W' := by subst hB; exact h.next t
theorem append_i64n {ops : Array Oper} {rest : List Oper} {o : Oper} {a : Act} {Q : Exit → Act → World → Prop} (w : World) (hgd : o.guard = none) (s x : Operand)
    (ho : o.op = .call { callee := .builtin .append, args := #[s, x], argTypes := #[50, 50] }) {B k n : Nat} (hn : w.heap.size = n) {v : Value} {os : List Value} (d : Int) (hown : w.ownsRow B 2 1 v k os) (hs : a.eval s = v)
    (hx : a.eval x = .slice (some ⟨n, 0, none⟩) 1 1) (hk : k ≤ 1000000000) (hB : B ≤ w.heap.size)
    (h : ∀ v' w', w'.ownsRow B 2 1 v' (k + 1) (os ++ [.int .i64 d]) → w.grownBy w' v.ownBlock → wpList Tryz.prog ops Q rest (a.put o.dst v') w') :
    wpList Tryz.prog ops Q (o :: rest) a (w.alloc (.cells #[.int .i64 d] 2)) := by
  subst hn; exact append_i64 w hgd s x ho d hown hs hx hk hB h
/-- The command that is put together lies in block bx. -/
def BoxC (bx c : Nat) (v : Value) (w : World) : Prop := w.heap[bx]? = some (.cells #[.int .u8 (c : Int), v] 52)
theorem BoxC.c0 {bx c : Nat} {v : Value} {w : World} (h : BoxC bx c v w) : w.cell? ⟨bx, 0, none⟩ = some (.int .u8 (c : Int)) := by unfold BoxC at h; simp [World.cell?, h]
theorem BoxC.c1 {bx c : Nat} {v : Value} {w : World} (h : BoxC bx c v w) : w.cell? ⟨bx, 1, none⟩ = some v := by unfold BoxC at h; simp [World.cell?, h]
theorem BoxC.z1 {bx c : Nat} {v : Value} {w : World} (h : BoxC bx c v w) : w.frozen? ⟨bx, 1, none⟩ = false := by unfold BoxC at h; simp [World.frozen?, h]
theorem BoxC.lt {bx c : Nat} {v : Value} {w : World} (h : BoxC bx c v w) : bx < w.heap.size := by unfold BoxC at h; exact (Array.getElem?_eq_some_iff.1 h).1
theorem BoxC.new (w : World) (c : Nat) : BoxC w.heap.size c (.slice none 0 0) (w.alloc (.cells #[.int .u8 (c : Int), .slice none 0 0] 52)) := World.alloc_heap_new w _
theorem BoxC.next {bx c : Nat} {v : Value} {w w' : World} (h : BoxC bx c v w) (t : Below w.heap.size w w') : BoxC bx c v w' := by
  have := h.lt
  unfold BoxC at *; rw [t.block bx this]; exact h
theorem BoxC.not_own {bx c : Nat} {v u : Value} {w : World} {R k : Nat} {xs : List Value} (h : BoxC bx c v w) (hrow : w.ownsRow R 2 1 u k xs) : some bx ≠ u.ownBlock := by
  intro e2
  obtain ⟨_, _, cur, hc⟩ := own_type hrow bx e2.symm
  unfold BoxC at h
  rw [h] at hc
  injection hc with hc
  injection hc with _ hc
  exact absurd hc (by decide)
theorem GotAt.not_own {q : Nat} {x : Int × Int × Nat} {u : Value} {w : World} {R k : Nat} {xs : List Value} (h : GotAt q x w) (hrow : w.ownsRow R 2 1 u k xs) : some q ≠ u.ownBlock := by
  intro e2
  obtain ⟨_, _, cur, hc⟩ := own_type hrow q e2.symm
  unfold GotAt at h
  rw [h] at hc
  injection hc with hc
  injection hc with _ hc
  exact absurd hc (by decide)
theorem BoxC.grown {bx c : Nat} {v : Value} {w w' : World} {row : Option Nat} (h : BoxC bx c v w) (hg : w.grownBy w' row) (hn : some bx ≠ row) : BoxC bx c v w' := by
  have hl := h.lt
  unfold BoxC at *; rw [hg.block bx hl hn]; exact h
theorem GotAt.grown {q : Nat} {x : Int × Int × Nat} {w w' : World} {row : Option Nat} (h : GotAt q x w) (hg : w.grownBy w' row) (hn : some q ≠ row) : GotAt q x w' := by
  have hl := h.lt
  unfold GotAt at *; rw [hg.block q hl hn]; exact h
theorem BoxC.set {bx c : Nat} {v : Value} {w : World} (h : BoxC bx c v w) (v' : Value) : BoxC bx c v' (w.setCell ⟨bx, 1, none⟩ v') := by
  unfold BoxC at *
  simp only [World.setCell, Array.getElem?_modify, h]
  simp

def OutInv (s : ByteArray) (RES : List Cmd × Int × Int) (w : World) (u3 u4 : Value) (wr : World) : Prop :=
  ∃ (p : Nat) (pre : List Cmd), u4 = .int .i64 (p : Int) ∧ p ≤ s.size ∧ pre.length ≤ p ∧ Cmds (w.heap.size + 1) u3 pre wr ∧ ToldAt w.heap.size (.slice none 0 0) 0 0 wr ∧ Below w.heap.size w wr ∧ Hid (PA s none p pre = RES)
def MidInv (s : ByteArray) (RES : List Cmd × Int × Int) (w : World) (n p0 : Nat) (u3 u4 u5 u7 : Value) (wr : World) : Prop :=
  ∃ (p c : Nat) (m : Bool) (pre : List Cmd), u4 = .int .i64 (p : Int) ∧ u5 = .int .u8 (c : Int) ∧ u7 = .bool m ∧ c < 256 ∧ cntL c = n ∧ p0 < p ∧ p ≤ s.size ∧ pre.length + isOn u7 ≤ p ∧ Cmds (w.heap.size + 1) u3 pre wr ∧ ToldAt w.heap.size (.slice none 0 0) 0 0 wr ∧ Below w.heap.size w wr ∧
    Hid ((if m = true then PA s (some c) p pre else PA s none p pre) = RES)
def InInv (s : ByteArray) (AR : (List Int × Nat) ⊕ (Nat × Int)) (Wx : World) (n c : Nat) (u4 u9 : Value) (wr : World) : Prop :=
  ∃ (p k : Nat) (acc : List Int) (v : Value), u4 = .int .i64 (p : Int) ∧ u9 = .int .i64 (k : Int) ∧ k ≤ n ∧ p ≤ s.size ∧ acc.length = k ∧ BoxC Wx.heap.size c v wr ∧ wr.ownsRow (Wx.heap.size + 1) 2 1 v k (ints acc) ∧ Below Wx.heap.size Wx wr ∧ Hid (argsL (txOf s) c (n - k) k p acc = AR)

set_option maxRecDepth 100000 in
set_option maxHeartbeats 8000000 in
theorem rParse6_any (s : ByteArray) (w : World) (hs : s.size ≤ 100) : Calls Tryz.prog 16 #[.string s] w (ToldPost (pathAll (txOf s)) w) := by
  have hs5 : s.size ≤ 100000 := by omega
  have hm : s.size ≤ maxLen := by unfold maxLen; omega
  have BL := Lib.hid (fun i w hi => rblanks_any s i w hm hi)
  have CN := Lib.hid (fun c w => rcount_any c w)
  have ON := Lib.hid (fun c k i w hi hk => rone_any s c k i w hs hi hk)
  have ST := Lib.hid (fun i sg w => rstarts_any s i sg w hs5)
  have RA := Lib.hid (fun c w => rarc_any c w)
  have GP := Lib.hid (fun i w hi => rgap_any s i w hm hi)
  have PN := Lib.hid (fun i hi out => pa_none (s := s) hs5 (i := i) hi out)
  have PS := Lib.hid (fun i hi c hc out => pa_some (s := s) hs5 (i := i) hi (c := c) hc out)
  have OKX := Lib.hid (txOf_ok s hs5)
  obtain ⟨RES, hRES⟩ : ∃ R, pathAll (txOf s) = R := ⟨_, rfl⟩
  rw [hRES]
  rw [pa_all, show (txOf s).blkA 0 = 0 + blk (s.data.toList.drop 0) from rfl] at hRES
  have HR0 := Lib.hid hRES
  have hbl0 := blk_drop_le s 0 (Nat.zero_le _)
  have b0 := Lib.hid ((Below.refl w.heap.size w).alloc (Nat.le_refl _) (.cells #[.slice none 0 0, .int .i64 0, .int .i64 0] 48))
  have TA := Lib.hid (show ToldAt w.heap.size (.slice none 0 0) 0 0 (w.alloc (.cells #[.slice none 0 0, .int .i64 0, .int .i64 0] 48)) from World.alloc_heap_new w _)
  clear hRES
  go_enter Tryz.func16, Tryz.ntmps16
  go_wp2_with fail
  refine (BL.out 0 _ (Nat.zero_le _)).mono ?_
  rintro e w1 ⟨rfl, rfl⟩
  go_wp2_with fail
  simp only [Nat.zero_add, List.drop_zero] at hbl0 HR0
  go_loopw [3, 4] (fun u3 u4 wr => OutInv s RES w u3 u4 wr) (fun _ u4 _ => s.size - (intOf u4).toNat)
  case atStart => exact ⟨_, [], rfl, hbl0, Nat.zero_le _, Cmds.nil _ _, TA.out, b0.out, HR0⟩
  case round =>
    clear TA b0 HR0
    obtain ⟨p, pre, rfl, hp, hpl, hc, hta, hb, hE⟩ := hrel
    obtain ⟨a', cap', rfl⟩ := hc.shape
    have HC := Lib.hid hc
    have HTA := Lib.hid hta
    have HB := Lib.hid hb
    have z0 := hta.z 0
    have z1 := hta.z 1
    have z2 := hta.z 2
    have k0 := hta.c0
    have k1 := hta.c1
    have k2 := hta.c2
    clear hc hta hb
    by_cases hlt : p < s.size
    · have hE' := hE.out
      rw [PN.out p hp, if_pos hlt] at hE'
      have hcl := pk_lt s p
      have hpk := pk_in hlt
      by_cases h9 : cntL (pk s p) = 99
      · rw [if_pos (Or.inl h9)] at hE'
        have HE := Lib.hid hE'
        rw [hpk] at h9
        have CC := Lib.hid (fun w => CN.out s[p].toNat w)
        unfold cntI at CC
        rw [if_pos h9] at CC
        clear hE hE' h9 hpk hcl
        go_wp2_with fail
        refine (CC.out _).mono ?_
        rintro e w2 ⟨rfl, rfl⟩
        go_wp2_with fail
        rw [← HE.out]
        exact told_close Tryz.results16 rfl HTA.out HC.out HB.out rfl
      · have hcnt7 := cnt_le (pk s p)
        have hcI : cntI (pk s p) = (cntL (pk s p) : Int) := by unfold cntI; rw [if_neg h9]
        by_cases hfirst : pre = [] ∧ pk s p ≠ 77 ∧ pk s p ≠ 109
        · rw [if_pos (Or.inr hfirst)] at hE'
          have HE := Lib.hid hE'
          obtain ⟨rfl, h77, h109⟩ := hfirst
          have HC := Lib.hid (show Cmds (w.heap.size + 1) (.slice a' 0 cap') [] wr from HC.out)
          have CC := Lib.hid (fun w => CN.out (pk s p) w)
          rw [hcI] at CC
          rw [hpk] at CC h77 h109
          have e77 : ((s[p].toNat : Int) == 77) = false := by rw [beq_eq_false_iff_ne]; omega
          have e109 : ((s[p].toNat : Int) == 109) = false := by rw [beq_eq_false_iff_ne]; omega
          have f77 : ((s[p].toNat : Int) != 77) = true := by rw [bne, e77]; rfl
          have f109 : ((s[p].toNat : Int) != 109) = true := by rw [bne, e109]; rfl
          have hnn : decide (((cntL s[p].toNat : Nat) : Int) < 0) = false := decide_eq_false (by omega)
          clear hE hE' h9 hpk hcl hcI hcnt7 h77 h109
          generalize cntL s[p].toNat = n at *
          go_wp2_with fail
          refine (CC.out _).mono ?_
          rintro e w2 ⟨rfl, rfl⟩
          go_wp2_with fail
          all_goals (rw [← HE.out]; exact told_close Tryz.results16 rfl HTA.out HC.out HB.out rfl)
        · rw [if_neg (fun h => by rcases h with h | h; exact h9 h; exact hfirst h)] at hE'
          have CC := Lib.hid (fun w => CN.out (pk s p) w)
          rw [hcI] at CC
          have hblk := blk_drop_le s (p + 1) (by omega)
          have BB := Lib.hid (fun w => BL.out (p + 1) w (by omega))
          have e1 : IntKind.i64.wrap ((p : Int) + 1) = ((p + 1 : Nat) : Int) := by rw [IntWalk.i64_in _ (by omega)]; omega
          have hge : p + 1 ≤ p + 1 + blk (s.data.toList.drop (p + 1)) := Nat.le_add_right _ _
          rw [show (txOf s).blkA (p + 1) = p + 1 + blk (s.data.toList.drop (p + 1)) from rfl] at hE'
          generalize p + 1 + blk (s.data.toList.drop (p + 1)) = p1 at *
          have hnn : decide (((cntL (pk s p) : Nat) : Int) < 0) = false := decide_eq_false (by omega)
          -- the first letter's test
          have hdis : (decide ((pre.length : Int) = 0) && ((pk s p : Int) != 77) && ((pk s p : Int) != 109)) = false := by
            cases h0 : decide ((pre.length : Int) = 0) with
            | false => rfl
            | true =>
              have h0' : pre = [] := List.length_eq_zero_iff.1 (by have := of_decide_eq_true h0; omega)
              cases h1 : ((pk s p : Int) != 77) with
              | false => rfl
              | true => cases h2 : ((pk s p : Int) != 109) with
                | false => rfl
                | true =>
                  exfalso
                  refine hfirst ⟨h0', ?_, ?_⟩
                  · intro e; rw [e] at h1; exact absurd h1 (by decide)
                  · intro e; rw [e] at h2; exact absurd h2 (by decide)
          rw [hpk] at CC hE' hnn hdis hcl hcnt7 h9
          have H9 := Lib.hid h9
          have HE := Lib.hid hE'
          have HCL := Lib.hid hcl
          clear hE hE' hfirst hcI h9 hpk
          generalize hc0 : s[p].toNat = c0 at *
          obtain ⟨avs, ha1, ha2, ha3⟩ := id HC.out
          have HA2 := Lib.hid ha2
          have HA3 := Lib.hid ha3
          clear ha2 ha3
          have hsz1 : w.heap.size + 1 ≤ wr.heap.size := Nat.succ_le_of_lt HTA.out.lt
          have hd3 : ((pre.length : Int) == 0) = false ∨ (((pre.length : Int) == 0) = true ∧ ((c0 : Int) != 77) = false) ∨ (((pre.length : Int) == 0) = true ∧ ((c0 : Int) != 77) = true ∧ ((c0 : Int) != 109) = false) := by
            cases h0 : ((pre.length : Int) == 0) with
            | false => exact Or.inl rfl
            | true =>
              have h0' : decide ((pre.length : Int) = 0) = true := by simpa using h0
              rw [h0'] at hdis
              cases h1 : ((c0 : Int) != 77) with
              | false => exact Or.inr (Or.inl ⟨rfl, rfl⟩)
              | true =>
                rw [h1] at hdis
                exact Or.inr (Or.inr ⟨rfl, rfl, by simpa using hdis⟩)
          clear hdis
          by_cases hn0 : cntL c0 = 0
          · have hE0 := HE.out
            rw [if_pos hn0] at hE0
            have HE0 := Lib.hid hE0
            rw [hn0] at CC
            clear hE0 HE hn0 hnn hcnt7
            rcases hd3 with t0 | ⟨t0, t1⟩ | ⟨t0, t1, t2⟩
            all_goals
              go_wp2_with fail
              refine (CC.out _).mono ?_
              rintro e w2 ⟨rfl, rfl⟩
              go_wp2_with fail
              refine (BB.out _).mono ?_
              rintro e w2 ⟨rfl, rfl⟩
              go_wp2_with (first | (at_builtin; refine append_cmd _ rfl (.tmp 51) (.tmp 54) rfl rfl _ _ _ _ HA2.out rfl rfl (by omega) hsz1 ?_; intro v' w1 hown' hg1))
              go_roundw
              case rel =>
                have hbel : Below (w.heap.size + 1) wr w1 := (Below.refl _ wr).grown hg1 hsz1 fun q hq => (own_type HA2.out q hq).2.1
                exact ⟨p1, pre ++ [⟨c0, []⟩], rfl, hblk, by simp; omega, cmds_snoc (x := ⟨c0, []⟩) ha1 HA2.out HA3.out (World.ownsRow_nil _ _ _ _) HCL.out hg1 hown', HTA.out.below hbel (Nat.lt_succ_self _), HB.out.trans (hbel.mono (Nat.le_succ _)), HE0⟩
              case measure => simp [intOf]; omega
          · have hE0 := HE.out
            rw [if_neg hn0] at hE0
            have HE0 := Lib.hid hE0
            have hnz : (((cntL c0 : Nat) : Int) == 0) = false := by rw [beq_eq_false_iff_ne]; omega
            have hn7 : cntL c0 ≤ 7 := by have := H9.out; omega
            have HN7 := Lib.hid hn7
            have HPOS := Lib.hid (show 0 < cntL c0 from by omega)
            obtain ⟨n, hn⟩ : ∃ n, cntL c0 = n := ⟨_, rfl⟩
            have HN := Lib.hid hn
            rw [hn] at CC hnz hnn HN7 HPOS
            clear hE0 HE hn0 hcnt7 hn7 hn HA2 HA3 ha1 avs
            rcases hd3 with t0 | ⟨t0, t1⟩ | ⟨t0, t1, t2⟩
            all_goals
              go_wp2_with fail
              refine (CC.out _).mono ?_
              rintro e w2 ⟨rfl, rfl⟩
              go_wp2_with fail
              refine (BB.out _).mono ?_
              rintro e w2 ⟨rfl, rfl⟩
              go_wp2_with fail
              go_loopw [3, 4, 5, 7] (fun u3 u4 u5 u7 wr => MidInv s RES w n p u3 u4 u5 u7 wr) (fun _ u4 _ u7 _ => s.size - (intOf u4).toNat + isOn u7)
              case atStart =>
                refine ⟨p1, c0, true, pre, rfl, rfl, rfl, HCL.out, HN.out, by omega, hblk, by simp only [isOn]; omega, HC.out, HTA.out, HB.out, Lib.hid ?_⟩
                rw [if_pos rfl]; exact HE0.out
              case round =>
                clear HE0 HC HTA HB HCL HN BB CC hnn hnz hsz1 z0 z1 z2 k0 k1 k2 hblk hge e1 hc0
                obtain ⟨p2, c, m, pre2, rfl, rfl, rfl, hc256, hcn, hpp, hp2, hpl2, hc, hta, hb, hE⟩ := hrel
                obtain ⟨a2, cap2, rfl⟩ := hc.shape
                have HC := Lib.hid hc
                have HTA := Lib.hid hta
                have HB := Lib.hid hb
                clear hc hta hb
                cases m with
                | false =>
                  have hE' := hE.out
                  rw [if_neg (by decide)] at hE'
                  have HE := Lib.hid hE'
                  clear hE hE'
                  go_wp2_with fail
                  go_roundw
                  case rel => exact ⟨p2, pre2, rfl, hp2, by simpa [isOn] using hpl2, HC.out, HTA.out, HB.out, HE⟩
                  case measure => simp [intOf]; omega
                | true =>
                  have hE' := hE.out
                  rw [if_pos rfl, PS.out p2 hp2 c (by rw [hcn]; exact HPOS.out)] at hE'
                  rw [hcn] at hE'
                  obtain ⟨AR, hAR⟩ : ∃ AR, argsL (txOf s) c n 0 p2 [] = AR := ⟨_, rfl⟩
                  have hAM := args_mono OKX.out c n 0 p2 [] hp2
                  have hAL := args_len (txOf s) c n 0 p2 []
                  rw [hAR] at hE' hAM hAL
                  have HE := Lib.hid hE'
                  have HAM := Lib.hid hAM
                  have HAL := Lib.hid hAL
                  have HAR := Lib.hid hAR
                  have HPL := Lib.hid hpl2
                  have HHP2 := Lib.hid hp2
                  have HPP := Lib.hid hpp
                  have HCN := Lib.hid hcn
                  have HC256 := Lib.hid hc256
                  clear hE hE' hAM hAL hAR hpl2 hpp hcn hc256
                  obtain ⟨Wx, rfl⟩ : ∃ W, W = wr := ⟨wr, rfl⟩
                  have bx0 := Lib.hid (BoxC.new Wx c)
                  have bb0 := Lib.hid ((Below.refl Wx.heap.size Wx).alloc (Nat.le_refl _) (.cells #[.int .u8 (c : Int), .slice none 0 0] 52))
                  go_wp2_with fail
                  go_loopw [4, 9] (fun u4 u9 wq => InInv s AR Wx n c u4 u9 wq) (fun _ u9 _ => n - (intOf u9).toNat)
                  case atStart => exact ⟨p2, 0, [], _, rfl, rfl, Nat.zero_le _, HHP2.out, rfl, bx0.out, World.ownsRow_nil _ _ _ _, bb0.out, HAR⟩
                  case round =>
                    clear bx0 bb0 HAR
                    obtain ⟨q, k, acc, v, rfl, rfl, hk, hq, hacc, hbx, hown, hbw, hR⟩ := hrel
                    obtain ⟨av, ac, rfl⟩ := own_shape hown
                    have BX := Lib.hid hbx
                    have OW := Lib.hid hown
                    have BW := Lib.hid hbw
                    have HR := Lib.hid hR.out
                    clear hbx hown hbw hR
                    by_cases hkn : k < n
                    · have O := Lib.hid (ON.out c k q wr hq (fun h => by have := arc_cnt h; have := HCN.out; omega))
                      have hst : argsL (txOf s) c (n - k) k q acc = if (one (txOf s) c k q).2.1 = 0 then argsL (txOf s) c (n - (k + 1)) (k + 1) (one (txOf s) c k q).2.2 (acc ++ [(one (txOf s) c k q).1]) else .inr ((one (txOf s) c k q).2.2, (one (txOf s) c k q).2.1) := by
                        rw [show n - k = (n - (k + 1)) + 1 from by omega]; rfl
                      have hok := (one_ok OKX.out c k q hq).hi
                      have hok' : (one (txOf s) c k q).2.2 ≤ s.size := hok
                      rw [HR.out] at hst
                      clear hok
                      generalize one (txOf s) c k q = x at *
                      obtain ⟨x1, x2, x3⟩ := x
                      unfold Got at O
                      have hkn' : (k : Int) < (n : Int) := by omega
                      have hn7 := HN7.out
                      go_wp2_with fail
                      refine O.out.mono ?_
                      rintro e w3 ⟨rfl, b3⟩
                      have hbxl := BX.out.lt
                      have bal : Below w3.heap.size w3 (w3.alloc (.cells #[.int .i64 x1, .int .i64 x2, .int .i64 (x3 : Int)] 73)) := (Below.refl _ w3).alloc (Nat.le_refl _) _
                      have BX4 := Lib.hid ((BX.out.next b3).next bal)
                      have OW4 := Lib.hid (own_next (own_next OW.out b3) bal)
                      have G4 := Lib.hid (GotAt.new w3 (x1, x2, x3))
                      have hl3 : Wx.heap.size < w3.heap.size := Nat.lt_of_lt_of_le hbxl b3.size
                      have BW4 := Lib.hid ((BW.out.trans (b3.mono (Nat.le_of_lt hbxl))).trans (bal.mono (Nat.le_of_lt hl3)))
                      have hB4 : Wx.heap.size + 1 ≤ (w3.alloc (.cells #[.int .i64 x1, .int .i64 x2, .int .i64 (x3 : Int)] 73)).heap.size := by simp; omega
                      have y0 := BX4.out.c1
                      have n1 : ¬ w3.heap.size = Wx.heap.size := by omega
                      have n2 : ¬ Wx.heap.size = w3.heap.size := by omega
                      clear b3 bal BX OW BW O
                      by_cases h0 : x2 = 0
                      · subst h0
                        rw [if_pos rfl] at hst
                        have HST := Lib.hid hst
                        clear hst
                        go_wp2_with (first | (at_builtin; refine append_i64n _ rfl (.tmp 79) (.tmp 82) rfl (by simp) _ OW4.out rfl rfl (by omega) hB4 ?_; intro v' w5 hown' hg5; obtain ⟨a5, cap5, rfl⟩ := own_shape hown'; have BX5 := BX4.out.grown hg5 (BX4.out.not_own OW4.out); have G5 := G4.out.grown hg5 (G4.out.not_own OW4.out); have y1 := BX5.c1; have y2 := BX5.z1; have y3 := G5.c2))
                        go_roundw
                        case rel =>
                          refine ⟨x3, k + 1, acc ++ [x1], _, rfl, by go_num, by omega, hok', by rw [List.length_append, hacc]; rfl, BX5.set _, ?_, ?_, Lib.hid HST.out.symm⟩
                          · rw [ints_snoc]
                            exact own_stay hown' fun j hj => Below.heap_setCell _ _ _ _ (fun e => BX5.not_own hown' (by have e' : j = Wx.heap.size := e; rw [← e']; exact hj.symm))
                          · exact Below.setCell (BW4.out.grown hg5 (by simp; omega) (fun j hj => by have := (own_type OW4.out j hj).2.1; omega)) (Nat.le_refl _) _
                        case measure => simp [intOf]; omega
                      · rw [if_neg h0] at hst
                        rw [hst] at HE
                        have HTA4 := Lib.hid (HTA.out.below BW4.out HTA.out.lt)
                        have HC4 := Lib.hid (HC.out.below BW4.out rfl)
                        have HB4 := Lib.hid (HB.out.trans (BW4.out.mono (Nat.le_of_lt HTA.out.lt)))
                        have z0 := HTA4.out.z 0
                        have z1 := HTA4.out.z 1
                        have z2 := HTA4.out.z 2
                        have k0 := HTA4.out.c0
                        have k1 := HTA4.out.c1
                        have k2 := HTA4.out.c2
                        have hx2 : (x2 == 0) = false := by rw [beq_eq_false_iff_ne]; exact h0
                        have hx2' : (x2 != 0) = true := by rw [bne, hx2]; rfl
                        have HRE := Lib.hid (show RES = (pre2, (x3 : Int), x2) from HE.out.symm)
                        clear hst h0 HE HR HAM HAL y0 G4 OW4 BX4
                        go_wp2_with fail
                        rw [HRE.out]
                        exact told_close Tryz.results16 (RES := (pre2, (x3 : Int), x2)) rfl HTA4.out HC4.out HB4.out rfl
                    · have hkn2 : k = n := by omega
                      subst hkn2
                      have hR := HR.out
                      rw [Nat.sub_self, show argsL (txOf s) c 0 k q acc = .inl (acc, q) from rfl] at hR
                      have hE1 := HE.out
                      rw [← hR] at hE1
                      have hE2 : behindA s c q (pre2 ++ [⟨c, acc⟩]) = RES := hE1
                      unfold behindA at hE2
                      have hqp : p2 < q := by
                        have := HAM.out.1 acc q hR.symm
                        exact this.2.2 HPOS.out
                      have hbq := blk_drop_le s q hq
                      have hgq := gap_drop_le s 0 (q + blk (s.data.toList.drop q)) hbq
                      rw [show (txOf s).blkA q = q + blk (s.data.toList.drop q) from rfl, show (txOf s).gapA (q + blk (s.data.toList.drop q)) = q + blk (s.data.toList.drop q) + gap 0 (s.data.toList.drop (q + blk (s.data.toList.drop q))) from rfl] at hE2
                      have hqq : q ≤ q + blk (s.data.toList.drop q) := Nat.le_add_right _ _
                      have BLq := Lib.hid (fun w => BL.out q w hq)
                      have GPq := Lib.hid (fun w => GP.out (q + blk (s.data.toList.drop q)) w hbq)
                      have STq := Lib.hid (fun w => ST.out (q + blk (s.data.toList.drop q)) (!isArc c) w)
                      have RAc := Lib.hid (fun w => RA.out c w)
                      generalize q + blk (s.data.toList.drop q) = q1 at *
                      have hgg : q1 ≤ q1 + gap 0 (s.data.toList.drop q1) := Nat.le_add_right _ _
                      generalize q1 + gap 0 (s.data.toList.drop q1) = q2 at *
                      have HCw := HC.out.below BW.out rfl
                      obtain ⟨avs, ha1, ha2, ha3⟩ := HCw
                      have HA1 := Lib.hid ha1
                      have HA2 := Lib.hid ha2
                      have HA3 := Lib.hid ha3
                      have hszw : w.heap.size + 1 ≤ wr.heap.size := by have := HTA.out.lt; have := BW.out.size; omega
                      have hnl : ¬ (k : Int) < (k : Int) := by omega
                      have y0 := BX.out.c0
                      have y1 := BX.out.c1
                      have HTw := Lib.hid (HTA.out.below BW.out HTA.out.lt)
                      have HBw := Lib.hid (HB.out.trans (BW.out.mono (Nat.le_of_lt HTA.out.lt)))
                      have OWw := Lib.hid (own_lower OW.out (show w.heap.size + 1 ≤ Wx.heap.size + 1 from by have := HTA.out.lt; omega))
                      have hpl3 : pre2.length + 1 ≤ p2 := by have := HPL.out; simp only [isOn] at this; omega
                      have hnx : (c = 77 ∧ nextL c = 76) ∨ (c = 109 ∧ nextL c = 108) ∨ (((c : Int) == 77) = false ∧ ((c : Int) == 109) = false ∧ nextL c = c) := by
                        by_cases h1 : c = 77
                        · exact Or.inl ⟨h1, by rw [h1]; rfl⟩
                        · by_cases h2 : c = 109
                          · exact Or.inr (Or.inl ⟨h2, by rw [h2]; rfl⟩)
                          · exact Or.inr (Or.inr ⟨by rw [beq_eq_false_iff_ne]; omega, by rw [beq_eq_false_iff_ne]; omega, by unfold nextL; rw [if_neg h1, if_neg h2]⟩)
                      have hkx := (kin_next HC256.out (by have := HCN.out; have := HN7.out; omega)).2
                      have HKX := Lib.hid (show cntL (nextL c) = k ∧ nextL c < 256 from ⟨hkx.1.trans HCN.out, hkx.2⟩)
                      have HACC := Lib.hid hacc
                      have HX := Lib.hid hnx
                      have HRX := Lib.hid (show ∀ (v' : Value) (w5 : World), w5.ownsRow (w.heap.size + 1) 52 2 v' (pre2.length + 1) (flatC pre2 avs ++ [.int .u8 (c : Int), .slice av k ac]) → wr.grownBy w5 (Value.slice a2 pre2.length cap2).ownBlock →
                          Cmds (w.heap.size + 1) v' (pre2 ++ [⟨c, acc⟩]) w5 ∧ ToldAt w.heap.size (.slice none 0 0) 0 0 w5 ∧ Below w.heap.size w w5 from fun v' w5 hown' hg5 => by
                        have hbel : Below (w.heap.size + 1) wr w5 := (Below.refl _ wr).grown hg5 hszw fun j hj => (own_type HA2.out j hj).2.1
                        refine ⟨cmds_snoc (x := ⟨c, acc⟩) HA1.out HA2.out HA3.out (av := .slice av k ac) ?_ HC256.out hg5 hown', HTw.out.below hbel (Nat.lt_succ_self _), HBw.out.trans (hbel.mono (Nat.le_succ _))⟩
                        show wr.ownsRow _ _ 1 _ acc.length (ints acc)
                        rw [HACC.out]; exact OWw.out)
                      by_cases hcm : q1 < s.size ∧ pk s q1 = 44
                      · rw [if_pos hcm] at hE2
                        have HE2 := Lib.hid hE2
                        obtain ⟨hq1, h44⟩ := hcm
                        rw [pk_in hq1] at h44
                        generalize (decide (q1 < s.size) && startB (pk s q1) (!isArc c)) = m0 at *
                        generalize isArc c = arc at *
                        clear hE1 hE2 hR HR HE HAM HAL hkx hacc hnx BX OW BW ha1 ha2 ha3
                        go_wp2_with (first | (at_builtin; refine append_cmd _ rfl (.tmp 87) (.tmp 89) rfl rfl _ _ _ _ HA2.out rfl rfl (by omega) hszw ?_; intro v' w5 hown' hg5; obtain ⟨FC, FT, FB⟩ := HRX.out _ _ hown' hg5))
                        refine (BLq.out _).mono ?_
                        rintro e w6 ⟨rfl, rfl⟩
                        go_wp2_with fail
                        refine (RAc.out _).mono ?_
                        rintro e w6 ⟨rfl, rfl⟩
                        go_wp2_with fail
                        refine (STq.out _).mono ?_
                        rintro e w6 ⟨rfl, rfl⟩
                        go_wp2_with fail
                        refine (GPq.out _).mono ?_
                        rintro e w6 ⟨rfl, rfl⟩
                        have FC' := Lib.hid FC
                        have FT' := Lib.hid FT
                        have FB' := Lib.hid FB
                        clear FC FT FB hown' hg5 HRX HA1 HA2 HA3 y0 y1 hnl h44
                        rcases HX.out with ⟨hc, hx⟩ | ⟨hc, hx⟩ | ⟨hc, hc', hx⟩
                        · subst hc
                          go_wp2_with fail
                          go_roundw
                          case rel => exact ⟨q2, _, true, pre2 ++ [⟨_, acc⟩], rfl, by rw [hx] <;> rfl, rfl, HKX.out.2, HKX.out.1, by have := HPP.out; omega, hgq, by simp only [isOn, List.length_append, List.length_cons, List.length_nil]; omega, FC'.out, FT'.out, FB'.out, Lib.hid (by rw [if_pos rfl]; exact HE2.out)⟩
                          case measure => simp [intOf, isOn]; omega
                        · subst hc
                          go_wp2_with fail
                          go_roundw
                          case rel => exact ⟨q2, _, true, pre2 ++ [⟨_, acc⟩], rfl, by rw [hx] <;> rfl, rfl, HKX.out.2, HKX.out.1, by have := HPP.out; omega, hgq, by simp only [isOn, List.length_append, List.length_cons, List.length_nil]; omega, FC'.out, FT'.out, FB'.out, Lib.hid (by rw [if_pos rfl]; exact HE2.out)⟩
                          case measure => simp [intOf, isOn]; omega
                        · go_wp2_with fail
                          go_roundw
                          case rel => exact ⟨q2, _, true, pre2 ++ [⟨_, acc⟩], rfl, by rw [hx] <;> rfl, rfl, HKX.out.2, HKX.out.1, by have := HPP.out; omega, hgq, by simp only [isOn, List.length_append, List.length_cons, List.length_nil]; omega, FC'.out, FT'.out, FB'.out, Lib.hid (by rw [if_pos rfl]; exact HE2.out)⟩
                          case measure => simp [intOf, isOn]; omega
                      · rw [if_neg hcm] at hE2
                        obtain ⟨m0, hm0⟩ : ∃ m0, (decide (q1 < s.size) && startB (pk s q1) (!isArc c)) = m0 := ⟨_, rfl⟩
                        have HE2 := Lib.hid (show (if m0 = true then PA s (some (nextL c)) q1 (pre2 ++ [⟨c, acc⟩]) else PA s none q1 (pre2 ++ [⟨c, acc⟩])) = RES from by
                          rw [← hE2, ← hm0]
                          by_cases h1 : q1 < s.size <;> simp [h1])
                        rw [hm0] at STq
                        have hcm' : (q1 < s.size ∧ (q1 < s.size → ¬ pk s q1 = 44)) ∨ ¬ q1 < s.size := by
                          by_cases h1 : q1 < s.size
                          · exact Or.inl ⟨h1, fun _ h => hcm ⟨h1, h⟩⟩
                          · exact Or.inr h1
                        generalize isArc c = arc at *
                        clear hE1 hE2 hR HR HE HAM HAL hkx hacc hnx BX OW BW ha1 ha2 ha3 hm0 hcm
                        rcases hcm' with ⟨hq1, h44⟩ | hq1
                        · have h44 := h44 hq1
                          rw [pk_in hq1] at h44
                          have e44 : ((s[q1].toNat : Int) == 44) = false := by rw [beq_eq_false_iff_ne]; omega
                          go_wp2_with (first | (at_builtin; refine append_cmd _ rfl (.tmp 87) (.tmp 89) rfl rfl _ _ _ _ HA2.out rfl rfl (by omega) hszw ?_; intro v' w5 hown' hg5; obtain ⟨FC, FT, FB⟩ := HRX.out _ _ hown' hg5))
                          refine (BLq.out _).mono ?_
                          rintro e w6 ⟨rfl, rfl⟩
                          go_wp2_with fail
                          refine (RAc.out _).mono ?_
                          rintro e w6 ⟨rfl, rfl⟩
                          go_wp2_with fail
                          refine (STq.out _).mono ?_
                          rintro e w6 ⟨rfl, rfl⟩
                          have FC' := Lib.hid FC
                          have FT' := Lib.hid FT
                          have FB' := Lib.hid FB
                          clear FC FT FB hown' hg5 HRX HA1 HA2 HA3 y0 y1 hnl
                          rcases HX.out with ⟨hc, hx⟩ | ⟨hc, hx⟩ | ⟨hc, hc', hx⟩
                          · subst hc
                            go_wp2_with fail
                            go_roundw
                            case rel => exact ⟨q1, _, m0, pre2 ++ [⟨_, acc⟩], rfl, by rw [hx] <;> rfl, rfl, HKX.out.2, HKX.out.1, by have := HPP.out; omega, hbq, by cases m0 <;> simp only [isOn, List.length_append, List.length_cons, List.length_nil] <;> omega, FC'.out, FT'.out, FB'.out, HE2⟩
                            case measure => cases m0 <;> simp [intOf, isOn] <;> omega
                          · subst hc
                            go_wp2_with fail
                            go_roundw
                            case rel => exact ⟨q1, _, m0, pre2 ++ [⟨_, acc⟩], rfl, by rw [hx] <;> rfl, rfl, HKX.out.2, HKX.out.1, by have := HPP.out; omega, hbq, by cases m0 <;> simp only [isOn, List.length_append, List.length_cons, List.length_nil] <;> omega, FC'.out, FT'.out, FB'.out, HE2⟩
                            case measure => cases m0 <;> simp [intOf, isOn] <;> omega
                          · go_wp2_with fail
                            go_roundw
                            case rel => exact ⟨q1, _, m0, pre2 ++ [⟨_, acc⟩], rfl, by rw [hx] <;> rfl, rfl, HKX.out.2, HKX.out.1, by have := HPP.out; omega, hbq, by cases m0 <;> simp only [isOn, List.length_append, List.length_cons, List.length_nil] <;> omega, FC'.out, FT'.out, FB'.out, HE2⟩
                            case measure => cases m0 <;> simp [intOf, isOn] <;> omega
                        · have hq1' : ¬ (q1 : Int) < (s.size : Int) := by omega
                          go_wp2_with (first | (at_builtin; refine append_cmd _ rfl (.tmp 87) (.tmp 89) rfl rfl _ _ _ _ HA2.out rfl rfl (by omega) hszw ?_; intro v' w5 hown' hg5; obtain ⟨FC, FT, FB⟩ := HRX.out _ _ hown' hg5))
                          refine (BLq.out _).mono ?_
                          rintro e w6 ⟨rfl, rfl⟩
                          go_wp2_with fail
                          refine (RAc.out _).mono ?_
                          rintro e w6 ⟨rfl, rfl⟩
                          go_wp2_with fail
                          refine (STq.out _).mono ?_
                          rintro e w6 ⟨rfl, rfl⟩
                          have FC' := Lib.hid FC
                          have FT' := Lib.hid FT
                          have FB' := Lib.hid FB
                          clear FC FT FB hown' hg5 HRX HA1 HA2 HA3 y0 y1 hnl
                          rcases HX.out with ⟨hc, hx⟩ | ⟨hc, hx⟩ | ⟨hc, hc', hx⟩
                          · subst hc
                            go_wp2_with fail
                            go_roundw
                            case rel => exact ⟨q1, _, m0, pre2 ++ [⟨_, acc⟩], rfl, by rw [hx] <;> rfl, rfl, HKX.out.2, HKX.out.1, by have := HPP.out; omega, hbq, by cases m0 <;> simp only [isOn, List.length_append, List.length_cons, List.length_nil] <;> omega, FC'.out, FT'.out, FB'.out, HE2⟩
                            case measure => cases m0 <;> simp [intOf, isOn] <;> omega
                          · subst hc
                            go_wp2_with fail
                            go_roundw
                            case rel => exact ⟨q1, _, m0, pre2 ++ [⟨_, acc⟩], rfl, by rw [hx] <;> rfl, rfl, HKX.out.2, HKX.out.1, by have := HPP.out; omega, hbq, by cases m0 <;> simp only [isOn, List.length_append, List.length_cons, List.length_nil] <;> omega, FC'.out, FT'.out, FB'.out, HE2⟩
                            case measure => cases m0 <;> simp [intOf, isOn] <;> omega
                          · go_wp2_with fail
                            go_roundw
                            case rel => exact ⟨q1, _, m0, pre2 ++ [⟨_, acc⟩], rfl, by rw [hx] <;> rfl, rfl, HKX.out.2, HKX.out.1, by have := HPP.out; omega, hbq, by cases m0 <;> simp only [isOn, List.length_append, List.length_cons, List.length_nil] <;> omega, FC'.out, FT'.out, FB'.out, HE2⟩
                            case measure => cases m0 <;> simp [intOf, isOn] <;> omega
    · have hE' := hE.out
      rw [PN.out p hp, if_neg hlt] at hE'
      have HE := Lib.hid hE'
      have hnl : ¬ (p : Int) < (s.size : Int) := by omega
      clear hE hE'
      go_wp2_with fail
      rw [← HE.out]
      exact told_close Tryz.results16 rfl HTA.out HC.out HB.out rfl
end Go.Proofs.YtgiibcnakiggaaaGreatDoor
