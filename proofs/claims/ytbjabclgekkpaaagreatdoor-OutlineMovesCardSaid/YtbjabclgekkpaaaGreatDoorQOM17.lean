/- Joined: Ref4Parse, Ref5, DecUniq, PathTx. -/
import Derived.Test.YtbjabclgekkpaaaGreatDoorQOM02
import Derived.Test.YtbjabclgekkpaaaGreatDoorQOM09
import Derived.Test.YtbjabclgekkpaaaGreatDoorQOM11
import Derived.Test.YtbjabclgekkpaaaGreatDoorQOM16
namespace Go.Proofs.YtbjabclgekkpaaaGreatDoor
open Go.RowKit Go.Shelf
/-- Block r holds the number z. -/
def Boxed (r : Nat) (z : Int) (w : World) : Prop := ∃ (n : Bool) (x : Nat) (a : Option Addr) (cap : Nat), NumAt r n (.slice a (dg x).length cap) w ∧ Row a (dg x) w ∧ (dg x).length ≤ cap ∧ cap ≤ maxLen ∧ z = sgn n x
theorem Boxed.lt {r : Nat} {z : Int} {w : World} (h : Boxed r z w) : r < w.heap.size := by obtain ⟨_, _, _, _, h, _⟩ := h; exact h.lt
theorem Boxed.below {r : Nat} {z : Int} {w w' : World} (h : Boxed r z w) (t : Below w.heap.size w w') : Boxed r z w' := by
  obtain ⟨n, x, a, cap, h1, h2, h3⟩ := h
  exact ⟨n, x, a, cap, h1.below t h1.lt, h2.below t (Nat.le_refl _), h3⟩
theorem Boxed.set {r : Nat} {n : Bool} {s : Option Addr} {m c : Nat} {nD : Bool} {xD : Nat} {aD : Option Addr} {capD : Nat} {z : Int} {w : World} (h : NumAt r n (.slice s m c) w) (h2 : Row aD (dg xD) w) (h3 : (dg xD).length ≤ capD) (h4 : capD ≤ maxLen) (h5 : z = sgn nD xD) :
    Boxed r z ((w.setCell ⟨r, 0, none⟩ (.bool nD)).setCell ⟨r, 1, none⟩ (.slice aD (dg xD).length capD)) := ⟨nD, xD, aD, capD, h.set, h2.far h, h3, h4, h5⟩
theorem NumAt.other {q r o : Nat} {n : Bool} {s v : Value} {w : World} (h : NumAt q n s w) (hr : q ≠ r) : NumAt q n s (w.setCell ⟨r, o, none⟩ v) := by
  unfold NumAt at *
  rw [Below.heap_setCell _ _ _ _ (by exact hr)]; exact h
theorem Boxed.other {q r : Nat} {n : Bool} {s : Option Addr} {m c : Nat} {b : Bool} {v : Value} {z : Int} {w : World} (h : Boxed q z w) (hr : q ≠ r) (hN : NumAt r n (.slice s m c) w) :
    Boxed q z ((w.setCell ⟨r, 0, none⟩ (.bool b)).setCell ⟨r, 1, none⟩ v) := by
  obtain ⟨n', x, a, cap, h1, h2, h3⟩ := h
  exact ⟨n', x, a, cap, (h1.other hr).other hr, h2.far hN, h3⟩
/-- What is kept throughout: the value's block, both numbers' blocks. -/
structure PSt (w : World) (q r r2 : Nat) (bl nq : Bool) (sq : Value) (p U D : Int) (wc : World) : Prop where
  up : Boxed r U wc
  down : Boxed r2 D wc
  val : Val4 q bl nq sq p wc
  below : Below w.heap.size w wc
theorem allDig_append' {a b : List UInt8} (h : AllDig a) (k : AllDig b) : AllDig (a ++ b) := fun c hc => by
  rcases List.mem_append.1 hc with hc | hc
  · exact h c hc
  · exact k c hc
theorem scan_whole (s : ByteArray) : scanAt s.data.toList 0 true = ((walkL s.data.toList 1).1, wholeS (walkL s.data.toList 1).2) := by
  rw [scan_at, List.drop_zero, scan_eq]
  simp [wk]
theorem rparse_bad (s : ByteArray) (w : World) (hs : s.size ≤ 100) (h : ¬ Acc s.data.toList 1) : Calls Tryz.prog 125 #[.string s] w (Tells (0, 3) w) := by
  have SC := Lib.hid (rscan_any s 0 true w (by omega) (by omega))
  unfold ScanPost at SC
  rw [scan_whole] at SC
  have le := walk_fst_le s.data.toList 1
  rw [← size_list] at le
  unfold Acc at h
  rw [← size_list] at h
  generalize (walkL s.data.toList 1).1 = k at *
  generalize wholeS (walkL s.data.toList 1).2 = ok at *
  cases ok
  · clear h
    go_enter Tryz.func125, Tryz.ntmps125
    go_wp2_with fail
    refine SC.out.mono ?_
    rintro e w1 ⟨rfl, rfl⟩
    go_wp2_with fail
    go_ret2
    exact ⟨rfl, Below.refl _ _⟩
  · have hk : k ≠ s.size := fun e => h ⟨e, rfl⟩
    have g : ((k : Int) != (s.size : Int)) = true := by rw [bne_iff_ne]; omega
    clear h
    go_enter Tryz.func125, Tryz.ntmps125
    go_wp2_with fail
    refine SC.out.mono ?_
    rintro e w1 ⟨rfl, rfl⟩
    go_wp2_with fail
    go_ret2
    exact ⟨rfl, Below.refl _ _⟩
/-- Behind 'up := ..'. -/
def CutU (w : World) (q : Nat) (bl nq : Bool) (sq : Value) (p U : Int) (s7 : Value) (wc : World) : Prop :=
  ∃ r : Nat, s7 = .pointer (some ⟨r, 0, none⟩) ∧ r ≠ q ∧ w.heap.size ≤ r ∧ Boxed r U wc ∧ Val4 q bl nq sq p wc ∧ Below w.heap.size w wc
theorem cutu_set {w wB : World} {q r : Nat} {bl nq : Bool} {sq : Value} {p U : Int} {nB : Bool} {xB : Nat} {aB : Option Addr} {capB : Nat} (NB : NumAt r false (.slice none 0 0) wB) (hr : r ≠ q) (hw : w.heap.size ≤ r) (h2 : Row aB (dg xB) wB) (h3 : (dg xB).length ≤ capB) (h4 : capB ≤ maxLen) (h5 : U = sgn nB xB)
    (hq : Val4 q bl nq sq p wB) (hb : Below w.heap.size w wB) : CutU w q bl nq sq p U (.pointer (some ⟨r, 0, none⟩)) ((wB.setCell ⟨r, 0, none⟩ (.bool nB)).setCell ⟨r, 1, none⟩ (.slice aB (dg xB).length capB)) :=
  ⟨r, rfl, hr, hw, Boxed.set NB h2 h3 h4 h5, (hq.other (Ne.symm hr)).other (Ne.symm hr), Below.setCell (Below.setCell hb hw _) hw _⟩
theorem cutu_new {w wB : World} {q : Nat} {bl nq : Bool} {sq : Value} {p U : Int} {nB : Bool} {xB : Nat} {aB : Option Addr} {capB : Nat} (h2 : Row aB (dg xB) wB) (h3 : (dg xB).length ≤ capB) (h4 : capB ≤ maxLen) (h5 : U = sgn nB xB)
    (hq : Val4 q bl nq sq p wB) (hb : Below w.heap.size w wB) : CutU w q bl nq sq p U (.pointer (some ⟨wB.heap.size, 0, none⟩)) (wB.alloc (.cells #[.bool nB, .slice aB (dg xB).length capB] 131)) := by
  have t := (Below.refl wB.heap.size wB).alloc (Nat.le_refl _) (.cells #[.bool nB, .slice aB (dg xB).length capB] 131)
  exact ⟨wB.heap.size, rfl, Nat.ne_of_gt hq.lt, hb.size, ⟨nB, xB, aB, capB, NumAt.new wB nB _, h2.below t (Nat.le_refl _), h3, h4, h5⟩, hq.below t hq.lt, hb.alloc hb.size _⟩
theorem Val4.new (w : World) (b n : Bool) (s : Value) (p : Int) : Val4 w.heap.size b n s p (w.alloc (.cells #[.bool b, .bool n, s, .int .i64 p] 220)) := by
  show (w.heap.push _)[w.heap.size]? = _
  rw [Array.getElem?_push, if_pos rfl]
theorem ten_two (n : Nat) : 10 ^ (3 * n) ≤ 2 ^ (10 * n) := by
  rw [Nat.pow_mul, Nat.pow_mul]
  exact Nat.pow_le_pow_left (by decide) n
theorem big_k (k : Nat) (h : k = 236) : 2 ^ (16 * k) = Big := by
  rw [Nat.pow_mul]
  subst h
  rfl
theorem ten_pow_big (m : Nat) (h : m ≤ 1110) : 10 ^ m ≤ Big := by
  obtain ⟨n, hn⟩ : ∃ n : Nat, n = 370 := ⟨_, rfl⟩
  obtain ⟨k, hk⟩ : ∃ k : Nat, k = 236 := ⟨_, rfl⟩
  have h1 : 10 ^ m ≤ 10 ^ (3 * n) := Nat.pow_le_pow_right (by decide) (by omega)
  have h3 : 2 ^ (10 * n) ≤ 2 ^ (16 * k) := Nat.pow_le_pow_right (by decide) (by omega)
  rw [big_k k hk] at h3
  exact Nat.le_trans h1 (Nat.le_trans (ten_two n) h3)
theorem num_mul_big (D k c : Nat) (h : D < 10 ^ 100) (hk : k ≤ 1000) (hc : c ≤ 65536) : D * c * 10 ^ k * 10 ≤ Big := by
  have h5 : c ≤ 10 ^ 5 := by omega
  have e : 10 ^ 100 * 10 ^ 5 * 10 ^ k * 10 = 10 ^ (106 + k) := by
    rw [← Nat.pow_add, ← Nat.pow_add, ← Nat.pow_succ, show (100 + 5 + k).succ = 106 + k from by omega]
  refine Nat.le_trans ?_ (ten_pow_big (106 + k) (by omega))
  rw [← e]
  exact Nat.mul_le_mul (Nat.mul_le_mul (Nat.mul_le_mul (Nat.le_of_lt h) h5) (Nat.le_refl _)) (Nat.le_refl _)
theorem bel_drew {w w' : World} (h : Below w.drew.heap.size w.drew w') : Below w.heap.size w w' := Below.trans (b := w.drew) ((Below.refl w.heap.size w).drew) h
theorem bel_drew_new {w w' : World} {o : Obj} (h : Below (w.alloc o).drew.heap.size (w.alloc o).drew w') : Below w.heap.size w w' :=
  Below.trans (((Below.refl w.heap.size w).alloc (Nat.le_refl _) o).drew) (h.mono (show w.heap.size ≤ (w.alloc o).heap.size by simp))
theorem num_drew_new {w w' : World} {b : Bool} {s : Value} (h : Below (w.alloc (.cells #[.bool b, s] 131)).drew.heap.size (w.alloc (.cells #[.bool b, s] 131)).drew w') : NumAt w.heap.size b s w' :=
  NumAt.below (w := (w.alloc (.cells #[.bool b, s] 131)).drew) (NumAt.new w b s) h (NumAt.new w b s).lt
theorem bel_new {w w' : World} {o : Obj} (h : Below (w.alloc o).heap.size (w.alloc o) w') : Below w.heap.size w w' :=
  Below.trans ((Below.refl w.heap.size w).alloc (Nat.le_refl _) o) (h.mono (show w.heap.size ≤ (w.alloc o).heap.size by simp))
theorem num_new {w w' : World} {b : Bool} {s : Value} (h : Below (w.alloc (.cells #[.bool b, s] 131)).heap.size (w.alloc (.cells #[.bool b, s] 131)) w') : NumAt w.heap.size b s w' :=
  (NumAt.new w b s).below h (NumAt.new w b s).lt
theorem numv_alloc {v : Value} {z : Int} {w : World} (h : NumV v z w) (o : Obj) : NumV v z (w.alloc o) := h.below ((Below.refl w.heap.size w).alloc (Nat.le_refl _) o) (Nat.le_refl _)
theorem PSt.next {w wc w' : World} {q r r2 : Nat} {bl nq : Bool} {sq : Value} {p U D : Int} (h : PSt w q r r2 bl nq sq p U D wc) (t : Below wc.heap.size wc w') : PSt w q r r2 bl nq sq p U D w' :=
  ⟨h.up.below t, h.down.below t, h.val.below t h.val.lt, h.below.trans (t.mono h.below.size)⟩
theorem PSt.setUp {w wc : World} {q r r2 : Nat} {bl nq : Bool} {sq : Value} {p U U' D : Int} {nB : Bool} {xB : Nat} {aB : Option Addr} {capB : Nat} (h : PSt w q r r2 bl nq sq p U D wc) (hq : r ≠ q) (h2 : r2 ≠ r) (hw : w.heap.size ≤ r)
    (hB2 : Row aB (dg xB) wc) (hB3 : (dg xB).length ≤ capB) (hB4 : capB ≤ maxLen) (hB5 : U' = sgn nB xB) : PSt w q r r2 bl nq sq p U' D ((wc.setCell ⟨r, 0, none⟩ (.bool nB)).setCell ⟨r, 1, none⟩ (.slice aB (dg xB).length capB)) := by
  obtain ⟨n, x, a, cap, NA, _⟩ := h.up
  exact ⟨Boxed.set NA hB2 hB3 hB4 hB5, h.down.other h2 NA, (h.val.other (Ne.symm hq)).other (Ne.symm hq), Below.setCell (Below.setCell h.below hw _) hw _⟩
theorem PSt.setDown {w wc : World} {q r r2 : Nat} {bl nq : Bool} {sq : Value} {p U D D' : Int} {nB : Bool} {xB : Nat} {aB : Option Addr} {capB : Nat} (h : PSt w q r r2 bl nq sq p U D wc) (hq : r2 ≠ q) (h2 : r2 ≠ r) (hw : w.heap.size ≤ r2)
    (hB2 : Row aB (dg xB) wc) (hB3 : (dg xB).length ≤ capB) (hB4 : capB ≤ maxLen) (hB5 : D' = sgn nB xB) : PSt w q r r2 bl nq sq p U D' ((wc.setCell ⟨r2, 0, none⟩ (.bool nB)).setCell ⟨r2, 1, none⟩ (.slice aB (dg xB).length capB)) := by
  obtain ⟨n, x, a, cap, NA, _⟩ := h.down
  exact ⟨h.up.other (Ne.symm h2) NA, Boxed.set NA hB2 hB3 hB4 hB5, (h.val.other (Ne.symm hq)).other (Ne.symm hq), Below.setCell (Below.setCell h.below hw _) hw _⟩
def UpInv (w : World) (q r r2 : Nat) (bl nq : Bool) (sq : Value) (p : Int) (D pn : Nat) (i : Value) (wr : World) : Prop :=
  ∃ j : Nat, j ≤ pn ∧ i = .int .i64 (j : Int) ∧ PSt w q r r2 bl nq sq p ((D * 65536 * 10 ^ j : Nat) : Int) 1 wr
def DownInv (w : World) (q r r2 : Nat) (bl nq : Bool) (sq : Value) (p U : Int) (pn : Nat) (i : Value) (wr : World) : Prop :=
  ∃ j : Nat, j ≤ pn ∧ i = .int .i64 (-(j : Int)) ∧ PSt w q r r2 bl nq sq p U ((10 ^ j : Nat) : Int) wr
theorem mul_ten (X j : Nat) : ((X * 10 ^ j : Nat) : Int) * 10 = ((X * 10 ^ (j + 1) : Nat) : Int) := by
  rw [Nat.pow_succ, ← Nat.mul_assoc]; omega
theorem Row.farN {a : Option Addr} {zs : List Nat} {w w' : World} {q : Nat} {neg : Bool} {x : Option Addr} {n c : Nat} (h : Row a zs w) (hq : NumAt q neg (.slice x n c) w) (hs : w.heap.size ≤ w'.heap.size) (hk : ∀ k, k ≠ q → w'.heap[k]? = w.heap[k]?) : Row a zs w' := by
  rcases h with h | ⟨b, off, ha, hlt, hc⟩
  · exact Or.inl h
  · by_cases hz : zs = []
    · exact Or.inl hz
    · have hne : b ≠ q := by
        rintro rfl
        have h0 := hc 0 (List.length_pos_iff.2 hz)
        unfold NumAt at hq
        simp only [World.cell?, hq] at h0
        rcases off with _ | _ | off <;> simp at h0
      refine Or.inr ⟨b, off, ha, by omega, fun i hi => ?_⟩
      rw [World.cell?_of_block (w := w) (a := ⟨b, off + i, none⟩) (hk b hne)]
      exact hc i hi
theorem PSt.sign {w wc : World} {q r r2 : Nat} {bl nq : Bool} {sq : Value} {p U D : Int} {n nb : Bool} {x : Nat} {a : Option Addr} {cap : Nat} (h : PSt w q r r2 bl nq sq p U D wc) (h2 : r2 ≠ r) (hw : w.heap.size ≤ r)
    (NA : NumAt r n (.slice a (dg x).length cap) wc) (hr2 : Row a (dg x) wc) (hr3 : (dg x).length ≤ cap) (hr4 : cap ≤ maxLen) :
    NumAt r nb (.slice a (dg x).length cap) (wc.setCell ⟨r, 0, none⟩ (.bool nb)) ∧ NumV (.agg #[.bool nb, .slice a (dg x).length cap]) (sgn nb x) (wc.setCell ⟨r, 0, none⟩ (.bool nb)) ∧ Boxed r2 D (wc.setCell ⟨r, 0, none⟩ (.bool nb)) ∧ Below w.heap.size w (wc.setCell ⟨r, 0, none⟩ (.bool nb)) := by
  have hk : ∀ k, k ≠ r → (wc.setCell ⟨r, 0, none⟩ (.bool nb)).heap[k]? = wc.heap[k]? := fun k hk => Below.heap_setCell _ _ _ _ (by exact hk)
  have hs : wc.heap.size ≤ (wc.setCell ⟨r, 0, none⟩ (.bool nb)).heap.size := by simp [World.setCell]
  refine ⟨heap_put 0 _ NA, ⟨nb, x, a, cap, rfl, hr2.farN NA hs hk, hr3, hr4, rfl⟩, ?_, Below.setCell h.below hw _⟩
  obtain ⟨n', x', a', cap', NA', r2', r3', r4', r5'⟩ := h.down
  exact ⟨n', x', a', cap', NA'.other h2, r2'.farN NA hs hk, r3', r4', r5'⟩
theorem near_abs (v : Int) (d : Nat) (hd : 0 < d) : (near v d).natAbs ≤ v.natAbs + 1 := by
  unfold near
  have hd' : (0 : Int) < d := by omega
  have h1 : (v + (d : Int) / 2) / d ≤ v.natAbs + 1 := by
    have : (v + (d : Int) / 2) / d ≤ (((v.natAbs : Int) + 1) * d) / d := Int.ediv_le_ediv hd' (by
      have e : ((v.natAbs : Int) + 1) * d = v.natAbs * d + d := by rw [Int.add_mul, Int.one_mul]
      have e2 : (v.natAbs : Int) * 1 ≤ v.natAbs * d := Int.mul_le_mul_of_nonneg_left (by omega) (by omega)
      omega)
    rwa [Int.mul_ediv_cancel _ (by omega)] at this
  have h2 : -((v.natAbs : Int) + 1) ≤ (v + (d : Int) / 2) / d := by
    rw [Int.le_ediv_iff_mul_le hd']
    have e : -((v.natAbs : Int) + 1) * d = -((v.natAbs : Int) * d) - d := by rw [Int.neg_mul, Int.add_mul, Int.one_mul]; omega
    have e2 : (v.natAbs : Int) * 1 ≤ v.natAbs * d := Int.mul_le_mul_of_nonneg_left (by omega) (by omega)
    omega
  generalize (v + (d : Int) / 2) / d = y at *
  omega
theorem sgn_sg (bl n : Bool) (x X : Nat) (h : (X : Int) = sgn n x) : x = X ∧ sgn (bl && decide (0 < (dg x).length)) x = sg bl X := by
  have e : x = X := by
    have := congrArg Int.natAbs h
    rw [sgn_natAbs, Int.natAbs_natCast] at this
    exact this.symm
  subst e
  refine ⟨rfl, ?_⟩
  cases bl with
  | false => rfl
  | true =>
    by_cases h0 : x = 0
    · subst h0; rw [dg_zero]; rfl
    · have : 0 < (dg x).length := by
        rw [dg_pos x h0]; simp
      rw [decide_eq_true this]; rfl
theorem sg_abs (bl : Bool) (X : Nat) : (sg bl X).natAbs = X := by
  cases bl
  · rw [sg_false]; omega
  · rw [sg_true]; omega
theorem pair_small {z : Int} (h1 : -4294967296 < z) (h2 : z < 4294967296) : Pair z = .tuple #[.int .i64 z, .bool true] := pair_i64 ⟨by omega, by omega⟩
set_option maxHeartbeats 8000000 in
set_option maxRecDepth 100000 in
theorem rparse_num (s : ByteArray) (sg' a : List UInt8) (pt : Bool) (b : List UInt8) (x : Expo) (w : World) (hs : s.size ≤ 100) (h : IsNum s.data.toList sg' a pt b x) :
    Calls Tryz.prog 125 #[.string s] w (Tells (ansF sg' a b x) w) := by
  have SC := Lib.hid (rscan_any s 0 true w (by omega) (by omega))
  unfold ScanPost at SC
  rw [scan_whole, show (walkL s.data.toList 1).1 = s.size from by rw [h.acc.1, size_list], h.acc.2] at SC
  have RD := Lib.hid (read_any s sg' a pt b x w (by omega) h)
  have AN := Lib.hid (ref_num h (by rw [← size_list]; omega))
  have ex := exC_bd x
  have lens := (num_lens h).1
  rw [← size_list] at lens
  have lb : b.length ≤ 100 := by
    have : (a ++ b).length = a.length + b.length := by simp
    omega
  have DB := Lib.hid (show nat10 (a ++ b) < 10 ^ 100 from Nat.lt_of_lt_of_le (nat10_lt _ (allDig_append' h.ha h.hb)) (Nat.pow_le_pow_right (by decide) (by omega)))
  unfold ReadPost at RD
  have hp : -1100 ≤ exC x - (b.length : Int) ∧ exC x - (b.length : Int) ≤ 1000 := by omega
  generalize ansF sg' a b x = an at *
  generalize exC x - (b.length : Int) = p at *
  generalize nat10 (a ++ b) = D at *
  generalize decide (sg' = [45]) = bl at *
  clear h ex lens lb
  have T65 := Lib.hid (fun w => small_z 65536 w (by omega))
  rw [show ((65536 : Nat) : Int) = 65536 from rfl] at T65
  have T10 := Lib.hid (fun w => small_z 10 w (by omega))
  rw [show ((10 : Nat) : Int) = 10 from rfl] at T10
  have T1 := Lib.hid (fun w => small_z 1 w (by omega))
  rw [show ((1 : Nat) : Int) = 1 from rfl] at T1
  have MU := Lib.hid (fun v1 v2 z1 z2 w hb b1 b2 h1 h2 => mulz v1 v2 z1 z2 w hb b1 b2 h1 h2)
  go_enter Tryz.func125, Tryz.ntmps125
  go_wp2_with fail
  refine SC.out.mono ?_
  rintro e w1 ⟨rfl, rfl⟩
  clear SC
  go_wp2_with fail
  refine RD.out.mono ?_
  rintro e wq ⟨nq, sq, rfl, hv, hb⟩
  clear RD
  obtain ⟨r0, k0, c0, rfl⟩ := num_slice hv
  have HV := Lib.hid hv
  have HBq := Lib.hid hb
  clear hv hb
  go_upto_region 5 with fail
  have tv := (Below.refl wq.heap.size wq).alloc (Nat.le_refl _) (.cells #[.bool bl, .bool nq, .slice r0 k0 c0, .int .i64 p] 220)
  have VQ := Lib.hid (Val4.new wq bl nq (.slice r0 k0 c0) p)
  have VV := Lib.hid (HV.out.below tv (Nat.le_refl _))
  have VB := Lib.hid (HBq.out.trans (tv.mono HBq.out.size))
  have wq0 := HBq.out.size
  clear HV HBq tv
  generalize wq.alloc (.cells #[.bool bl, .bool nq, .slice r0 k0 c0, .int .i64 p] 220) = wv at *
  generalize wq.heap.size = q at *
  have U65 : 0 ≤ D * 65536 := Nat.zero_le _
  have B0 := num_mul_big D 0 65536 DB.out (by omega) (by omega)
  rw [Nat.pow_zero, Nat.mul_one] at B0
  have M1 := Lib.hid (show ((D : Int) * 65536).natAbs ≤ Big by omega)
  have M2 := Lib.hid (show (D : Int).natAbs ≤ Big by omega)
  have M3 := Lib.hid (show (65536 : Int).natAbs ≤ Big by unfold Big; decide)
  clear B0 U65
  go_cut [7] (fun s7 wc => CutU w q bl nq (.slice r0 k0 c0) p ((D : Int) * 65536) s7 wc)
  case first =>
    have c1 := VQ.out.c1; have c2 := VQ.out.c2
    have lq := VQ.out.lt
    go_region_with (first
      | (go_at_call 165; (with_reducible refine (T65.out _).mono ?_); rintro e wA ⟨vA, rfl, hA, bA⟩; (first
          | ((with_reducible have dA := bel_drew_new bA); (with_reducible have NA := num_drew_new bA); have hr := (show wv.heap.size ≠ q from Nat.ne_of_gt lq); have hw := VB.out.size)
          | (with_reducible have dA := bel_drew bA)); have vA1 := VQ.out.below dA lq; have cA1 := vA1.c1; have cA2 := vA1.c2; have lqA := vA1.lt)
      | (go_at_call 118; (first
          | ((with_reducible refine (MU.out (.agg #[.bool nq, .slice r0 k0 c0]) vA (D : Int) 65536 wA M1.out M2.out M3.out (VV.out.below dA (Nat.le_refl _)) hA).mono ?_); rintro e wB ⟨vB, rfl, hB, bB⟩; have dB := dA.trans (bB.mono dA.size); (first | (have NB := NA.below bB NA.lt; have nb0 := NB.c0; have nb1 := NB.c1; have nz0 := NB.z0; have nz1 := NB.z1) | skip))
          | ((with_reducible refine (MU.out (.agg #[.bool nq, .slice r0 k0 c0]) vA (D : Int) 65536 _ M1.out M2.out M3.out (numv_alloc (VV.out.below dA (Nat.le_refl _)) _) (numv_alloc hA _)).mono ?_); rintro e wB ⟨vB, rfl, hB, bB⟩; (with_reducible have dB' := bel_new bB); (with_reducible have NB := num_new bB); have dB := dA.trans (dB'.mono dA.size); have hr := (show wA.heap.size ≠ q from Nat.ne_of_gt (Nat.lt_of_lt_of_le lq dA.size)); have hw := Nat.le_trans VB.out.size dA.size; have nb0 := NB.c0; have nb1 := NB.c1; have nz0 := NB.z0; have nz1 := NB.z1)); obtain ⟨nB, xB, aB, capB, rfl, hB2, hB3, hB4, hB5⟩ := hB))
    all_goals
      have hvq := VQ.out.below dB lq
      have hbw := VB.out.trans (dB.mono VB.out.size)
      go_wp2_with fail
      go_meet
      first
        | exact cutu_new hB2 hB3 hB4 hB5 hvq hbw
        | exact cutu_set NB hr hw hB2 hB3 hB4 hB5 hvq hbw
  case rest =>
    clear T65 M1 M2 M3 VQ VV VB wq0
    obtain ⟨r, rfl, hrq, hrw, hup, hval, hbw⟩ := hcut
    have HU := Lib.hid hup
    have HQ := Lib.hid hval
    have HW := Lib.hid hbw
    clear hup hval hbw
    rename_i wc
    go_wp2_with fail
    refine (T1.out _).mono ?_
    rintro e wd ⟨vd, rfl, hd, bd⟩
    have HU1 := Lib.hid (HU.out.below bd)
    have HQ1 := Lib.hid (HQ.out.below bd HQ.out.lt)
    have HW1 := Lib.hid (HW.out.trans (bd.mono HW.out.size))
    obtain ⟨nd, xd, ad, capd, rfl, hd2, hd3, hd4, hd5⟩ := hd
    have HD1 := Lib.hid (And.intro hd2 (And.intro hd3 (And.intro hd4 hd5)))
    clear hd2 hd3 hd4 hd5 bd HU HQ HW T1
    go_upto_block 0 with fail
    have r2r : wd.heap.size ≠ r := Nat.ne_of_gt HU1.out.lt
    have r2q : wd.heap.size ≠ q := Nat.ne_of_gt HQ1.out.lt
    have r2w : w.heap.size ≤ wd.heap.size := HW1.out.size
    have P0 := Lib.hid (show PSt w q r wd.heap.size bl nq (.slice r0 k0 c0) p ((D * 65536 * 10 ^ 0 : Nat) : Int) 1 (wd.alloc (.cells #[.bool nd, .slice ad (dg xd).length capd] 131)) from by
      have t := (Below.refl wd.heap.size wd).alloc (Nat.le_refl _) (.cells #[.bool nd, .slice ad (dg xd).length capd] 131)
      rw [show ((D * 65536 * 10 ^ 0 : Nat) : Int) = (D : Int) * 65536 from by rw [Nat.pow_zero]; omega]
      exact ⟨HU1.out.below t, ⟨nd, xd, ad, capd, NumAt.new wd nd _, HD1.out.1.below t (Nat.le_refl _), HD1.out.2⟩, HQ1.out.below t HQ1.out.lt, HW1.out.trans (t.mono HW1.out.size)⟩)
    generalize wd.alloc (.cells #[.bool nd, .slice ad (dg xd).length capd] 131) = we at *
    generalize wd.heap.size = r2 at *
    clear HU1 HQ1 HW1 HD1
    obtain ⟨pn, hpn⟩ : ∃ pn : Nat, pn = p.toNat := ⟨_, rfl⟩
    obtain ⟨pm, hpm⟩ : ∃ pm : Nat, pm = (-p).toNat := ⟨_, rfl⟩
    go_cut [9] (fun _ wf => PSt w q r r2 bl nq (.slice r0 k0 c0) p ((D * 65536 * 10 ^ pn : Nat) : Int) 1 wf)
    case first =>
      go_wp2_with fail
      go_loopw [9] (fun i wr => UpInv w q r r2 bl nq (.slice r0 k0 c0) p D pn i wr) (fun i _ => pn - (intOf i).toNat)
      case atStart => exact ⟨0, by omega, rfl, P0.out⟩
      case round =>
        clear P0
        obtain ⟨j, hj, rfl, hP⟩ := hrel
        have HP := Lib.hid hP
        have v3 := hP.val.c3
        obtain ⟨n, x, a, cap, NA, hr2, hr3, hr4, hr5⟩ := hP.up
        clear hP
        by_cases hlt : j < pn
        · have n1 : IntKind.i64.wrap ((j : Int) + 1) = ((j + 1 : Nat) : Int) := by rw [IntWalk.i64_in _ (by omega)]; omega
          have hjp : (j : Int) < p := by omega
          have b10 := num_mul_big D j 65536 DB.out (by omega) (by omega)
          have M1 := Lib.hid (show (((D * 65536 * 10 ^ j : Nat) : Int) * 10).natAbs ≤ Big by omega)
          have M2 := Lib.hid (show (((D * 65536 * 10 ^ j : Nat) : Int)).natAbs ≤ Big by omega)
          have M3 := Lib.hid (show (10 : Int).natAbs ≤ Big by unfold Big; decide)
          have HV := Lib.hid (show NumV (.agg #[.bool n, .slice a (dg x).length cap]) ((D * 65536 * 10 ^ j : Nat) : Int) wr from ⟨n, x, a, cap, rfl, hr2, hr3, hr4, hr5⟩)
          have MT := Lib.hid (mul_ten (D * 65536) j)
          have HN := Lib.hid NA
          have kc0 := NA.c0; have kc1 := NA.c1; have kz0 := NA.z0; have kz1 := NA.z1
          have lN := NA.lt
          clear b10 hr2 hr3 hr4 hr5 NA hp
          generalize D * 65536 * 10 ^ j = X at *
          go_wp2_with fail
          go_region_with (first
            | (go_at_call 165; (with_reducible refine (T10.out _).mono ?_); rintro e wA ⟨vA, rfl, hA, bA0⟩; (with_reducible have bA := bel_drew bA0); have nA := HN.out.below bA lN; have a0 := nA.c0; have a1 := nA.c1)
            | (go_at_call 118; (with_reducible refine (MU.out (.agg #[.bool n, .slice a (dg x).length cap]) vA (X : Int) 10 _ M1.out M2.out M3.out (HV.out.below bA (Nat.le_refl _)) hA).mono ?_); rintro e wB ⟨vB, rfl, hB, bB⟩; have nB' := nA.below bB nA.lt; have b0 := nB'.c0; have b1 := nB'.c1; have bz0 := nB'.z0; have bz1 := nB'.z1; obtain ⟨nB, xB, aB, capB, rfl, hB2, hB3, hB4, hB5⟩ := hB))
          all_goals
            have FIN := Lib.hid (fun i (hi : i = ((j : Int) + 1)) => show UpInv w q r r2 bl nq (.slice r0 k0 c0) p D pn (.int .i64 i) _ from ⟨j + 1, hlt, congrArg (Value.int .i64) (hi.trans (by omega)), (HP.out.next (bA.trans (bB.mono bA.size))).setUp hrq r2r hrw hB2 hB3 hB4 (MT.out.symm.trans hB5)⟩)
            clear hA bA0 bA nA a0 a1 nB' b0 b1 bz0 bz1 bB hB2 hB3 hB4 hB5 HP HV HN kc0 kc1 kz0 kz1 lN M1 M2 M3 MT
            go_wp2_with fail
            go_roundw
            case rel => exact FIN.out _ (by first | rfl | omega)
            case measure => simp [intOf]; omega
        · obtain rfl : j = pn := by omega
          have hjp : ¬ (j : Int) < p := by omega
          clear hr2 hr3 hr4 hr5 NA
          go_wp2_with fail
          go_meet
          exact HP.out
    case rest =>
      have P1 := Lib.hid hcut
      clear hcut P0
      rename_i wf
      obtain ⟨U, hU⟩ : ∃ U : Int, Hid (((D * 65536 * 10 ^ pn : Nat) : Int) = U) := ⟨_, Lib.hid rfl⟩
      rw [hU.out] at P1
      go_upto_block 2 with fail
      go_cut [10] (fun _ wg => PSt w q r r2 bl nq (.slice r0 k0 c0) p U ((10 ^ pm : Nat) : Int) wg)
      case first =>
        go_wp2_with fail
        go_loopw [10] (fun i wr => DownInv w q r r2 bl nq (.slice r0 k0 c0) p U pm i wr) (fun i _ => pm - (-intOf i).toNat)
        case atStart => exact ⟨0, by omega, rfl, P1.out⟩
        case round =>
          clear P1
          obtain ⟨j, hj, rfl, hP⟩ := hrel
          have HP := Lib.hid hP
          have v3 := hP.val.c3
          obtain ⟨n, x, a, cap, NA, hr2, hr3, hr4, hr5⟩ := hP.down
          clear hP
          by_cases hlt : j < pm
          · have n1 : IntKind.i64.wrap (-(j : Int) - 1) = -(j : Int) - 1 := IntWalk.i64_in _ (by omega)
            have hjp : p < -(j : Int) := by omega
            have b10 := ten_pow_big (j + 1) (by omega)
            rw [Nat.pow_succ] at b10
            have M1 := Lib.hid (show (((10 ^ j : Nat) : Int) * 10).natAbs ≤ Big by omega)
            have M2 := Lib.hid (show (((10 ^ j : Nat) : Int)).natAbs ≤ Big by omega)
            have M3 := Lib.hid (show (10 : Int).natAbs ≤ Big by unfold Big; decide)
            have HV := Lib.hid (show NumV (.agg #[.bool n, .slice a (dg x).length cap]) ((10 ^ j : Nat) : Int) wr from ⟨n, x, a, cap, rfl, hr2, hr3, hr4, hr5⟩)
            have MT := Lib.hid (show ((10 ^ j : Nat) : Int) * 10 = ((10 ^ (j + 1) : Nat) : Int) by rw [Nat.pow_succ]; omega)
            have HN := Lib.hid NA
            have kc0 := NA.c0; have kc1 := NA.c1; have kz0 := NA.z0; have kz1 := NA.z1
            have lN := NA.lt
            clear b10 hr2 hr3 hr4 hr5 NA hp
            generalize 10 ^ j = X at *
            go_wp2_with fail
            go_region_with (first
              | (go_at_call 165; (with_reducible refine (T10.out _).mono ?_); rintro e wA ⟨vA, rfl, hA, bA0⟩; (with_reducible have bA := bel_drew bA0); have nA := HN.out.below bA lN; have a0 := nA.c0; have a1 := nA.c1)
              | (go_at_call 118; (with_reducible refine (MU.out (.agg #[.bool n, .slice a (dg x).length cap]) vA (X : Int) 10 _ M1.out M2.out M3.out (HV.out.below bA (Nat.le_refl _)) hA).mono ?_); rintro e wB ⟨vB, rfl, hB, bB⟩; have nB' := nA.below bB nA.lt; have b0 := nB'.c0; have b1 := nB'.c1; have bz0 := nB'.z0; have bz1 := nB'.z1; obtain ⟨nB, xB, aB, capB, rfl, hB2, hB3, hB4, hB5⟩ := hB))
            all_goals
              have FIN := Lib.hid (fun i (hi : i = (-(j : Int) - 1)) => show DownInv w q r r2 bl nq (.slice r0 k0 c0) p U pm (.int .i64 i) _ from ⟨j + 1, hlt, congrArg (Value.int .i64) (hi.trans (by omega)), (HP.out.next (bA.trans (bB.mono bA.size))).setDown r2q r2r r2w hB2 hB3 hB4 (MT.out.symm.trans hB5)⟩)
              clear hA bA0 bA nA a0 a1 nB' b0 b1 bz0 bz1 bB hB2 hB3 hB4 hB5 HP HV HN kc0 kc1 kz0 kz1 lN M1 M2 M3 MT
              go_wp2_with fail
              go_roundw
              case rel => exact FIN.out _ (by first | rfl | omega)
              case measure => simp [intOf]; omega
          · obtain rfl : j = pm := by omega
            have hjp : ¬ p < -(j : Int) := by omega
            clear hr2 hr3 hr4 hr5 NA
            go_wp2_with fail
            go_meet
            exact HP.out
      case rest =>
        have HP := Lib.hid hcut
        have v0 := hcut.val.c0
        obtain ⟨n, x, a, cap, NA, hr2, hr3, hr4, hr5⟩ := hcut.up
        clear P1 MU T10 hcut
        rename_i wg
        rw [← hU.out] at hr5
        have E := sgn_sg bl n x _ hr5
        have kc1 := NA.c1; have kc0 := NA.c0; have kz0 := NA.z0
        have SGN := Lib.hid (HP.out.sign (nb := bl && decide (0 < (dg x).length)) r2r hrw NA hr2 hr3 hr4)
        rw [E.2] at SGN
        have hdown : 0 < 10 ^ pm := Nat.pow_pos (by decide)
        have bX := num_mul_big D pn 65536 DB.out (by omega) (by omega)
        have b10 := ten_pow_big (pm + 1) (by omega)
        rw [Nat.pow_succ] at b10
        have NZ := Lib.hid (fun v2 w h1 h2 => near_z (.agg #[.bool (bl && decide (0 < (dg x).length)), .slice a (dg x).length cap]) v2 (sg bl (D * 65536 * 10 ^ pn)) ((10 ^ pm : Nat) : Int) w (by omega) (by rw [sg_abs]; omega) (by rw [Int.natAbs_natCast]; omega) h1 h2)
        have ez : nearZ (sg bl (D * 65536 * 10 ^ pn)) ((10 ^ pm : Nat) : Int) = nearV bl D p := by
          unfold nearZ nearV
          rw [if_pos (by omega), Int.natAbs_natCast, hpn, hpm]
        rw [ez] at NZ
        have PL := Lib.hid (fun v w h => plain_z v (nearV bl D p) w (fair_big _ (by
          rw [← ez]; unfold nearZ
          rw [if_pos (by omega), Int.natAbs_natCast]
          have := near_abs (sg bl (D * 65536 * 10 ^ pn)) (10 ^ pm) hdown
          rw [sg_abs] at this
          have : 1 ≤ Big := Nat.le_trans (by omega) b10
          omega)) h)
        clear E hr2 hr3 hr4 hr5 NA bX b10 ez hdown DB hU hpn hpm hp
        generalize sg bl (D * 65536 * 10 ^ pn) = zu at *
        generalize nearV bl D p = z at *
        generalize ((10 ^ pm : Nat) : Int) = zd at *
        have HDN := HP.out.down
        clear HP
        generalize (dg x).length = lx at *
        obtain ⟨nb, hnb⟩ : ∃ nb : Bool, nb = (bl && decide (0 < lx)) := ⟨_, rfl⟩
        rw [← hnb] at SGN NZ
        have hc : (bl = false ∧ nb = false) ∨ (bl = true ∧ nb = true ∧ 0 < lx) ∨ (bl = true ∧ nb = false ∧ lx = 0) := by
          cases bl with
          | false => exact Or.inl ⟨rfl, by rw [hnb]; rfl⟩
          | true =>
            by_cases h0 : 0 < lx
            · exact Or.inr (Or.inl ⟨rfl, by rw [hnb, decide_eq_true h0]; rfl, h0⟩)
            · exact Or.inr (Or.inr ⟨rfl, by rw [hnb, decide_eq_false h0]; rfl, by omega⟩)
        clear hnb
        rcases hc with ⟨rfl, rfl⟩ | ⟨rfl, rfl, h0⟩ | ⟨rfl, rfl, rfl⟩
        all_goals
          go_upto_region 16 with fail
          obtain ⟨NB, hv1, hbx, hbw⟩ := SGN.out
          clear SGN kc0 kc1 kz0 v0
          generalize World.setCell wc _ _ = wh at *
          obtain ⟨n2, x2, a2, cap2, NA2, ra, rb, rc, rd⟩ := hbx
          have hv2 : NumV (.agg #[.bool n2, .slice a2 (dg x2).length cap2]) zd wh := ⟨n2, x2, a2, cap2, rfl, ra, rb, rc, rd⟩
          have HV1 := Lib.hid hv1
          have HV2 := Lib.hid hv2
          have HBW := Lib.hid hbw
          have e0 := NB.c0; have e1 := NB.c1; have f0 := NA2.c0; have f1 := NA2.c1
          clear NB NA2 hv1 hv2 hbw ra rb rc rd HDN
          go_wp2_with fail
          refine (NZ.out _ _ HV1.out HV2.out).mono ?_
          rintro e wi ⟨vz, rfl, hz, bz⟩
          have HZ := Lib.hid hz
          have HBZ := Lib.hid (HBW.out.trans (bz.mono HBW.out.size))
          clear hz bz HV1 HV2 HBW NZ e0 e1 f0 f1
          go_wp2_with fail
          refine (PL.out _ _ HZ.out).mono ?_
          rintro e wj ⟨rfl, bj⟩
          have FB := Lib.hid (HBZ.out.trans (bj.mono HBZ.out.size))
          clear bj HBZ HZ PL
          by_cases l1 : -4294967296 < z
          · by_cases l2 : z < 4294967296
            · have EA := Lib.hid (show (z, (0 : Int)) = an from by rw [← AN.out]; exact (if_pos ⟨l1, l2⟩).symm)
              rw [pair_small l1 l2]
              go_wp2_with fail
              go_ret2
              exact ⟨by rw [← EA.out]; rfl, FB.out⟩
            · have EA := Lib.hid (show ((0 : Int), (2 : Int)) = an from by rw [← AN.out]; exact (if_neg fun h => l2 h.2).symm)
              by_cases l3 : z ≤ 9223372036854775807
              · rw [pair_i64 ⟨by omega, l3⟩]
                go_wp2_with fail
                go_ret2
                exact ⟨by rw [← EA.out]; rfl, FB.out⟩
              · rw [pair_bad (decide_eq_false fun h => l3 h.2)]
                go_wp2_with fail
                go_ret2
                exact ⟨by rw [← EA.out]; rfl, FB.out⟩
          · have EA := Lib.hid (show ((0 : Int), (2 : Int)) = an from by rw [← AN.out]; exact (if_neg fun h => l1 h.1).symm)
            by_cases l3 : -9223372036854775808 ≤ z
            · rw [pair_i64 ⟨l3, by omega⟩]
              go_wp2_with fail
              go_ret2
              exact ⟨by rw [← EA.out]; rfl, FB.out⟩
            · rw [pair_bad (decide_eq_false fun h => l3 h.1)]
              go_wp2_with fail
              go_ret2
              exact ⟨by rw [← EA.out]; rfl, FB.out⟩
end Go.Proofs.YtbjabclgekkpaaaGreatDoor
namespace Go.Proofs.YtbjabclgekkpaaaGreatDoor
open Go.RowKit Go.Shelf
theorem blk_drop_le (s : ByteArray) (i : Nat) (hi : i ≤ s.size) : i + blk (s.data.toList.drop i) ≤ s.size := by
  have := blk_le (s.data.toList.drop i)
  rw [List.length_drop, Array.length_toList] at this
  have e : s.data.size = s.size := rfl
  omega
theorem gap_drop_le (s : ByteArray) (c i : Nat) (hi : i ≤ s.size) : i + gap c (s.data.toList.drop i) ≤ s.size := by
  have := gap_le (s.data.toList.drop i) c
  rw [List.length_drop, Array.length_toList] at this
  have e : s.data.size = s.size := rfl
  omega
end Go.Proofs.YtbjabclgekkpaaaGreatDoor
namespace Go.Proofs.YtbjabclgekkpaaaGreatDoor
theorem split_dig (a : List UInt8) : ∀ (a' r r' : List UInt8), AllDig a → AllDig a' → headIs isDig r = false → headIs isDig r' = false → a ++ r = a' ++ r' → a = a' ∧ r = r' := by
  induction a with
  | nil =>
    intro a' r r' _ ha' hr _ h
    cases a' with
    | nil => exact ⟨rfl, h⟩
    | cons c t =>
      rw [List.nil_append] at h
      subst h
      have : isDig c = false := hr
      rw [ha' c List.mem_cons_self] at this; cases this
  | cons b t ih =>
    intro a' r r' ha ha' hr hr' h
    cases a' with
    | nil =>
      rw [List.nil_append] at h
      subst h
      have : isDig b = false := hr'
      rw [ha b List.mem_cons_self] at this; cases this
    | cons c t' =>
      rw [List.cons_append, List.cons_append] at h
      obtain ⟨rfl, h2⟩ := List.cons.inj h
      obtain ⟨rfl, e2⟩ := ih t' r r' (fun x hx => ha x (List.mem_cons_of_mem _ hx)) (fun x hx => ha' x (List.mem_cons_of_mem _ hx)) hr hr' h2
      exact ⟨rfl, e2⟩
theorem expo_head (x : Expo) (h : XOk x) : headIs isDig (expo x) = false ∧ headIs isPt (expo x) = false := by
  cases x with
  | none => exact ⟨rfl, rfl⟩
  | some y =>
    obtain ⟨c, s, d⟩ := y
    have hc : isLet c = true := h.1
    refine ⟨?_, ?_⟩
    · show isDig c = false
      unfold isLet at hc; unfold isDig; simp at hc ⊢; omega
    · show isPt c = false
      unfold isLet at hc; unfold isPt; simp at hc ⊢; omega
/-- A sign ahead of what begins with none. -/
theorem split_sgn (s s' r r' : List UInt8) (hs : SgnL s) (hs' : SgnL s') (hr : headIs isSgn r = false) (hr' : headIs isSgn r' = false) (h : s ++ r = s' ++ r') : s = s' ∧ r = r' := by
  have no : ∀ (c : UInt8) (u v : List UInt8), isSgn c = true → headIs isSgn u = false → u ≠ c :: v := by
    intro c u v hc hu e
    rw [e] at hu
    have : isSgn c = false := hu
    rw [hc] at this; cases this
  have p43 : isSgn 43 = true := by decide
  have p45 : isSgn 45 = true := by decide
  rcases hs with rfl | rfl | rfl <;> rcases hs' with rfl | rfl | rfl
  · exact ⟨rfl, h⟩
  · exact absurd h (no 43 _ _ p43 hr)
  · exact absurd h (no 45 _ _ p45 hr)
  · exact absurd h.symm (no 43 _ _ p43 hr')
  · exact ⟨rfl, (List.cons.inj h).2⟩
  · have := (List.cons.inj h).1; exact absurd this (by decide)
  · exact absurd h.symm (no 45 _ _ p45 hr')
  · have := (List.cons.inj h).1; exact absurd this (by decide)
  · exact ⟨rfl, (List.cons.inj h).2⟩
theorem dig_sgn {a : List UInt8} (h : AllDig a) (r : List UInt8) (ha : a ≠ []) : headIs isSgn (a ++ r) = false := by
  cases a with
  | nil => exact absurd rfl ha
  | cons b t =>
    have hb := h b List.mem_cons_self
    show isSgn b = false
    unfold isDig at hb; unfold isSgn; simp at hb ⊢; omega
theorem expo_inj (x x' : Expo) (h : XOk x) (h' : XOk x') (e : expo x = expo x') : x = x' := by
  cases x with
  | none =>
    cases x' with
    | none => rfl
    | some y => obtain ⟨c, s, d⟩ := y; cases e
  | some y =>
    obtain ⟨c, s, d⟩ := y
    cases x' with
    | none => cases e
    | some y' =>
      obtain ⟨c', s', d'⟩ := y'
      obtain ⟨rfl, e2⟩ := List.cons.inj e
      have k : ∀ u : List UInt8, AllDig u → u ≠ [] → headIs isSgn u = false := fun u hu hn => by have := dig_sgn hu [] hn; rwa [List.append_nil] at this
      obtain ⟨rfl, rfl⟩ := split_sgn s s' d d' h.2.1 h'.2.1 (k d h.2.2.1 h.2.2.2) (k d' h'.2.2.1 h'.2.2.2) e2
      rfl
theorem IsNum.uniq {l s a s' a' : List UInt8} {pt pt' : Bool} {b b' : List UInt8} {x x' : Expo} (h : IsNum l s a pt b x) (k : IsNum l s' a' pt' b' x') : s = s' ∧ a = a' ∧ b = b' ∧ x = x' := by
  have hd : ∀ (a : List UInt8) (pt : Bool) (b : List UInt8) (x : Expo), AllDig a → AllDig b → (pt = false → b = []) → 0 < a.length + b.length → headIs isSgn (a ++ ptL pt b ++ expo x) = false := by
    intro a pt b x ha _ hp h0
    by_cases hn : a = []
    · subst hn
      cases pt with
      | false => rw [hp rfl] at h0; simp at h0
      | true => rfl
    · rw [List.append_assoc]; exact dig_sgn ha _ hn
  have ht : ∀ (pt : Bool) (b : List UInt8) (x : Expo), XOk x → headIs isDig (ptL pt b ++ expo x) = false := by
    intro pt b x hx
    cases pt with
    | false => exact (expo_head x hx).1
    | true => rfl
  have e := h.text.symm.trans k.text
  obtain ⟨rfl, e1⟩ := split_sgn _ _ _ _ h.hsg k.hsg (hd a pt b x h.ha h.hb h.hpt h.h0) (hd a' pt' b' x' k.ha k.hb k.hpt k.h0) e
  rw [List.append_assoc, List.append_assoc] at e1
  obtain ⟨rfl, e2⟩ := split_dig a a' _ _ h.ha k.ha (ht pt b x h.hx) (ht pt' b' x' k.hx) e1
  clear e e1
  cases pt <;> cases pt'
  · obtain rfl := h.hpt rfl
    obtain rfl := k.hpt rfl
    exact ⟨rfl, rfl, rfl, expo_inj x x' h.hx k.hx e2⟩
  · have := (expo_head x h.hx).2
    have e' : expo x = 46 :: (b' ++ expo x') := e2
    rw [e'] at this; cases this
  · have := (expo_head x' k.hx).2
    have e' : 46 :: (b ++ expo x) = expo x' := e2
    rw [← e'] at this; cases this
  · have e' : b ++ expo x = b' ++ expo x' := (List.cons.inj e2).2
    obtain ⟨rfl, e3⟩ := split_dig b b' _ _ h.hb k.hb (expo_head x h.hx).1 (expo_head x' k.hx).1 e'
    exact ⟨rfl, rfl, rfl, expo_inj x x' h.hx k.hx e3⟩
theorem ansF_uniq {l s a s' a' : List UInt8} {pt pt' : Bool} {b b' : List UInt8} {x x' : Expo} (h : IsNum l s a pt b x) (k : IsNum l s' a' pt' b' x') : ansF s a b x = ansF s' a' b' x' := by
  obtain ⟨rfl, rfl, rfl, rfl⟩ := h.uniq k
  rfl
end Go.Proofs.YtbjabclgekkpaaaGreatDoor
namespace Go.Proofs.YtbjabclgekkpaaaGreatDoor
open Go.RowKit Go.Shelf
theorem walk_take (l : List UInt8) : ∀ m st, (walkL (l.take m) st).1 = min (walkL l st).1 m ∧ ((walkL l st).1 ≤ m → walkL (l.take m) st = walkL l st) := by
  induction l with
  | nil => intro m st; simp [walkL]
  | cons b t ih =>
    intro m st
    have ec : ∀ u : List UInt8, walkL (b :: u) st = if follow st (kindB b) = 0 then (0, st) else ((walkL u (follow st (kindB b))).1 + 1, (walkL u (follow st (kindB b))).2) := fun _ => rfl
    cases m with
    | zero =>
      rw [List.take_zero]
      refine ⟨by simp [walkL], fun h => ?_⟩
      have := walk_none (b :: t) st (by omega)
      exact Prod.ext (by show 0 = (walkL (b :: t) st).1; omega) (by rw [this]; rfl)
    | succ m =>
      rw [List.take_succ_cons, ec, ec]
      by_cases h0 : follow st (kindB b) = 0
      · rw [if_pos h0, if_pos h0]; simp
      · rw [if_neg h0, if_neg h0]
        have := ih m (follow st (kindB b))
        refine ⟨by show (walkL (t.take m) _).1 + 1 = min ((walkL t _).1 + 1) (m + 1); rw [this.1]; omega, fun h => ?_⟩
        have h' : (walkL t (follow st (kindB b))).1 ≤ m := by simpa using h
        rw [this.2 h']
/-- What both Parses tell of a text: one and the same. -/
theorem parse_both (u : ByteArray) (hu : u.size ≤ 100000) : ∃ an : Int × Int, (an.2 = 0 ∨ (an.1 = 0 ∧ (an.2 = 2 ∨ an.2 = 3))) ∧ (Acc u.data.toList 1 → an.2 ≠ 3) ∧ (∀ s a pt b x, IsNum u.data.toList s a pt b x → an = ansF s a b x) ∧ (∀ w, Tabs w → Calls Tryz.prog 200 #[.string u] w (Tells an w)) ∧ (u.size ≤ 100 → ∀ w, Calls Tryz.prog 125 #[.string u] w (Tells an w)) := by
  by_cases h : Acc u.data.toList 1
  · obtain ⟨sg', a, pt, b, x, hn⟩ := acc1 _ h
    refine ⟨ansF sg' a b x, ansF_ok _ _ _ _, fun _ => ?_, fun _ _ _ _ _ k => ansF_uniq hn k, fun w T => Parse_num u sg' a pt b x w hu T hn, fun hr w => rparse_num u sg' a pt b x w hr hn⟩
    unfold ansF ansV
    split
    · show (0 : Int) ≠ 3; decide
    · show (2 : Int) ≠ 3; decide
  · exact ⟨(0, 3), Or.inr ⟨rfl, Or.inr rfl⟩, fun h' => absurd h' h, (fun _ _ _ _ _ k => absurd k.acc h), fun w T => Parse_bad u w hu T h, fun hr w => rparse_bad u w hr h⟩
open Classical in
/-- A text's number, or why it is none. -/
noncomputable def ansT (u : ByteArray) : Int × Int := if h : u.size ≤ 100000 then (parse_both u h).choose else (0, 3)
theorem ansT_spec (u : ByteArray) (h : u.size ≤ 100000) : ((ansT u).2 = 0 ∨ ((ansT u).1 = 0 ∧ ((ansT u).2 = 2 ∨ (ansT u).2 = 3))) ∧ (Acc u.data.toList 1 → (ansT u).2 ≠ 3) ∧ (∀ s a pt b x, IsNum u.data.toList s a pt b x → ansT u = ansF s a b x) ∧ (∀ w, Tabs w → Calls Tryz.prog 200 #[.string u] w (Tells (ansT u) w)) ∧ (u.size ≤ 100 → ∀ w, Calls Tryz.prog 125 #[.string u] w (Tells (ansT u) w)) := by
  unfold ansT; rw [dif_pos h]; exact (parse_both u h).choose_spec
/-- What is read as a number from a place on. -/
noncomputable def numT (s : ByteArray) (k : Nat) (sg : Bool) : Int × Int × Nat := numX s k sg (ansT (s.extract k (nmE s k sg)))
theorem ext_size (s : ByteArray) (k : Nat) (sg : Bool) (hk : k ≤ s.size) {n : Nat} (hs : s.size ≤ n) : (s.extract k (nmE s k sg)).size ≤ n := by
  have := nmE_le s k sg hk
  simp; omega
/-- Number tells it, and so does the document's. -/
theorem number_T (b : Nat) (s : ByteArray) (k : Nat) (sg : Bool) (w : World) (H : Rdr b s k w) (hs : s.size ≤ 100000) (hk : k ≤ s.size) (T : STabs w) :
    Calls Tryz.prog 171 #[.pointer (some ⟨b, 0, none⟩), .bool sg] w (NumPost b s (numT s k sg) w) :=
  number_x b s k sg _ w H (by unfold maxLen; omega) hk T (ansT_spec _ (ext_size s k sg hk hs)).2.2.2.1
/-- A text that is read to its end as a number is one. -/
theorem nmW_acc (s : ByteArray) (k : Nat) (sg : Bool) (hW : nmW s k sg = true) : Acc (s.extract k (nmE s k sg)).data.toList 1 := by
  rw [Lib.extract_data, show nmE s k sg - k = (wk (s.data.toList.drop k) (if sg then 1 else 2)).1 from by unfold nmE; omega]
  unfold nmW at hW
  generalize s.data.toList.drop k = l at *
  unfold wk at *
  have T := (walk_take l (walkL l (if sg then 1 else 2)).1 (if sg then 1 else 2)).2 (Nat.le_refl _)
  have hle := walk_fst_le l (if sg then 1 else 2)
  generalize hn : (walkL l (if sg then 1 else 2)).1 = n at *
  have hlen : (l.take n).length = n := by rw [List.length_take]; omega
  have e12 : ∀ u : List UInt8, wholeS (walkL u 2).2 = true → walkL u 1 = walkL u 2 := by
    intro u hu
    cases u with
    | nil => cases hu
    | cons b t =>
      have ec : ∀ st, walkL (b :: t) st = if follow st (kindB b) = 0 then (0, st) else ((walkL t (follow st (kindB b))).1 + 1, (walkL t (follow st (kindB b))).2) := fun _ => rfl
      rw [ec] at hu ⊢
      rw [ec]
      rcases kind_cases b with ⟨_, k2⟩ | ⟨_, _, k2⟩ | ⟨_, _, _, k2⟩ | ⟨_, _, _, _, k2⟩ | ⟨_, _, _, _, k2⟩ <;> rw [k2] at hu ⊢ <;> first | rfl | (rw [if_pos (by decide)] at hu; exact absurd hu (by decide))
  cases sg with
  | true =>
    simp only [if_true] at T hW hn
    unfold Acc
    rw [T, hlen]
    exact ⟨hn, hW⟩
  | false =>
    simp only [Bool.false_eq_true, if_false] at T hW hn
    unfold Acc
    rw [e12 _ (by rw [T]; exact hW), T, hlen]
    exact ⟨hn, hW⟩
/-- A text's pieces. -/
noncomputable def txOf (s : ByteArray) : Tx where
  len := s.size
  byte := pk s
  blkA i := i + blk (s.data.toList.drop i)
  gapA i := i + gap 0 (s.data.toList.drop i)
  num := numT s
  ends := nmE s
theorem kind_start (b : UInt8) (sg : Bool) (h : startB b.toNat sg = true) : follow (if sg then 1 else 2) (kindB b) ≠ 0 := by
  unfold startB at h
  simp only [Bool.or_eq_true, Bool.and_eq_true, decide_eq_true_eq, beq_iff_eq] at h
  rcases h with (h | h) | ⟨rfl, h⟩
  · rw [kind_dig (by unfold isDig; simp; omega)]; cases sg <;> decide
  · rw [show kindB b = 2 from by unfold kindB isDig isSgn isPt; simp [h]]; cases sg <;> decide
  · rw [show kindB b = 1 from by unfold kindB isDig isSgn; rcases h with h | h <;> simp [h]]; decide
theorem txOf_ok (s : ByteArray) (hs : s.size ≤ 100000) : (txOf s).Ok where
  blk i hi := ⟨Nat.le_add_right _ _, blk_drop_le s i hi⟩
  gap i hi := ⟨Nat.le_add_right _ _, gap_drop_le s 0 i hi⟩
  comma i hi h := by
    show i < i + gap 0 (s.data.toList.drop i)
    have hh : headIs isCm (s.data.toList.drop i) = true := by
      rw [headCm, decide_eq_true (show i < s.size from hi), show pk s i = 44 from h]; rfl
    rw [gap_comma _ hh]; omega
  ends i sg hi := nmE_le s i sg hi
  er i sg hi := (numX_ok s i sg _ hi (ansT_spec _ (ext_size s i sg hi hs)).1).er
  ok i sg hi h := by
    have A := ansT_spec _ (ext_size s i sg hi hs)
    have O := numX_ok s i sg _ hi A.1
    show (numT s i sg).2.2 = nmE s i sg ∧ i < nmE s i sg
    have h' : (numT s i sg).2.1 = 0 := h
    have hl := O.ok h'
    unfold numT numX at h' ⊢
    by_cases hW : nmW s i sg = true
    · rw [if_pos hW] at h' ⊢
      have h0 : (ansT (s.extract i (nmE s i sg))).2 = 0 := h'
      exact ⟨if_pos h0, nmW_lt s i sg hW⟩
    · rw [if_neg hW] at h'; cases h'
  bad i sg hi h := by
    have A := ansT_spec _ (ext_size s i sg hi hs)
    show (numT s i sg).2.2 = nmE s i sg
    have h' : (numT s i sg).2.1 = 3 := h
    unfold numT numX at h' ⊢
    by_cases hW : nmW s i sg = true
    · rw [if_pos hW] at h'
      exact absurd h' (A.2.1 (nmW_acc s i sg hW))
    · rw [if_neg hW]
  great i sg hi h := (numX_ok s i sg _ hi (ansT_spec _ (ext_size s i sg hi hs)).1).great h
  start i sg hi h := by
    show i < nmE s i sg
    have hi' : i < s.size := hi
    have h' : startB s[i].toNat sg = true := by rw [← pk_in hi']; exact h
    unfold nmE wk
    rw [drop_cons s i hi', show ∀ st u, walkL (s[i] :: u) st = if follow st (kindB s[i]) = 0 then (0, st) else ((walkL u (follow st (kindB s[i]))).1 + 1, (walkL u (follow st (kindB s[i]))).2) from fun _ _ => rfl, if_neg (kind_start _ sg h')]
    show i < i + (_ + 1)
    omega
end Go.Proofs.YtbjabclgekkpaaaGreatDoor
