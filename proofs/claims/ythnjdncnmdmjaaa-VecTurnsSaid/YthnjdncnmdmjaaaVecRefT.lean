/-
  The document's answers of layer 9: Turn, quarter by quarter.
-/
import Derived.Test.YthnjdncnmdmjaaaVecPair
import Derived.Test.YthnjdncnmdmjaaaVecFn
import Derived.LoopTactic
namespace Go.Proofs.Ythnjdncnmdmjaaa
open Go.RowKit Go.Shelf

/-- So many quarters on, and back. -/
def onQ (x y : Int) : Nat → Int × Int
  | 0 => (x, y)
  | k + 1 => (-(onQ x y k).2, (onQ x y k).1)
def backQ (x y : Int) : Nat → Int × Int
  | 0 => (x, y)
  | k + 1 => ((backQ x y k).2, -(backQ x y k).1)
theorem onQ_in {x y : Int} (hx : In1 x) (hy : In1 y) : ∀ k, In1 (onQ x y k).1 ∧ In1 (onQ x y k).2
  | 0 => ⟨hx, hy⟩
  | k + 1 => ⟨in1_neg (onQ_in hx hy k).2, (onQ_in hx hy k).1⟩
theorem backQ_in {x y : Int} (hx : In1 x) (hy : In1 y) : ∀ k, In1 (backQ x y k).1 ∧ In1 (backQ x y k).2
  | 0 => ⟨hx, hy⟩
  | k + 1 => ⟨(backQ_in hx hy k).2, in1_neg (backQ_in hx hy k).1⟩
theorem quarters_eq (x y n : Int) : backQ (onQ x y (n.tmod 4).toNat).1 (onQ x y (n.tmod 4).toNat).2 (-(n.tmod 4)).toNat = turnP (n % 4).toNat x y := by
  obtain ⟨e, h1, h2⟩ := modulo_eq n
  have hq : n % 4 = n.tmod 4 ∨ n % 4 = n.tmod 4 + 4 := by omega
  generalize n.tmod 4 = r at *
  have c : r = -3 ∨ r = -2 ∨ r = -1 ∨ r = 0 ∨ r = 1 ∨ r = 2 ∨ r = 3 := by omega
  rcases c with rfl | rfl | rfl | rfl | rfl | rfl | rfl <;> rw [← e] <;> simp [onQ, backQ, turnP]
theorem PBox.apart9 {n m : Nat} {x y : Int} {w : World} (h : PBox m x y w) (hne : n ≠ m) (o : Nat) (v : Value) : PBox m x y (w.setCell ⟨n, o, none⟩ v) := by
  unfold PBox at *
  simp only [World.setCell, Array.getElem?_modify, if_neg hne]
  exact h
def TurnInv (f : Nat → Int × Int) (s : Int) (N n : Nat) (w : World) (iv : Value) (wr : World) : Prop :=
  ∃ k : Nat, k ≤ N ∧ iv = .int .i64 (s * k) ∧ PBox n (f k).1 (f k).2 wr ∧ PBox (n + 1) 0 0 wr ∧ Below w.heap.size w wr
set_option maxHeartbeats 4000000 in
set_option maxRecDepth 100000 in
theorem rturn9 (x y q : Int) (w : World) (hx : In1 x) (hy : In1 y) :
    Calls Try.prog 26 #[.agg #[.int .i64 x, .int .i64 y], .int .i64 q] w fun e w' => e = .returned (PtV (turnP (q % 4).toNat x y)) ∧ Below w.heap.size w w' := by
  rw [← quarters_eq]
  have r := (modulo_eq q).2
  obtain ⟨n, hn⟩ : ∃ n, q.tmod 4 = n := ⟨_, rfl⟩
  rw [hn] at r ⊢
  have HN := Lib.hid r
  have HX := Lib.hid (onQ_in hx hy)
  have HY := Lib.hid (backQ_in (onQ_in hx hy n.toNat).1 (onQ_in hx hy n.toNat).2)
  obtain ⟨R, hR⟩ : ∃ R, backQ (onQ x y n.toNat).1 (onQ x y n.toNat).2 (-n).toNat = R := ⟨_, rfl⟩
  rw [hR]
  have HR := Lib.hid hR
  clear hR r hx hy
  obtain ⟨hp, hq, hb⟩ := boxes_ab w x y 0 0
  have HP0 := Lib.hid hp
  have HQ0 := Lib.hid hq
  have HB0 := Lib.hid hb
  clear hp hq hb
  go_enter Try.func26, Try.ntmps26
  go_upto_region 1 with fail
  generalize (w.alloc (.cells #[.int .i64 x, .int .i64 y] 25)).alloc (.cells #[.int .i64 0, .int .i64 0] 25) = w1 at *
  go_upto_region 2 with fail
  clear hn
  have r1 : -3 ≤ n := HN.out.1
  have r2 : n ≤ 3 := HN.out.2
  go_wp2_with fail
  go_loopw [6] (fun iv wr => TurnInv (onQ x y) 1 n.toNat w.heap.size w iv wr) (fun iv _ => n.toNat - (intOf iv).toNat)
  case atStart => exact ⟨0, Nat.zero_le _, rfl, HP0.out, HQ0.out, HB0.out⟩
  case round =>
    obtain ⟨k, hk, rfl, hp, hz, hb⟩ := hrel
    rw [Int.one_mul]
    have HP := Lib.hid hp
    have HZ := Lib.hid hz
    have HB := Lib.hid hb
    clear hp hz hb
    have hk4 : (k : Int) ≤ 3 := by omega
    have hk0 : (0 : Int) ≤ k := by omega
    by_cases hlt : k < n.toNat
    · have hlt' : (k : Int) < n := by omega
      have hin := HX.out k
      have e1 := fun w' (h : PBox w.heap.size (-(onQ x y k).2) (onQ x y k).1 w') => (show PBox w.heap.size (onQ x y (k + 1)).1 (onQ x y (k + 1)).2 w' from h)
      have E1 := Lib.hid e1
      clear e1
      generalize (onQ x y k).1 = a at *
      generalize (onQ x y k).2 = b at *
      unfold In1 at hin
      obtain ⟨⟨i1, i2⟩, i3, i4⟩ := hin
      have z0 := HP.out.c0; have z1 := HP.out.c1; have z2 := HP.out.z 0; have z3 := HP.out.z 1
      go_wp2_with fail
      go_roundw
      case rel => exact ⟨k + 1, by omega, by go_num, E1.out _ (HP.out.set _ _), (HZ.out.apart9 (by omega) _ _).apart9 (by omega) _ _, below_pt8 HB.out (Nat.le_refl _) _ _⟩
      case measure => simp [intOf]; omega
    · obtain rfl : k = n.toNat := by omega
      have hge : ¬ (n.toNat : Int) < n := by omega
      have HBk := Lib.hid HB.out
      go_wp2_with fail
      generalize (onQ x y n.toNat).1 = a at *
      generalize (onQ x y n.toNat).2 = b at *
      go_loopw [7] (fun iv wr => TurnInv (backQ a b) (-1) (-n).toNat w.heap.size w iv wr) (fun iv _ => (-n).toNat - (-(intOf iv)).toNat)
      case atStart => exact ⟨0, Nat.zero_le _, rfl, HP.out, HZ.out, HB.out⟩
      case round =>
        clear HP HZ HB HBk hk hk4 hk0 hlt hge
        obtain ⟨k, hk, rfl, hp, hz, hb⟩ := hrel
        have HP := Lib.hid hp
        have HZ := Lib.hid hz
        have HB := Lib.hid hb
        clear hp hz hb
        rw [show (-1 : Int) * (k : Int) = -(k : Int) from by omega]
        have hk4 : (k : Int) ≤ 3 := by omega
        have hk0 : (0 : Int) ≤ k := by omega
        by_cases hlt : k < (-n).toNat
        · have hlt' : n < -(k : Int) := by omega
          have hin := HY.out k
          have e1 := fun w' (h : PBox w.heap.size (backQ a b k).2 (-(backQ a b k).1) w') => (show PBox w.heap.size (backQ a b (k + 1)).1 (backQ a b (k + 1)).2 w' from h)
          have E1 := Lib.hid e1
          clear e1
          generalize (backQ a b k).1 = c at *
          generalize (backQ a b k).2 = d at *
          unfold In1 at hin
          obtain ⟨⟨i1, i2⟩, i3, i4⟩ := hin
          have z0 := HP.out.c0; have z1 := HP.out.c1; have z2 := HP.out.z 0; have z3 := HP.out.z 1
          go_wp2_with fail
          go_roundw
          case rel => exact ⟨k + 1, by omega, by rw [show (-1 : Int) * ((k + 1 : Nat) : Int) = -(k : Int) - 1 from by omega], E1.out _ (HP.out.set _ _), (HZ.out.apart9 (by omega) _ _).apart9 (by omega) _ _, below_pt8 HB.out (Nat.le_refl _) _ _⟩
          case measure => simp [intOf]; omega
        · obtain rfl : k = (-n).toNat := by omega
          have hge : ¬ n < -((-n).toNat : Int) := by omega
          have eR : backQ a b (-n).toNat = R := HR.out
          rw [eR] at HP
          clear HY HX
          have z0 := HP.out.c0; have z1 := HP.out.c1; have z2 := HP.out.z 0; have z3 := HP.out.z 1
          have y0 := HZ.out.c0; have y1 := HZ.out.c1; have y2 := HZ.out.z 0; have y3 := HZ.out.z 1
          go_wp2_with fail
          exact pe_ret Try.results26 (HZ.out.set _ _) (below_pt8 HB.out (by omega) _ _) rfl
end Go.Proofs.Ythnjdncnmdmjaaa
