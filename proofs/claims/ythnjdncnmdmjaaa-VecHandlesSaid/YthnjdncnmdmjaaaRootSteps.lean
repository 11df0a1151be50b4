/-
  The contract of the iterator that root's steps hands over: the steps come one by one, up to where one stops.
-/
import Derived.Test.YthnjdncnmdmjaaaIter
import Derived.Test.YthnjdncnmdmjaaaRootSq
namespace Go.Proofs.Ythnjdncnmdmjaaa
open Go.RowKit Go.Shelf
attribute [local go_sem] Oper.semAt_some

def natU : Value → Nat
  | .int _ n => n.toNat
  | _ => 0

/-- The power of two that comes next, j of them being left. -/
def bitOf (j : Nat) : Nat := 2 ^ j / 2

/-- What the iterator's loop keeps: j powers of two are left, pre has come, r is the number so far. -/
def StepsInv (N K : Nat) (xs : List Nat) (J : List Nat → World → Prop) (b2 b3 hi lo : Nat) (rv bv : Value) (wr : World) : Prop :=
  ∃ (j r : Nat) (pre : List Nat), rv = .int .u64 (r : Int) ∧ bv = .int .u64 (bitOf j : Int) ∧ j ≤ K ∧ r + 2 ^ j ≤ 2 ^ K ∧ xs = pre ++ stepsL N r j ∧ J pre wr ∧
    wr.cell? ⟨b2, 0, none⟩ = some (.int .u64 (hi : Int)) ∧ wr.cell? ⟨b3, 0, none⟩ = some (.int .u64 (lo : Int))

theorem steps_next (N K j r' B : Nat) (xs pre : List Nat) (J : List Nat → World → Prop) (b2 b3 hi lo : Nat) (wr : World) (rI : Int) (hI : rI = ((r' : Nat) : Int)) (hB : 2 ^ j = B) (hb : bitOf j = B / 2) (hj : j ≤ K) (hr : r' + B ≤ 2 ^ K)
    (hx : xs = pre ++ stepsL N r' j) (hJ : J pre wr) (d2 : wr.cell? ⟨b2, 0, none⟩ = some (.int .u64 (hi : Int))) (d3 : wr.cell? ⟨b3, 0, none⟩ = some (.int .u64 (lo : Int))) :
    StepsInv N K xs J b2 b3 hi lo (.int .u64 rI) (.int .u64 ((B : Int) / 2)) wr := by
  subst hI
  exact ⟨j, r', pre, rfl, by rw [hb]; rfl, hj, by rw [hB]; exact hr, hx, hJ, d2, d3⟩

set_option maxRecDepth 100000 in
set_option maxHeartbeats 1000000 in
theorem steps1_in (n : Nat) (hn : 1 ≤ n) (l lo' hi' b1 b2 b3 K hi lo : Nat) (J Jx : List Nat → World → Prop)
    (hK : K ≤ 64) (hl : lo < 18446744073709551616)
    (h2 : lo' ≤ b2 ∧ b2 < hi') (h3 : lo' ≤ b3 ∧ b3 < hi')
    (hY : ∀ pre (x : Nat) W, J pre W → pre.length < (stepsL (hi * 18446744073709551616 + lo) 0 K).length → YieldAt Fence.wide (n - 1) Try.prog l #[.int .u64 (x : Int)] W fun e W' =>
      (e = .returned (.bool true) ∧ J (pre ++ [x]) W' ∧ Mid lo' hi' W W') ∨ (e = .returned (.bool false) ∧ Jx (pre ++ [x]) W'))
    (W : World) (c1 : W.cell? ⟨b1, 0, none⟩ = some (.int .u64 (bitOf K : Int))) (c2 : W.cell? ⟨b2, 0, none⟩ = some (.int .u64 (hi : Int))) (c3 : W.cell? ⟨b3, 0, none⟩ = some (.int .u64 (lo : Int))) (h0 : J [] W) :
    CallsIn Fence.wide n Try.prog 90 #[.func (.yield l) #[] #[], .pointer (some ⟨b1, 0, none⟩), .pointer (some ⟨b2, 0, none⟩), .pointer (some ⟨b3, 0, none⟩)] W fun e W' => (∃ v, e = .returned v) ∧
      ((∃ ys, ys = stepsL (hi * 18446744073709551616 + lo) 0 K ∧ J ys W') ∨ (∃ pre, pre <+: stepsL (hi * 18446744073709551616 + lo) 0 K ∧ Jx pre W')) := by
  refine callsIn_of_wp Try.func90 rfl trivial ?_ rfl
  simp only [Try.ntmps90, List.size_toArray, List.length_cons, List.length_nil, Nat.reduceAdd, Nat.reduceSub, Array.replicate_succ, Array.replicate_zero, List.push_toArray, List.append_toArray, List.nil_append, List.cons_append]
  have S := Lib.hid (fun m hm w => callsIn_wide (n := n - 1) |>.2 (squareAbove_any m hi lo hm hl w))
  have HY := Lib.hid hY
  clear hY hl
  generalize hi * 18446744073709551616 + lo = N at *
  gi_wp2
  gi_loopw [5, 6] (fun rv bv wr => StepsInv N K (stepsL N 0 K) J b2 b3 hi lo rv bv wr) (fun _ bv _ => natU bv)
  case atStart => exact ⟨K, 0, [], rfl, rfl, Nat.le_refl _, by omega, rfl, h0, c2, c3⟩
  case round =>
    obtain ⟨j, r, pre, rfl, rfl, hj, hr, hx, hJ, d2, d3⟩ := hrel
    cases j with
    | zero =>
      have hz : bitOf 0 = 0 := by decide
      rw [hz]
      have HX := Lib.hid hx
      clear hx
      gi_wp2
      go_end0
      exact ⟨⟨_, rfl⟩, .inl ⟨pre, by rw [HX.out]; simp [stepsL], hJ⟩⟩
    | succ j =>
      have hb : bitOf (j + 1) = 2 ^ j := by unfold bitOf; rw [two_pow]; omega
      have hb2 : bitOf j = 2 ^ j / 2 := rfl
      rw [hb]
      clear hb
      have hp : 0 < 2 ^ j := Nat.two_pow_pos j
      have h64 : 2 ^ K ≤ 18446744073709551616 := Nat.pow_le_pow_right (n := 2) (by decide) hK
      rw [two_pow] at hr
      rw [stepsL] at hx
      have HR := Lib.hid hr
      have HJ := Lib.hid hj
      have hs : (r : Int) + ((2 ^ j : Nat) : Int) ≤ 18446744073709551615 := by omega
      have S1 := Lib.hid (fun w => S.out (r + 2 ^ j) (by omega) w)
      rw [show ((r + 2 ^ j : Nat) : Int) = (r : Int) + ((2 ^ j : Nat) : Int) from by omega] at S1
      have hp' : 0 < ((2 ^ j : Nat) : Int) := by omega
      clear hr hj hK h64 S
      by_cases ha : (r + 2 ^ j) * (r + 2 ^ j) ≤ N
      · rw [if_pos ha] at hx
        rw [show aboveB (r + 2 ^ j) N = false from by unfold aboveB; simp; exact ha] at S1
        have hlen : pre.length < (stepsL N 0 K).length := by rw [hx]; simp
        have Y := Lib.hid (HY.out pre (r + 2 ^ j) wr hJ hlen)
        rw [show ((r + 2 ^ j : Nat) : Int) = (r : Int) + ((2 ^ j : Nat) : Int) from by omega] at Y
        have HX := Lib.hid hx
        have HB2 := Lib.hid hb2
        clear hx hlen ha hb2 hp
        generalize hB : 2 ^ j = B at *
        have HB := Lib.hid hB
        clear hB
        obtain ⟨fn, tmps, assign, body, hy, hR⟩ := Y.out
        gi_wp2_with fail
        refine ⟨trivial, (S1.out _).mono ?_⟩
        rintro e w' ⟨rfl, rfl⟩
        gi_wp2
        refine hR.mono ?_
        rintro e W3 (⟨rfl, hJ3, hk3⟩ | ⟨rfl, hJx3⟩)
        · gi_wp2
          go_roundw
          case rel => exact steps_next N K j (r + B) B (stepsL N 0 K) (pre ++ [r + B]) J b2 b3 hi lo W3 _ (by omega) HB.out HB2.out (by have := HJ.out; omega) (by have := HR.out; omega) (by rw [HX.out]; simp) hJ3 ((hk3.cell h2.1 h2.2).trans d2) ((hk3.cell h3.1 h3.2).trans d3)
          case measure => simp only [natU]; omega
        · gi_wp2
          refine bodyPost_ret (results_none rfl _ _ _) rfl ?_
          exact ⟨⟨_, rfl⟩, .inr ⟨pre ++ [r + B], ⟨stepsL N (r + B) j, by rw [HX.out]; simp⟩, hJx3⟩⟩
      · rw [if_neg ha] at hx
        rw [show aboveB (r + 2 ^ j) N = true from by unfold aboveB; simp; omega] at S1
        have HX := Lib.hid hx
        have HB2 := Lib.hid hb2
        clear hx ha hb2 hp
        generalize hB : 2 ^ j = B at *
        have HB := Lib.hid hB
        clear hB
        gi_wp2_with fail
        refine ⟨trivial, (S1.out _).mono ?_⟩
        rintro e w' ⟨rfl, rfl⟩
        gi_wp2
        go_roundw
        case rel => exact steps_next N K j r B (stepsL N 0 K) pre J b2 b3 hi lo wr _ rfl HB.out HB2.out (by have := HJ.out; omega) (by have := HR.out; omega) HX.out hJ d2 d3
        case measure => simp only [natU]; omega

/-- A value that tells the steps of hi 2^64 + lo, from 2^(K - 1) on: it keeps its three variables in blocks a to b. -/
structure Iter (v : Value) (a b hi lo K : Nat) (w : World) : Prop where
  shape : ∃ b1 b2 b3 : Nat, v = .func (.func 90) #[] #[.pointer (some ⟨b1, 0, none⟩), .pointer (some ⟨b2, 0, none⟩), .pointer (some ⟨b3, 0, none⟩)] ∧ (a ≤ b1 ∧ b1 < b) ∧ (a ≤ b2 ∧ b2 < b) ∧ (a ≤ b3 ∧ b3 < b) ∧
    w.cell? ⟨b1, 0, none⟩ = some (.int .u64 (bitOf K : Int)) ∧ w.cell? ⟨b2, 0, none⟩ = some (.int .u64 (hi : Int)) ∧ w.cell? ⟨b3, 0, none⟩ = some (.int .u64 (lo : Int))
  size : b ≤ w.heap.size

theorem Iter.below {v : Value} {a b hi lo K : Nat} {w w' : World} (h : Iter v a b hi lo K w) {B : Nat} (hb : Below B w w') (hB : b ≤ B) : Iter v a b hi lo K w' := by
  obtain ⟨⟨b1, b2, b3, e, h1, h2, h3, c1, c2, c3⟩, hs⟩ := h
  exact ⟨⟨b1, b2, b3, e, h1, h2, h3, (hb.cell (p := ⟨b1, 0, none⟩) (by show b1 < B; omega)).trans c1, (hb.cell (p := ⟨b2, 0, none⟩) (by show b2 < B; omega)).trans c2, (hb.cell (p := ⟨b3, 0, none⟩) (by show b3 < B; omega)).trans c3⟩, Nat.le_trans hs hb.size⟩

/-- The iterator's contract. -/
theorem Iter.stops {v : Value} {a b hi lo K : Nat} {w : World} (h : Iter v a b hi lo K w) (n : Nat) (hn : 1 ≤ n) (hK : K ≤ 64) (hl : lo < 18446744073709551616) : ∃ lb : Array Value, v = .func (.func 90) #[] lb ∧
    SeqStopsK Fence.wide n Try.prog 90 lb (fun x : Nat => #[Value.int .u64 (x : Int)]) (Mid a b) (fun ys => ys = stepsL (hi * 18446744073709551616 + lo) 0 K) (fun pre => pre <+: stepsL (hi * 18446744073709551616 + lo) 0 K) 64 w := by
  obtain ⟨⟨b1, b2, b3, e, h1, h2, h3, c1, c2, c3⟩, hs⟩ := h
  refine ⟨_, e, fun l J Jx W hW _ _ hY h0 => ?_⟩
  have hlen := stepsL_length (hi * 18446744073709551616 + lo) K 0
  exact steps1_in n hn l a b b1 b2 b3 K hi lo J Jx hK hl h2 h3 (fun pre x W hJ hp => hY pre x W hJ (by omega)) W
    ((hW.cell (p := ⟨b1, 0, none⟩) (by show b1 < _; omega)).trans c1) ((hW.cell (p := ⟨b2, 0, none⟩) (by show b2 < _; omega)).trans c2) ((hW.cell (p := ⟨b3, 0, none⟩) (by show b3 < _; omega)).trans c3) h0
end Go.Proofs.Ythnjdncnmdmjaaa
