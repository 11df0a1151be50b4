/-
  The contract of the document's answer for layer 1: Power, 2^s.
-/
import Derived.Test.YthnjdncnmdmjaaaMulz
namespace Go.Proofs.Ythnjdncnmdmjaaa
open Go.RowKit Go.Shelf

theorem num_close2 {f : Func} (hres : f.results = #[ResultVar.cell 2 66]) {w wf : World} {r N n' : Nat} {neg b0 : Bool} {x a' : Option Addr} {n c cap' : Nat} {ts : Array Value} (hn : n' = (dg N).length)
    (NA : NumAt r b0 (.slice x n c) wf) (hB : Below w.heap.size w wf) (hr : w.heap.size ≤ r) (F : Row a' (dg N) wf ∧ (dg N).length ≤ cap' ∧ cap' ≤ maxLen) (hts : ts[2]? = some (.pointer (some ⟨r, 0, none⟩))) :
    bodyPost Try.prog f (GivesNum neg N w) Exit.ret { tmps := ts, defers := [] } ((wf.setCell ⟨r, 0, none⟩ (.bool neg)).setCell ⟨r, 1, none⟩ (.slice a' n' cap')) := by
  subst hn
  have F1 := NA.set (neg' := neg) (s' := .slice a' (dg N).length cap')
  refine bodyPost_ret (v := .agg #[.bool neg, .slice a' (dg N).length cap']) (by simp [results, hres, go_sem, F1.c0, F1.c1, hts]) rfl ⟨a', cap', rfl, F.1.far NA, F.2.1, F.2.2, ?_⟩
  exact Below.setCell (Below.setCell hB hr _) hr _

theorem power_digits (s : Nat) : List.replicate (s / 16) 0 ++ [2 ^ (s % 16)] = dg (2 ^ s) := by
  have hlt : 2 ^ (s % 16) < 65536 := Nat.pow_lt_pow_right (a := 2) (by decide) (show s % 16 < 16 by omega)
  have hs : Small (List.replicate (s / 16) 0 ++ [2 ^ (s % 16)]) := small_snoc (small_zeros _) hlt
  have hv : val (List.replicate (s / 16) 0 ++ [2 ^ (s % 16)]) = 2 ^ s := by
    rw [val_snoc, val_zeros, List.length_replicate, Nat.zero_add, show (65536 : Nat) = 2 ^ 16 from rfl, ← Nat.pow_mul, ← Nat.pow_add, Nat.div_add_mod]
  rw [← trim_snoc_pos (List.replicate (s / 16) 0) (2 ^ (s % 16)) (Nat.pos_iff_ne_zero.1 (Nat.two_pow_pos _)), trim_dg _ hs, hv]

theorem pow_small (k X : Nat) (hk : k + 1 ≤ 15) (h : X = 2 ^ (k + 1)) : X ≤ 32768 := by
  subst h
  exact Nat.pow_le_pow_right (n := 2) (by decide) hk

theorem power_row (s X : Nat) (HD : List.replicate (s / 16) 0 ++ [2 ^ (s % 16)] = dg (2 ^ s)) (hX : X = 2 ^ (s % 16)) {w1 : World} {B : Nat} {v' : Value}
    (hown : w1.ownsRow B 3 1 v' (s / 16 + 1) (cellsN (List.replicate (s / 16) 0) ++ [.int .i64 (X : Int)])) :
    ∃ a' n' cap', v' = .slice a' n' cap' ∧ n' = (dg (2 ^ s)).length ∧ (Row a' (dg (2 ^ s)) w1 ∧ (dg (2 ^ s)).length ≤ cap' ∧ cap' ≤ maxLen) := by
  rw [← cellsN_snoc, hX, HD] at hown
  have hl : s / 16 + 1 = (dg (2 ^ s)).length := by rw [← HD]; simp
  rw [hl] at hown
  obtain ⟨a', cap', h1, h2, h3, h4⟩ := row_of_own hown
  exact ⟨a', _, cap', h1, rfl, h2, h3, h4⟩

set_option maxHeartbeats 2000000 in
theorem power_any (s : Nat) (w : World) (hs : s ≤ 1000) : Calls Try.prog 76 #[.int .i64 s] w (GivesNum false (2 ^ s) w) := by
  have HD := Lib.hid (power_digits s)
  have NA := Lib.hid (NumAt.new w false (.slice none 0 0))
  have BW := Lib.hid ((Below.refl w.heap.size w).alloc (Nat.le_refl _) (.cells #[.bool false, .slice none 0 0] 66))
  go_enter Try.func76, Try.ntmps76
  go_wp2_with (first | (at_make; refine make_zeros _ rfl _ _ rfl (s / 16) _ rfl rfl (by omega) (by omega) ?_; intro w0 hown0 hb0))
  have HO := Lib.hid hown0
  have HB0 := Lib.hid hb0
  rw [show (w.alloc (.cells #[.bool false, .slice none 0 0] 66)).heap.size = w.heap.size + 1 from by simp] at HO HB0
  clear hown0 hb0
  go_loop [4, 5] (fun xv i => ∃ k X : Nat, k ≤ s % 16 ∧ i = .int .i64 (k : Int) ∧ xv = .int .i64 (X : Int) ∧ X ≤ 32768 ∧ Hid (X = 2 ^ k)) (fun _ i => s % 16 - natOf i)
  case atStart => exact ⟨0, 1, by omega, rfl, rfl, by omega, rfl⟩
  case round =>
    obtain ⟨k, X, hk, rfl, rfl, hX, hp⟩ := hrel
    by_cases hlt : (k : Int) < (s : Int) % 16
    · have i1 : (X : Int) ≤ 32768 := by omega
      have HX2 := Lib.hid (show X * 2 = 2 ^ (k + 1) by rw [hp.out, Nat.pow_succ])
      go_wp2_with fail
      go_round
      case rel => exact ⟨k + 1, X * 2, by omega, by go_num, congrArg (Value.int .i64) (by omega), pow_small k _ (by omega) HX2.out, HX2⟩
      case measure => simp [natOf]; omega
    · obtain rfl : k = s % 16 := by omega
      have hsz := HB0.out.size
      simp at hsz
      clear hX hlt
      go_wp2_with (first | (at_builtin; refine append_digit _ rfl (.tmp 17) (.tmp 19) rfl _ HO.out rfl rfl (by omega) (by omega) ?_; intro v' w1 hown' hb'; obtain ⟨a', n', cap', rfl, hn', F⟩ := power_row s X HD.out hp.out hown'; have NA2 := (NA.out.below HB0.out (Nat.lt_succ_self _)).below hb' (Nat.lt_succ_self _); have r0 := NA2.c0; have r1 := NA2.c1; have y0 := NA2.z0; have y1 := NA2.z1; have HF := Lib.hid (And.intro hn' F); have HNA := Lib.hid NA2; have HBf := Lib.hid ((BW.out.trans (HB0.out.mono (Nat.le_succ _))).trans (hb'.mono (Nat.le_succ _))); clear hn' F NA2 hown' hb'))
      exact num_close2 Try.results76 HF.out.1 HNA.out HBf.out (Nat.le_refl _) HF.out.2 rfl
/-- Power, of any shift up to a thousand. -/
theorem power_z (s : Nat) (w : World) (hs : s ≤ 1000) : Calls Try.prog 76 #[.int .i64 s] w (GivesZ ((2 ^ s : Nat) : Int) w) :=
  (power_any s w hs).mono fun _ _ hg => hg.toZ
end Go.Proofs.Ythnjdncnmdmjaaa
