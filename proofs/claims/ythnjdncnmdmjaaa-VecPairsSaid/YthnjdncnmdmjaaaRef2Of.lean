/-
  The contract of the document's answer for layer 2: Of, the digits of a number from 0 on.
-/
import Derived.Test.YthnjdncnmdmjaaaPower
namespace Go.Proofs.Ythnjdncnmdmjaaa
open Go.RowKit Go.Shelf

/-- What Of's loop keeps: the digits so far, and what is left. -/
def Of2Inv (N B : Nat) (w : World) (c v : Value) (wr : World) : Prop :=
  ∃ (m : Nat) (os : List Nat), c = .int .u64 (m : Int) ∧ wr.ownsRow B 3 1 v os.length (cellsN os) ∧ Below B w wr ∧ dg N = os ++ dg m ∧ m ≤ N

def natU2 : Value → Nat
  | .int _ n => n.toNat
  | _ => 0

theorem of2_next (N B m : Nat) (os : List Nat) (w wr w1 : World) (v' : Value) (cI dI : Int) (hm : 0 < m) (hd : dg N = os ++ dg m) (hle : m ≤ N) (hb : Below B w wr) (hb1 : Below B wr w1) (e1 : cI = ((m / 65536 : Nat) : Int)) (e2 : dI = ((m % 65536 : Nat) : Int))
    (hown : w1.ownsRow B 3 1 v' (os.length + 1) (cellsN os ++ [.int .i64 dI])) : Of2Inv N B w (.int .u64 cI) v' w1 := by
  subst e1 e2
  refine ⟨m / 65536, os ++ [m % 65536], rfl, ?_, hb.trans hb1, ?_, by omega⟩
  · rw [cellsN_snoc, List.length_append, List.length_cons, List.length_nil]; exact hown
  · rw [hd, dg_pos m (by omega)]; simp

set_option maxHeartbeats 2000000 in
theorem of2_any (N : Nat) (w : World) (hN : N < 18446744073709551616) : Calls Try.prog 63 #[.int .u64 (N : Int)] w (GivesNum false N w) := by
  have NA := Lib.hid (NumAt.new w false (.slice none 0 0))
  have BW := Lib.hid ((Below.refl w.heap.size w).alloc (Nat.le_refl _) (.cells #[.bool false, .slice none 0 0] 66))
  have HL := Lib.hid (dg_length 4 N (by omega))
  have HN := Lib.hid hN
  clear hN
  go_enter Try.func63, Try.ntmps63
  go_wp2_with fail
  go_loopw [0, 3] (fun c v wr => Of2Inv N (w.heap.size + 1) (w.alloc (.cells #[.bool false, .slice none 0 0] 66)) c v wr) (fun c _ _ => natU2 c)
  case atStart => exact ⟨N, [], rfl, World.ownsRow_nil _ _ _ _, Below.refl _ _, rfl, Nat.le_refl _⟩
  case round =>
    obtain ⟨m, os, rfl, hown, hb, hd, hle⟩ := hrel
    have hlen := congrArg List.length hd
    rw [List.length_append] at hlen
    have hl := HL.out
    have hN := HN.out
    have ho : os.length ≤ 4 := by omega
    have hm64 : (m : Int) ≤ 18446744073709551615 := by omega
    have HD := Lib.hid hd
    have HO := Lib.hid hown
    have HB := Lib.hid hb
    have HLE := Lib.hid hle
    have hsz := hb.size
    simp at hsz
    clear hlen hl hN hd hown hb hle
    by_cases hz : 0 < (m : Int)
    · have hw : (m : Int) % 65536 ≤ 65535 := by omega
      go_wp2_with (first | (at_builtin; refine append_digit _ rfl (.tmp 6) (.tmp 10) rfl _ HO.out rfl rfl (by omega) (by omega) ?_; intro v' w1 hown' hb'))
      go_roundw
      case rel => exact of2_next N _ m os _ wr w1 v' _ _ (by omega) HD.out HLE.out HB.out hb' (by omega) (by omega) hown'
      case measure => simp only [natU2]; omega
    · obtain rfl : m = 0 := by omega
      have hd := HD.out
      rw [dg_zero, List.append_nil] at hd
      have ho2 := HO.out
      rw [← hd] at ho2
      obtain ⟨a', cap', hv, hr, hc, hm⟩ := row_of_own ho2
      subst hv
      have F := Lib.hid (And.intro hr (And.intro hc hm))
      have NA2 := NA.out.below HB.out (Nat.lt_succ_self _)
      have r0 := NA2.c0; have r1 := NA2.c1; have y0 := NA2.z0; have y1 := NA2.z1
      have HBf := Lib.hid (BW.out.trans (HB.out.mono (Nat.le_succ _)))
      clear hd ho2 hr hc hm hz
      go_wp2_with fail
      exact num_close2 Try.results63 rfl NA2 HBf.out (Nat.le_refl _) F.out rfl
/-- Of, of any number of 64 bits. -/
theorem of2_z (N : Nat) (w : World) (hN : N < 18446744073709551616) : Calls Try.prog 63 #[.int .u64 (N : Int)] w (GivesZ (N : Int) w) :=
  (of2_any N w hN).mono fun _ _ hg => hg.toZ
end Go.Proofs.Ythnjdncnmdmjaaa
