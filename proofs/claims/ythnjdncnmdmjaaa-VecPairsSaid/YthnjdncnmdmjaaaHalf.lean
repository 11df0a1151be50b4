/-
  The contract of the document's answer for layer 1: half, a row of digits divided by two, and what is left over.
-/
import Derived.Test.YthnjdncnmdmjaaaPlain
import Derived.Test.YthnjdncnmdmjaaaMake
namespace Go.Proofs.Ythnjdncnmdmjaaa
open Go.RowKit Go.Shelf

theorem drop_set (zs : List Nat) (m d : Nat) (h : m < zs.length) : (zs.set m d).drop m = d :: zs.drop (m + 1) := by
  rw [List.drop_set, if_neg (by omega), Nat.sub_self, List.drop_eq_getElem_cons h]
  rfl

/-- What half's loop keeps. -/
def HalfInv (ds : List Nat) (w : World) (rv i : Value) (wr : World) : Prop :=
  ∃ (k r : Nat) (zs : List Nat), k ≤ ds.length ∧ i = .int .i64 ((k : Int) - 1) ∧ rv = .int .i64 (r : Int) ∧ r ≤ 1 ∧ zs.length = ds.length ∧ Small zs ∧
    wr.ownsRow w.heap.size 3 1 (.slice (some ⟨w.heap.size, 0, none⟩) ds.length ds.length) ds.length (cellsN zs) ∧ Below w.heap.size w wr ∧ val (ds.drop k) = 2 * val (zs.drop k) + r

theorem half_next (ds : List Nat) (w wr : World) (m r : Nat) (zs : List Nat) (t : Int) (hk : m + 1 ≤ ds.length) (hd : Small ds) (hr : r ≤ 1) (hl : zs.length = ds.length) (hs : Small zs)
    (hown : wr.ownsRow w.heap.size 3 1 (.slice (some ⟨w.heap.size, 0, none⟩) ds.length ds.length) ds.length (cellsN zs)) (hb : Below w.heap.size w wr) (hv : val (ds.drop (m + 1)) = 2 * val (zs.drop (m + 1)) + r)
    (ht : t = ((r * 65536 + ds.getD m 0 : Nat) : Int)) :
    HalfInv ds w (.int .i64 (t % 2)) (.int .i64 ((m : Int) - 1)) (wr.setCell ⟨w.heap.size, m, none⟩ (.int .i64 (t / 2))) := by
  subst ht
  have g := small_get hd m
  have o := (own_set hown hl m ((r * 65536 + ds.getD m 0) / 2) (by omega)).1
  refine ⟨m, (r * 65536 + ds.getD m 0) % 2, zs.set m ((r * 65536 + ds.getD m 0) / 2), by omega, rfl, rfl, by omega, by simpa using hl, ?_, o, hb.setCell (Nat.le_refl _) _, ?_⟩
  · intro z hz
    rcases List.mem_or_eq_of_mem_set hz with hz | hz
    · exact hs z hz
    · subst hz; omega
  · rw [val_drop ds m (by omega), drop_set zs m _ (by omega), val, hv]
    omega


/-- What half leaves. -/
def GivesHalf (x : Nat) (w : World) (e : Ending) (w' : World) : Prop :=
  ∃ a cap, a = some ⟨w.heap.size, 0, none⟩ ∧ e = .returned (.tuple #[.slice a (dg (x / 2)).length cap, .int .i64 ((x % 2 : Nat) : Int)]) ∧ Row a (dg (x / 2)) w' ∧ (dg (x / 2)).length ≤ cap ∧ cap ≤ maxLen ∧ Below w.heap.size w w' ∧ w.heap.size < w'.heap.size

set_option maxHeartbeats 2000000 in
theorem half_any (x : Nat) (a : Option Addr) (c : Nat) (w : World) (hl : (dg x).length ≤ 100000000) (h : Row a (dg x) w) :
    Calls Try.prog 93 #[.slice a (dg x).length c] w (GivesHalf x w) := by
  have HV := Lib.hid (val_dg x)
  have HX := Lib.hid (small_dg x)
  have H1 := Lib.hid h
  clear h
  generalize dg x = ds at *
  go_enter Try.func93, Try.ntmps93
  go_wp2_with (at_make; refine make_zeros _ rfl _ _ rfl ds.length _ rfl rfl rfl (by omega) ?_; intro w0 hown0 hb0)
  have HO0 := Lib.hid hown0
  have HB0 := Lib.hid hb0
  clear hown0 hb0
  go_loopw [5, 6] (fun rv i wr => HalfInv ds w rv i wr) (fun _ i _ => (intOf i + 1).toNat)
  case atStart => exact ⟨ds.length, 0, List.replicate ds.length 0, Nat.le_refl _, rfl, rfl, by omega, by simp, small_zeros _, HO0.out, HB0.out, by rw [List.drop_length, List.drop_eq_nil_of_le (by simp)]; rfl⟩
  case round =>
    obtain ⟨k, r, zs, hk, rfl, rfl, hr, hlz, hs, hown, hb, hv⟩ := hrel
    rcases Nat.eq_zero_or_pos k with rfl | hp
    · rw [List.drop_zero, List.drop_zero, HV.out] at hv
      have e1 : val zs = x / 2 := by omega
      have e2 : r = x % 2 := by omega
      subst e2
      have hlt0 := (hown.lt w.heap.size rfl).2
      have HLT := Lib.hid hlt0
      clear hlt0
      rw [← hlz] at hown
      obtain ⟨a', cap', hu, t, fin, _⟩ := own_trims' (w := w) hown hs hb
      simp only [Value.slice.injEq] at hu
      obtain ⟨rfl, _, rfl⟩ := hu
      rw [e1, hlz] at t fin
      have T := Lib.hid t
      have FIN := Lib.hid fin
      have HB := Lib.hid hb
      clear t fin hv e1 hown hb hlz
      go_wp2_with fail
      refine T.out.mono ?_
      rintro e w1 ⟨rfl, rfl⟩
      go_wp2_with fail
      go_ret2
      exact ⟨_, _, rfl, rfl, FIN.out.1, FIN.out.2.1, FIN.out.2.2, HB.out, HLT.out⟩
    · obtain ⟨m, rfl⟩ : ∃ m, k = m + 1 := ⟨k - 1, by omega⟩
      obtain ⟨b1, o1, rfl, q1, hc1⟩ := (H1.out.below hb (Nat.le_refl _)).pos (k := m) (by omega)
      have e1 := hc1 m (by omega)
      have s1 := small_get HX.out m
      have os := own_set hown hlz m 0 (by omega)
      have hcell := os.2.1
      have hfz := os.2.2
      have NX := Lib.hid (fun t => half_next ds w wr m r zs t hk HX.out hr hlz hs hown hb hv)
      clear hc1 os hv hown hb hs hlz
      generalize ds.getD m 0 = d at *
      have i1 : (d : Int) ≤ 65535 := by omega
      have i2 : (r : Int) ≤ 1 := by omega
      go_wp2_with fail
      go_roundw
      case rel => exact NX.out _ (by omega)
      case measure => simp [intOf]
end Go.Proofs.Ythnjdncnmdmjaaa
