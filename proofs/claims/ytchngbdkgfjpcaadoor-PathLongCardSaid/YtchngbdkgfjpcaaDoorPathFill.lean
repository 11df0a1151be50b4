/-
  The law of texts that are too long: its walk.
-/
import Derived.Test.YtchngbdkgfjpcaaDoorPathTooLong
import Derived.Test.YtchngbdkgfjpcaaDoorBytesOwn
import Derived.Test.YtchngbdkgfjpcaaDoorPathLaid
import Derived.Test.YtchngbdkgfjpcaaDoorPathWakes
namespace Go.Proofs.YtchngbdkgfjpcaaDoor
open Go.RowKit Go.Shelf
attribute [local go_sem] Oper.semAt_some

/-- A row of so many bytes c, and noughts behind them. -/
def filled (c : UInt8) (k n : Nat) : List UInt8 := List.replicate k c ++ List.replicate (n - k) 0
theorem filled_length (c : UInt8) (k n : Nat) (h : k ≤ n) : (filled c k n).length = n := by simp [filled]; omega
theorem filled_next (c : UInt8) (k n : Nat) (h : k < n) : (filled c k n).set k c = filled c (k + 1) n := by
  unfold filled
  obtain ⟨m, hm⟩ : ∃ m, n - k = m + 1 := ⟨n - k - 1, by omega⟩
  rw [hm, show n - (k + 1) = m from by omega, List.replicate_succ (n := m), List.replicate_succ' (n := k), List.set_append_right _ _ (by simp)]
  simp
theorem make_bytes {ops : Array Oper} {rest : List Oper} {o : Oper} {a : Act} {Q : Exit → Act → World → Prop} (w : World) (hg : o.guard = none) (l c : Operand) (hop : o.op = Op.makeSlice 44 l c)
    (n : Nat) (L : Int) (hl : a.eval l = .int .i64 L) (hc : a.eval c = .int .i64 L) (hL : L = (n : Int)) (hn : n ≤ 1000000000) (x : UInt8)
    (hK : ∀ w', w'.ownsRow w.heap.size 5 1 (.slice (some ⟨w.heap.size, 0, none⟩) n n) n (Lib.byteCells (filled x 0 n)) → Below w.heap.size w w' → wpList Tryd.prog ops Q rest (a.put o.dst (.slice (some ⟨w.heap.size, 0, none⟩) n n)) w') :
    wpList Tryd.prog ops Q (o :: rest) a w := by
  obtain ⟨i0, hi, hz0, hz1, hz2⟩ := info_parts info_u8
  refine wpList_make_full w hg l c 44 hop w.heap.size 5 i0 (.int .u8 0) 1 Tryd.underlying44 hi hz0 hz1 .i64 .i64 L L n hl hc hL hL (by rw [hz2]; omega) (by unfold maxLen; omega) (Nat.le_refl _) ?_
  intro w' hown hgr
  refine hK w' ?_ ((Below.refl _ _).grown hgr (Nat.le_refl _) (fun k hk => by cases hk))
  have e : (madeCells (Value.cells (.int .u8 0)) (n * 1)).toList = Lib.byteCells (filled x 0 n) := by
    rw [show Value.cells (.int .u8 0) = #[.int .u8 0] from rfl, toList_madeCells_one]
    simp [Lib.byteCells, filled]
  rw [← e]; exact hown
theorem own_fill {w : World} {B g n : Nat} {c : UInt8} {k : Nat} (h : w.ownsRow B 5 1 (.slice (some ⟨g, 0, none⟩) n n) n (Lib.byteCells (filled c k n))) (hk : k < n) :
    (w.setCell ⟨g, k, none⟩ (.int .u8 (c.toNat : Int))).ownsRow B 5 1 (.slice (some ⟨g, 0, none⟩) n n) n (Lib.byteCells (filled c (k + 1) n)) ∧ (∃ v : UInt8, w.cell? ⟨g, k, none⟩ = some (.int .u8 (v.toNat : Int))) ∧ w.frozen? ⟨g, k, none⟩ = false := by
  refine ⟨?_, ?_, h.frozenAt k⟩
  · have := (h.stored k (.int .u8 (c.toNat : Int))).1
    rw [show (Lib.byteCells (filled c k n)).set k (.int .u8 (c.toNat : Int)) = Lib.byteCells (filled c (k + 1) n) from by rw [← filled_next c k n hk]; simp [Lib.byteCells, List.map_set]] at this
    exact this
  · refine ⟨(filled c k n)[k]'(by rw [filled_length _ _ _ (by omega)]; exact hk), ?_⟩
    rw [h.cellAt k (by omega)]
    rw [Lib.byteCells, List.getElem?_map, List.getElem?_eq_getElem (by rw [filled_length _ _ _ (by omega)]; exact hk)]; rfl
def FillInv (c : UInt8) (n : Nat) (w : World) (i : Value) (wr : World) : Prop :=
  ∃ k : Nat, k ≤ n ∧ i = .int .i64 (k : Int) ∧ wr.ownsRow w.heap.size 5 1 (.slice (some ⟨w.heap.size, 0, none⟩) n n) n (Lib.byteCells (filled c k n)) ∧ Below w.heap.size w wr
set_option maxRecDepth 100000 in
set_option maxHeartbeats 2000000 in
theorem long_walk (more : Nat) (c : UInt8) (w : World) (T : PTabs w) (hm : more < 256) :
    Calls Tryd.prog 8 #[.int .u8 (more : Int), .int .u8 (c.toNat : Int)] w fun e w' => e = .returned (.bool true) ∧ Below w.heap.size w w' := by
  have K := Lib.hid (wakes6 w T)
  clear T
  obtain ⟨n, hn⟩ : ∃ n, n = 65537 + more := ⟨_, rfl⟩
  have hn1 : 65536 < n := by omega
  have hn2 : n < 70000 := by omega
  have e1 : ((65537 : Int) + (more : Int)) = (n : Int) := by omega
  clear hn
  go_enter Tryd.func8, Tryd.ntmps8
  go_wp2_with fail
  refine K.out.mono ?_
  rintro e w1 ⟨rfl, b1⟩
  go_wp2_with (at_make; refine make_bytes _ rfl _ _ rfl n _ rfl rfl (by omega) (by omega) c ?_; intro w0 hown0 hb0)
  have HO0 := Lib.hid hown0
  have HB0 := Lib.hid hb0
  clear hown0 hb0
  go_loopw [18] (fun i wr => FillInv c n w1 i wr) (fun i _ => n - (intOf i).toNat)
  case atStart => exact ⟨0, Nat.zero_le _, rfl, HO0.out, HB0.out⟩
  case round =>
    obtain ⟨k, hk, rfl, hown, hb⟩ := hrel
    by_cases hlt : k < n
    · have os := own_fill hown hlt
      have hst := os.1
      obtain ⟨v0, hcell⟩ := os.2.1
      have hfz := os.2.2
      have NX := Lib.hid (show FillInv c n w1 (.int .i64 ((k : Int) + 1)) (wr.setCell ⟨w1.heap.size, k, none⟩ (.int .u8 (c.toNat : Int))) from ⟨k + 1, by omega, rfl, hst, hb.setCell (Nat.le_refl _) _⟩)
      clear os hst hown hb
      go_wp2_with fail
      go_roundw
      case rel => exact NX.out
      case measure => simp [intOf]; omega
    · obtain rfl : k = n := by omega
      obtain ⟨s, hs, hT⟩ : ∃ s : ByteArray, s.size = k ∧ ∀ W : World, W.ownsRow w1.heap.size 5 1 (.slice (some ⟨w1.heap.size, 0, none⟩) k k) k (Lib.byteCells (filled c k k)) → Sem.run Tryd.prog (convert 44 9 (.slice (some ⟨w1.heap.size, 0, none⟩) k k)) W = .ok (.string s) W := by
        have hl := filled_length c k k (Nat.le_refl _)
        refine ⟨⟨(filled c k k).toArray⟩, by simpa [ByteArray.size] using hl, fun W h => text_of_own (by rw [hl]; exact h) (fun e => by rw [e] at hl; simp at hl; omega)⟩
      have hs1 : 65536 < s.size := by omega
      have hs2 : s.size ≤ maxLen := by unfold maxLen; omega
      have P := Lib.hid (fun w => Parse_long s w hs1 hs2)
      have TL := Lib.hid (show ∀ w, Calls Tryd.prog 14 #[.string s, .int .i64 3] w fun e w' => e = .returned (.slice none 0 0) ∧ Below w.heap.size w w' from fun w => told_long s 3 w hs1 hs2)
      have r1 := hT _ hown
      have HT := Lib.hid hT
      have HO := Lib.hid hown
      have HB := Lib.hid (b1.trans (hb.mono b1.size))
      have hlt2 := HB.out.size
      clear hT hown hb b1 HO0 HB0 hs1 hs2 hs
      go_wp2_with fail
      refine (P.out _).mono ?_
      rintro e w2 ⟨rfl, b2⟩
      have r2 := HT.out _ (own_next HO.out b2)
      have B2 := Lib.hid (HB.out.trans (b2.mono HB.out.size))
      clear b2 r1
      go_wp2_with fail
      refine (TL.out _).mono ?_
      rintro e w3 ⟨rfl, b3⟩
      have B3 := Lib.hid (B2.out.trans (b3.mono B2.out.size))
      clear b3
      go_wp2_with fail
      go_ret
      exact ⟨rfl, B3.out⟩
end Go.Proofs.YtchngbdkgfjpcaaDoor
