/-
  PROVED: the statement of ScanLists, for every input: numbers' texts with gaps between are read one by one, as they are; then the reader is at the end. No conditions but what the row lists: package variables as the program's text lays them.
-/
import Derived.Test.YtmfibmcmbbelgaaDoorScanWakes
import Derived.Test.YtmfibmcmbbelgaaDoorScanLaid
import Derived.Test.YtmfibmcmbbelgaaDoorRowK
import Derived.Test.YtmfibmcmbbelgaaDoorRef4Print
namespace Go.Proofs.YtmfibmcmbbelgaaDoor.scanLists
open Go.ChangeShapes Go.WideShapes Go.ChangeAt Go.RowKit Go.Shelf

theorem walk_append (l r : List UInt8) : ∀ st, (walkL l st).1 = l.length → walkL (l ++ r) st = (l.length + (walkL r (walkL l st).2).1, (walkL r (walkL l st).2).2) := by
  induction l with
  | nil => intro st _; simp [walkL]
  | cons b t ih =>
    intro st h
    have ec : ∀ u : List UInt8, walkL (b :: u) st = if follow st (kindB b) = 0 then (0, st) else ((walkL u (follow st (kindB b))).1 + 1, (walkL u (follow st (kindB b))).2) := fun _ => rfl
    rw [List.cons_append, ec]
    rw [ec] at h ⊢
    by_cases h0 : follow st (kindB b) = 0
    · rw [if_pos h0] at h; simp at h
    · rw [if_neg h0] at h ⊢
      rw [if_neg h0]
      have h' : (walkL t (follow st (kindB b))).1 = t.length := by simpa using h
      rw [ih _ h']
      refine Prod.ext ?_ rfl
      show t.length + (walkL r (walkL t (follow st (kindB b))).2).1 + 1 = t.length + 1 + (walkL r (walkL t (follow st (kindB b))).2).1
      omega
/-- A text that goes on with neither a digit nor a sign, a point or a letter. -/
def Stops (r : List UInt8) : Prop := r = [] ∨ ∃ b t, r = b :: t ∧ kindB b = 4
theorem wk_stops (l r : List UInt8) (h : Acc l 1) (hr : Stops r) : wk (l ++ r) 1 = (l.length, true) := by
  unfold wk
  rw [walk_append l r 1 h.1]
  rcases hr with rfl | ⟨b, t, rfl, hk⟩
  · exact Prod.ext rfl h.2
  · have e : ∀ q, walkL (b :: t) q = (0, q) := fun q => by unfold walkL; rw [hk, follow_4, if_pos rfl]
    rw [e]
    exact Prod.ext rfl h.2
/-- The number's text. -/
def pr (z : Int) : List UInt8 := printL (decide (z < 0)) z.natAbs
theorem pr_len (z : Int) (h1 : -2147483648 ≤ z) (h2 : z ≤ 2147483647) : (pr z).length ≤ 28 := by
  unfold pr printL
  have a : (signL (decide (z < 0))).length ≤ 1 := by unfold signL; split <;> simp
  have b := digL_len (z.natAbs / 65536) 9 (by omega)
  have c := frac_len 16 (z.natAbs % 65536)
  have d : (ptL (decide (z.natAbs % 65536 ≠ 0)) (frac 16 (z.natAbs % 65536))).length ≤ 17 := by
    unfold ptL; split <;> simp <;> omega
  simp only [List.length_append]
  omega
theorem pr_ans (z : Int) (h1 : -2147483648 ≤ z) (h2 : z ≤ 2147483647) (w : World) (T : Tabs w) : Calls Tryd.prog 29 #[.string ⟨(pr z).toArray⟩] w (Tells (z, 0) w) := by
  have hl := pr_len z h1 h2
  have P := Parse_num ⟨(pr z).toArray⟩ _ _ _ _ _ w (by simp [ByteArray.size]; omega) T (print_num (decide (z < 0)) z.natAbs)
  rw [print_ans] at P
  have e : sg (decide (z < 0)) z.natAbs = z := by
    by_cases h : z < 0
    · rw [decide_eq_true h, sg_true]; omega
    · rw [decide_eq_false h, sg_false]; omega
  rw [e] at P
  unfold ansV at P
  rwa [if_pos (by omega)] at P
theorem pr_acc (z : Int) : Acc (pr z) 1 := (print_num (decide (z < 0)) z.natAbs).acc
/-- It begins with a digit or a sign. -/
theorem pr_head (z : Int) : ∃ b t, pr z = b :: t ∧ isBl b = false ∧ isCm b = false := by
  have hd : ∀ b : UInt8, isDig b = true → isBl b = false ∧ isCm b = false := by
    intro b h
    unfold isDig at h; unfold isBl isBlN isCm
    simp at h ⊢; omega
  unfold pr printL
  cases decide (z < 0) with
  | true => exact ⟨45, _, rfl, by decide, by decide⟩
  | false =>
    have hp := digL_pos (z.natAbs / 65536)
    have ha := digL_all (z.natAbs / 65536)
    cases e : digL (z.natAbs / 65536) with
    | nil => rw [e] at hp; simp at hp
    | cons b t =>
      rw [e] at ha
      exact ⟨b, _, rfl, hd b (ha b List.mem_cons_self)⟩
/-- The four gaps. -/
def sepL (c : Nat) : List UInt8 := if c % 4 = 0 then [32] else if c % 4 = 1 then [44] else if c % 4 = 2 then [32, 44, 32] else [9]
theorem sep_cases (c : Nat) : sepL c = [32] ∨ sepL c = [44] ∨ sepL c = [32, 44, 32] ∨ sepL c = [9] := by
  unfold sepL; split
  · exact Or.inl rfl
  · split
    · exact Or.inr (Or.inl rfl)
    · split
      · exact Or.inr (Or.inr (Or.inl rfl))
      · exact Or.inr (Or.inr (Or.inr rfl))
theorem sep_len (c : Nat) : (sepL c).length ≤ 3 ∧ 0 < (sepL c).length := by
  rcases sep_cases c with h | h | h | h <;> rw [h] <;> simp
theorem sep_gap (c : Nat) (b : UInt8) (t : List UInt8) (h1 : isBl b = false) (h2 : isCm b = false) : gap 0 (sepL c ++ b :: t) = (sepL c).length := by
  have x32 : isBl 32 = true := rfl
  have x9 : isBl 9 = true := rfl
  have c32 : isCm 32 = false := rfl
  have c9 : isCm 9 = false := rfl
  have c44 : isCm 44 = true := rfl
  rcases sep_cases c with h | h | h | h <;> rw [h] <;> simp [gap, x32, x9, c32, c9, c44, h1, h2]
theorem sep_stops (c : Nat) (r : List UInt8) : Stops (sepL c ++ r) := by
  rcases sep_cases c with h | h | h | h <;> rw [h] <;> exact Or.inr ⟨_, _, rfl, by decide⟩
/-- The text from the i-th number on. -/
def rest (sp : Nat → Nat) : Nat → List Int → List UInt8
  | _, [] => []
  | i, z :: t => (if i = 0 then [] else sepL (sp i)) ++ (pr z ++ rest sp (i + 1) t)
theorem rest_stops (sp : Nat → Nat) (i : Nat) (hi : i ≠ 0) (l : List Int) : Stops (rest sp i l) := by
  cases l with
  | nil => exact Or.inl rfl
  | cons z t => unfold rest; rw [if_neg hi]; exact sep_stops _ _
theorem rest_drop (sp : Nat → Nat) (i : Nat) (zs : List Int) (h : i < zs.length) : rest sp i (zs.drop i) = (if i = 0 then [] else sepL (sp i)) ++ (pr (zs.getD i 0) ++ rest sp (i + 1) (zs.drop (i + 1))) := by
  rw [List.drop_eq_getElem_cons h]
  unfold rest
  rw [show zs.getD i 0 = zs[i] from by simp [List.getD, List.getElem?_eq_getElem h]]
  cases zs.drop (i + 1) <;> rfl
/-- The text so far. -/
theorem num_at (S : ByteArray) (k : Nat) (z : Int) (r : List UInt8) (hd : S.data.toList.drop k = pr z ++ r) (hr : Stops r) :
    nmW S k true = true ∧ nmE S k true = k + (pr z).length ∧ S.extract k (k + (pr z).length) = ⟨(pr z).toArray⟩ ∧ S.data.toList.drop (k + (pr z).length) = r := by
  have hw := wk_stops (pr z) r (pr_acc z) hr
  refine ⟨?_, ?_, ?_, ?_⟩
  · unfold nmW; simp only [if_true]; rw [hd, hw]
  · unfold nmE; simp only [if_true]; rw [hd, hw]
  · refine ByteArray.ext (Array.ext' ?_)
    rw [Lib.extract_data, hd, show k + (pr z).length - k = (pr z).length from by omega, List.take_left]
  · rw [← List.drop_drop, hd, List.drop_left]

def Inv1 (sp : Nat → Nat) (zs : List Int) (w : World) (v5 v : Value) (wr : World) : Prop :=
  ∃ (i : Nat) (t : List UInt8), i ≤ zs.length ∧ t.length ≤ 31 * i ∧ v = .int .i64 (i : Int) ∧ v5 = .string ⟨t.toArray⟩ ∧ Hid (t ++ rest sp i (zs.drop i) = rest sp 0 zs) ∧ Below w.heap.size w wr
/-- Number by number. -/
def Inv2 (sp : Nat → Nat) (zs : List Int) (s : ByteArray) (g : Nat) (w : World) (v : Value) (wr : World) : Prop :=
  ∃ i k : Nat, i ≤ zs.length ∧ k ≤ s.size ∧ v = .int .i64 (i : Int) ∧ Rdr g s k wr ∧ Below w.heap.size w wr ∧ Hid (s.data.toList.drop k = rest sp i (zs.drop i))

set_option maxHeartbeats 8000000 in
set_option maxRecDepth 100000 in
theorem walk (a : Option Addr) (zs : List Int) (cap : Nat) (hl : zs.length ≤ maxLen) (hz : ∀ z ∈ zs, (Lit.int .i32 z).wf = true) (ga : Option Addr) (gs : List Int) (gcap : Nat) (hgl : gs.length ≤ maxLen) (hgz : ∀ z ∈ gs, (Lit.int .u8 z).wf = true) (w : World) (hI : IntsK .i32 a zs w) (hG : IntsK .u8 ga gs w) (T : STabs w) :
    Calls Tryd.prog 6 #[.slice a zs.length cap, .slice ga gs.length gcap] w fun e w' => e = .returned (.bool true) ∧ Below w.heap.size w w' := by
  have K := Lib.hid (wakes5 w T)
  have HT := Lib.hid T
  have HI := Lib.hid hI
  have HZ := Lib.hid hz
  have HG := Lib.hid hG
  have HGZ := Lib.hid hgz
  have hl' : zs.length ≤ 9223372036854775807 := hl
  have hgl' : gs.length ≤ 9223372036854775807 := hgl
  clear T hl hI hz hgl hG hgz
  by_cases h30 : zs.length ≤ 30 ∧ gs.length ≠ 0 ∧ gs.length ≤ 30
  · obtain ⟨h1, h2, h3⟩ := h30
    have q1 : ¬ (30 : Int) < (zs.length : Int) := by omega
    have q2 : ((gs.length : Int) == 0) = false := by rw [beq_eq_false_iff_ne]; omega
    have q3 : ¬ (30 : Int) < (gs.length : Int) := by omega
    obtain ⟨sp, hsp⟩ : ∃ sp : Nat → Nat, sp = fun i => (gs.getD (i % gs.length) 0).toNat := ⟨_, rfl⟩
    have HSP := Lib.hid hsp
    clear hsp
    go_enter Tryd.func6, Tryd.ntmps6
    go_wp2_with fail
    refine K.out.mono ?_
    rintro e w1 ⟨rfl, b1⟩
    have B1 := Lib.hid b1
    clear K b1
    go_wp2_with fail
    go_loopw [5, 30] (fun v5 v wr => Inv1 sp zs w v5 v wr) (fun _ v _ => zs.length - (intOf v).toNat)
    case atStart => exact ⟨0, [], Nat.zero_le _, Nat.zero_le _, rfl, rfl, Lib.hid rfl, B1.out⟩
    case round =>
      clear B1
      obtain ⟨i, t, hi, ht, rfl, rfl, hN, hB⟩ := hrel
      have B := Lib.hid hB
      clear hB
      by_cases hlt : i < zs.length
      · obtain ⟨bb, off, rfl, hbl, hc⟩ := (HI.out.below B.out (Nat.le_refl _)).pos hlt
        have hcell := hc i hlt
        have hz := i32_of_wf (HZ.out _ (getD_mem hlt))
        have HN := Lib.hid (hN.out)
        rw [rest_drop sp i zs hlt] at HN
        clear hc hN
        generalize zs.getD i 0 = z at *
        have PR := Lib.hid (rprint_any z ⟨by omega, by omega⟩)
        rw [show printL (decide (z < 0)) z.natAbs = pr z from rfl] at PR
        have hpl := pr_len z hz.1 hz.2
        have ez : IntKind.i64.wrap z = z := IntWalk.i64_in _ (by omega)
        by_cases h0 : i = 0
        · subst h0
          have s2 := fun W => cat_run t (pr z) W (by omega)
          simp only [Nat.add_zero] at hcell
          rw [if_pos rfl, List.nil_append] at HN
          go_wp2_with fail
          refine (PR.out _).mono ?_
          rintro e w3 ⟨rfl, b3⟩
          have B3 := Lib.hid (B.out.trans (b3.mono B.out.size))
          clear b3 B
          go_wp2_with fail
          go_roundw
          case rel => exact ⟨1, t ++ pr z, by omega, by simp; omega, rfl, rfl, Lib.hid (by rw [← HN.out]; simp), B3.out⟩
          case measure => simp [intOf]; omega
        · rw [if_neg h0] at HN
          have h0' : (0 : Int) < (i : Int) := by omega
          have ej : (i : Int).tmod (gs.length : Int) = ((i % gs.length : Nat) : Int) := rfl
          have hj : i % gs.length < gs.length := Nat.mod_lt _ (by omega)
          rw [show sp i = (gs.getD (i % gs.length) 0).toNat by rw [HSP.out]] at HN
          generalize i % gs.length = j at *
          obtain ⟨gb, goff, rfl, hgb, hgc⟩ := (HG.out.below B.out (Nat.le_refl _)).pos hj
          have gcell := hgc j hj
          obtain ⟨c, hc1, hc2⟩ := u8_of_wf (HGZ.out _ (getD_mem hj))
          rw [hc1] at gcell HN
          rw [Int.toNat_natCast] at HN
          clear hc1 hgc
          have f0 : (wr.alloc (.cells #[.string ⟨#[32]⟩, .string ⟨#[44]⟩, .string ⟨#[32, 44, 32]⟩, .string ⟨#[9]⟩] 9)).cell? ⟨gb, goff + j, none⟩ = some (.int .u8 (c : Int)) := (World.cell?_alloc_past _ _ _ hgb).trans gcell
          have B2 := Lib.hid (B.out.alloc B.out.size (.cells #[.string ⟨#[32]⟩, .string ⟨#[44]⟩, .string ⟨#[32, 44, 32]⟩, .string ⟨#[9]⟩] 9))
          have er : (c : Int).tmod 4 = ((c % 4 : Nat) : Int) := rfl
          have hr4 : c % 4 = 0 ∨ c % 4 = 1 ∨ c % 4 = 2 ∨ c % 4 = 3 := by omega
          rcases hr4 with hr | hr | hr | hr
          · rw [hr] at er
            have es : sepL c = [32] := by unfold sepL; simp [hr]
            rw [es] at HN
            have f1 : (wr.alloc (.cells #[.string ⟨#[32]⟩, .string ⟨#[44]⟩, .string ⟨#[32, 44, 32]⟩, .string ⟨#[9]⟩] 9)).cell? ⟨wr.heap.size, 0, none⟩ = some (.string ⟨#[32]⟩) := World.cell?_alloc_new wr _ _ 0
            have s1 := fun W => cat_run t [32] W (by simp; omega)
            have s2 := fun W => cat_run (t ++ [32]) (pr z) W (by simp; omega)
            go_wp2_with fail
            refine (PR.out _).mono ?_
            rintro e w3 ⟨rfl, b3⟩
            have B3 := Lib.hid (B2.out.trans (b3.mono B2.out.size))
            clear b3 B B2
            go_wp2_with fail
            go_roundw
            case rel => exact ⟨i + 1, t ++ [32] ++ pr z, by omega, by simp; omega, by go_num, by simp, Lib.hid (by rw [← HN.out]; simp), B3.out⟩
            case measure => simp [intOf]; omega
          · rw [hr] at er
            have es : sepL c = [44] := by unfold sepL; simp [hr]
            rw [es] at HN
            have f1 : (wr.alloc (.cells #[.string ⟨#[32]⟩, .string ⟨#[44]⟩, .string ⟨#[32, 44, 32]⟩, .string ⟨#[9]⟩] 9)).cell? ⟨wr.heap.size, 1, none⟩ = some (.string ⟨#[44]⟩) := World.cell?_alloc_new wr _ _ 1
            have s1 := fun W => cat_run t [44] W (by simp; omega)
            have s2 := fun W => cat_run (t ++ [44]) (pr z) W (by simp; omega)
            go_wp2_with fail
            refine (PR.out _).mono ?_
            rintro e w3 ⟨rfl, b3⟩
            have B3 := Lib.hid (B2.out.trans (b3.mono B2.out.size))
            clear b3 B B2
            go_wp2_with fail
            go_roundw
            case rel => exact ⟨i + 1, t ++ [44] ++ pr z, by omega, by simp; omega, by go_num, by simp, Lib.hid (by rw [← HN.out]; simp), B3.out⟩
            case measure => simp [intOf]; omega
          · rw [hr] at er
            have es : sepL c = [32, 44, 32] := by unfold sepL; simp [hr]
            rw [es] at HN
            have f1 : (wr.alloc (.cells #[.string ⟨#[32]⟩, .string ⟨#[44]⟩, .string ⟨#[32, 44, 32]⟩, .string ⟨#[9]⟩] 9)).cell? ⟨wr.heap.size, 2, none⟩ = some (.string ⟨#[32, 44, 32]⟩) := World.cell?_alloc_new wr _ _ 2
            have s1 := fun W => cat_run t [32, 44, 32] W (by simp; omega)
            have s2 := fun W => cat_run (t ++ [32, 44, 32]) (pr z) W (by simp; omega)
            go_wp2_with fail
            refine (PR.out _).mono ?_
            rintro e w3 ⟨rfl, b3⟩
            have B3 := Lib.hid (B2.out.trans (b3.mono B2.out.size))
            clear b3 B B2
            go_wp2_with fail
            go_roundw
            case rel => exact ⟨i + 1, t ++ [32, 44, 32] ++ pr z, by omega, by simp; omega, by go_num, by simp, Lib.hid (by rw [← HN.out]; simp), B3.out⟩
            case measure => simp [intOf]; omega
          · rw [hr] at er
            have es : sepL c = [9] := by unfold sepL; simp [hr]
            rw [es] at HN
            have f1 : (wr.alloc (.cells #[.string ⟨#[32]⟩, .string ⟨#[44]⟩, .string ⟨#[32, 44, 32]⟩, .string ⟨#[9]⟩] 9)).cell? ⟨wr.heap.size, 3, none⟩ = some (.string ⟨#[9]⟩) := World.cell?_alloc_new wr _ _ 3
            have s1 := fun W => cat_run t [9] W (by simp; omega)
            have s2 := fun W => cat_run (t ++ [9]) (pr z) W (by simp; omega)
            go_wp2_with fail
            refine (PR.out _).mono ?_
            rintro e w3 ⟨rfl, b3⟩
            have B3 := Lib.hid (B2.out.trans (b3.mono B2.out.size))
            clear b3 B B2
            go_wp2_with fail
            go_roundw
            case rel => exact ⟨i + 1, t ++ [9] ++ pr z, by omega, by simp; omega, by go_num, by simp, Lib.hid (by rw [← HN.out]; simp), B3.out⟩
            case measure => simp [intOf]; omega
      · obtain rfl : i = zs.length := by omega
        have HN := Lib.hid (show t = rest sp 0 zs by have := hN.out; rwa [List.drop_length, show rest sp zs.length [] = [] from by unfold rest; rfl, List.append_nil] at this)
        clear hN HG HGZ HSP hi hlt
        obtain ⟨S, hS⟩ : ∃ S : ByteArray, S = ⟨t.toArray⟩ := ⟨_, rfl⟩
        have sz : S.size = t.length := by rw [hS]; simp [ByteArray.size]
        have HS := Lib.hid (show S.data.toList = rest sp 0 zs by rw [hS]; exact HN.out)
        have hm : S.size ≤ maxLen := by rw [sz]; unfold maxLen; omega
        have hsz : S.size ≤ 100000 := by rw [sz]; omega
        rw [← hS]
        clear hS sz HN ht
        have NW := Lib.hid (New_any S)
        go_wp2_with fail
        refine (NW.out _).mono ?_
        rintro e w2 ⟨rfl, R2, b2⟩
        have hg : w.heap.size ≤ wr.heap.size := B.out.size
        have B2 := Lib.hid (B.out.trans (b2.mono hg))
        have HR2 := Lib.hid R2
        have hgN : gN ≤ w.heap.size := HT.out.tabs.size
        clear B b2 R2 NW
        generalize wr.heap.size = g at *
        have hgg : gN ≤ g := by omega
        go_wp2_with fail
        go_loopw [62] (fun v wr => Inv2 sp zs S g w v wr) (fun v _ => zs.length - (intOf v).toNat)
        case atStart => exact ⟨0, 0, Nat.zero_le _, Nat.zero_le _, rfl, HR2.out, B2.out, Lib.hid (by rw [List.drop_zero, List.drop_zero]; exact HS.out)⟩
        case round =>
          clear HR2 B2
          obtain ⟨i, k, hi, hk, rfl, hR, hB, hD⟩ := hrel
          have R := Lib.hid hR
          have B := Lib.hid hB
          clear hR hB
          by_cases hlt : i < zs.length
          · have TT := Lib.hid (HT.out.next B.out)
            obtain ⟨bb, off, rfl, hbl, hc⟩ := (HI.out.below B.out (Nat.le_refl _)).pos hlt
            have hcell := hc i hlt
            have hz := i32_of_wf (HZ.out _ (getD_mem hlt))
            have HD := Lib.hid hD.out
            rw [rest_drop sp i zs hlt] at HD
            clear hc hD
            generalize zs.getD i 0 = z at *
            have ST := Lib.hid (rest_stops sp (i + 1) (by omega) (zs.drop (i + 1)))
            have PA := Lib.hid (pr_ans z hz.1 hz.2)
            have ez : IntKind.i64.wrap z = z := IntWalk.i64_in _ (by omega)
            have hdl : ∀ k, k ≤ S.size → (S.data.toList.drop k).length = S.size - k := fun k _ => by rw [List.length_drop, Array.length_toList]; rfl
            by_cases h0 : i = 0
            · subst h0
              rw [if_pos rfl, List.nil_append] at HD
              obtain ⟨n1, n2, n3, n4⟩ := num_at S k z _ HD.out ST.out
              have hll := hdl k hk
              rw [HD.out, List.length_append] at hll
              have NU := Lib.hid (fun w H T => Number_ok g S k true (z, 0) w H hm hk T n1 (by rw [n2, n3]; exact PA.out))
              rw [n2] at NU
              simp only [if_true] at NU
              have N4 := Lib.hid n4
              simp only [Nat.add_zero] at hcell
              clear n1 n2 n3 n4 hdl
              generalize (pr z).length = pl at *
              go_wp2_with fail
              refine (NU.out _ R.out TT.out).mono ?_
              rintro e w3 ⟨rfl, b3, R3⟩
              have R' := Lib.hid R3
              have B' := Lib.hid (B.out.trans (b3.below hg B.out.size))
              clear b3 R3 B R
              go_wp2_with fail
              go_roundw
              case rel => exact ⟨1, k + pl, by omega, by omega, rfl, R'.out, B'.out, N4⟩
              case measure => simp [intOf]; omega
            · rw [if_neg h0] at HD
              have h0' : (0 : Int) < (i : Int) := by omega
              obtain ⟨b0, t0, hpr, hb0, hc0⟩ := pr_head z
              have GA := Lib.hid (fun w H T => Gap_any g S k w H hm hk T hgg)
              have eg : gap 0 (S.data.toList.drop k) = (sepL (sp i)).length := by
                rw [HD.out, hpr, List.cons_append]
                exact sep_gap _ _ _ hb0 hc0
              rw [eg, decide_eq_true (sep_len (sp i)).2] at GA
              have hll := hdl k hk
              rw [HD.out, List.length_append, List.length_append] at hll
              have HD2 := Lib.hid (show S.data.toList.drop (k + (sepL (sp i)).length) = pr z ++ rest sp (i + 1) (zs.drop (i + 1)) by rw [← List.drop_drop, HD.out, List.drop_left])
              clear eg hpr hb0 hc0
              obtain ⟨k1, hk1⟩ : ∃ k1 : Nat, k1 = k + (sepL (sp i)).length := ⟨_, rfl⟩
              rw [← hk1] at GA HD2
              obtain ⟨n1, n2, n3, n4⟩ := num_at S k1 z _ HD2.out ST.out
              have NU := Lib.hid (fun w H T => Number_ok g S k1 true (z, 0) w H hm (by omega) T n1 (by rw [n2, n3]; exact PA.out))
              rw [n2] at NU
              simp only [if_true] at NU
              have N4 := Lib.hid n4
              have hk2 : k1 + (pr z).length ≤ S.size := by omega
              clear n1 n2 n3 n4 hdl hll hk1
              generalize (pr z).length = pl at *
              go_wp2_with fail
              refine (GA.out _ R.out TT.out.blks).mono ?_
              rintro e w3 ⟨rfl, b3, R3⟩
              have R2 := Lib.hid R3
              have B2 := Lib.hid (B.out.trans (b3.below hg B.out.size))
              have T2 := Lib.hid (HT.out.next B2.out)
              clear b3 R3 B R TT
              go_wp2_with fail
              refine (NU.out _ R2.out T2.out).mono ?_
              rintro e w4 ⟨rfl, b4, R4⟩
              have R' := Lib.hid R4
              have B' := Lib.hid (B2.out.trans (b4.below hg B2.out.size))
              clear b4 R4 B2 R2
              go_wp2_with fail
              go_roundw
              case rel => exact ⟨i + 1, k1 + pl, by omega, hk2, by go_num, R'.out, B'.out, N4⟩
              case measure => simp [intOf]; omega
          · obtain rfl : i = zs.length := by omega
            have LF := Lib.hid (fun w H => Left_any g S k w H hm hk)
            have e0 : S.size - k = 0 := by
              have := congrArg List.length hD.out
              rw [List.drop_length, show rest sp zs.length [] = [] from by unfold rest; rfl, List.length_drop, Array.length_toList] at this
              exact this
            rw [e0] at LF
            clear e0 hD
            go_wp2_with fail
            refine (LF.out _ R.out).mono ?_
            rintro e w3 ⟨rfl, b3, R3⟩
            have B3 := Lib.hid (B.out.trans (b3.mono B.out.size))
            clear b3 R3 B R
            go_wp2_with fail
            go_ret
            exact ⟨rfl, B3.out⟩
  · go_enter Tryd.func6, Tryd.ntmps6
    by_cases q1 : zs.length ≤ 30
    · have q1' : ¬ (30 : Int) < (zs.length : Int) := by omega
      by_cases q2 : gs.length = 0
      · have q2' : ((gs.length : Int) == 0) = true := by rw [beq_iff_eq]; omega
        go_wp2_with fail
        refine K.out.mono ?_
        rintro e w1 ⟨rfl, b1⟩
        have B1 := Lib.hid b1
        clear K b1
        go_wp2_with fail
        go_ret
        exact ⟨rfl, B1.out⟩
      · have q2' : ((gs.length : Int) == 0) = false := by rw [beq_eq_false_iff_ne]; omega
        have q3 : (30 : Int) < (gs.length : Int) := by omega
        go_wp2_with fail
        refine K.out.mono ?_
        rintro e w1 ⟨rfl, b1⟩
        have B1 := Lib.hid b1
        clear K b1
        go_wp2_with fail
        go_ret
        exact ⟨rfl, B1.out⟩
    · have q1' : (30 : Int) < (zs.length : Int) := by omega
      go_wp2_with fail
      refine K.out.mono ?_
      rintro e w1 ⟨rfl, b1⟩
      have B1 := Lib.hid b1
      clear K b1
      go_wp2_with fail
      go_ret
      exact ⟨rfl, B1.out⟩

set_option maxRecDepth 100000 in
theorem lifted (os : Os) (started : os.Started) (H : Type) (enc : TypeId × Value → H) :
    ReturnsInHanded {} Tryd.checked os 6 .any (fun w args => (Rows.scanListsSpec.pre enc Tryd.prog Tryd.f6 Rows.scanListsRow.domain false w args ∧ laidMetH Tryd.prog laid4 w) ∧ sizedMet enc Tryd.prog Tryd.f6 (OpenSpec.ofChange Rows.scanListsSpec) false w args)
      (Rows.scanListsSpec.post enc Tryd.prog Tryd.f6 false true false false) := by
  refine wrap_laid (C := Tryd.checked) (X := fun w _ => laidMetH Tryd.prog laid4 w) (fun _ _ _ hh h => h.of_heap hh) own started (by kernel_rfl) Tryd.func6
    (ChangeSpec.witness_shaped (enc := enc) (C := Tryd.checked) (os := os) (X := fun w _ => laidMetH Tryd.prog laid4 w) false (World.laidAll Tryd.prog os laid4) #[.slice none 0 0, .slice none 0 0] 8 (World.laidAll_os _ _ _)
      (World.shaped_of_ZipB (by kernel_rfl) (by kernel_rfl)) (by kernel_rfl) (by kernel_rfl) (by kernel_rfl)
      (by rw [MakeChecks.laidMetH_plain _ _ _ (by kernel_rfl)]; exact laidMet_laidAll _ (by kernel_rfl) (by kernel_rfl))) ?_
  intro W base args ds gs before hval0 hW hcnd _ hL hS _
  have hval : ∀ (j : Nat) t v, Tryd.f6.params[j]? = some t → args[j]? = some v → Value.okWide Tryd.prog W .any base t v := hval0
  have hW' := hW
  obtain ⟨p, q, hA0, hV, rfl, hfz, hnd⟩ := hW
  have hA : DataW.TrodAll enc Tryd.prog W 0 (fun _ => true) true Tryd.f6.params.toList args.toList ds p := hA0
  rw [Tryd.params6] at hA hval
  obtain ⟨v0, v1, d0, d1, p0, p1, rfl, rfl, rfl, h0, h1⟩ := trodAll_two hA
  obtain ⟨rfl, rfl⟩ := trodVars_none hV
  obtain ⟨a0, z0, c0, rfl, l0, i0, f0⟩ := intsK_of_trod (P := Tryd.prog) Tryd.underlying41 Tryd.underlying21 (by kernel_rfl) (hval 0 41 v0 rfl rfl) h0
  obtain ⟨a1, z1, c1, rfl, l1, i1, f1⟩ := intsK_of_trod (P := Tryd.prog) Tryd.underlying22 Tryd.underlying5 (by kernel_rfl) (hval 1 22 v1 rfl rfl) h1
  clear hA0 hval0
  simp only [List.append_nil] at hW'
  have lt0 : ∀ x ∈ p0, x.block < W.heap.size := fun x hx => hW'.lt x (by simp [hx])
  have lt1 : ∀ x ∈ p1, x.block < W.heap.size := fun x hx => hW'.lt x (by simp [hx])
  refine (walk a0 z0 c0 l0 f0 a1 z1 c1 l1 f1 W i0 i1 (stabs_of hL hS)).mono fun e W' ⟨he, hg⟩ => ?_
  subst he
  have h0' := Below.trod laidOut (by kernel_rfl) (of_decide_eq_true (by kernel_rfl)) h0 hg lt0
  have h1' := Below.trod laidOut (by kernel_rfl) (of_decide_eq_true (by kernel_rfl)) h1 hg lt1
  exact ⟨_, rfl, ⟨_, _, _, [], _, [], hW', trodAll_mk1 (shut_bool Tryd.underlying4 _), trodAll_mk2 h0' h1', rfl, hg.frame _, fun h => by cases h⟩⟩

/-- The row's statement. -/
theorem row_holds : Rows.ScanListsSaid :=
  OpenClaim.holds_of_wide 6 Tryd.f6 rfl rfl rfl rfl rfl rfl rfl ⟨rfl, rfl, rfl, rfl, rfl⟩ rfl rfl rfl rfl rfl (by kernel_rfl) Tryd.func6 (by kernel_rfl)
    (of_decide_eq_true (by kernel_rfl)) (by unfold Func.isWrapper; first | (rw [if_pos (by decide +kernel)]; kernel_rfl) | (rw [if_neg (by decide +kernel)]; exact ⟨rfl, rfl⟩))
    (fun os started H enc _ => lifted os started H enc)
/-- The given statement: the card. -/
theorem proved : Rows.ScanListsCardSaid :=
  Claim7.holds_tied_plain_at .later [] [.data, .data, .data, .pinned] true (true, "7f27f9792fcff04e179892fc5e3d1bdfc4b5cf923d53db90216b6ccb1ebd3b4e") false row_holds (fun _ h => by cases h) (by kernel_rfl) (fun _ h => by cases h) scanLists_row_tie rfl ⟨rfl, rfl⟩ (by kernel_rfl) rfl
    (fun f fn hf hfn => by
      obtain rfl : f = 6 := Option.some.inj ((show Tryd.prog.funcNamed "pointillist/pointillistlaw05.ScanLists" = some 6 by kernel_rfl).symm.trans hf) |>.symm
      obtain rfl : fn = Tryd.f6 := (Option.some.inj (Tryd.func6.symm.trans hfn)).symm
      exact ⟨by kernel_rfl, fun j t ht => by
        rw [Tryd.params6] at ht
        have hm : t ∈ [41, 22] := by simpa using Array.mem_of_getElem? ht
        have hall : ([41, 22].all fun u => !Tryd.prog.wantsStandIn u) = true := by kernel_rfl
        exact (show Tryd.prog.wantsStandIn t = false by simpa using List.all_eq_true.1 hall t hm)⟩)
    (by kernel_rfl)
end Go.Proofs.YtmfibmcmbbelgaaDoor.scanLists
