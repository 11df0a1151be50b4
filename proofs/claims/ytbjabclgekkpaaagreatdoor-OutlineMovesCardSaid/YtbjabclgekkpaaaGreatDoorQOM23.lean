/- Joined: NormBring, NormPath, NormParse, NormDig, OutEx, AffSame, OutWakes, CrvTrod, OutFn, OutMovM, OutMovesW. -/
import Derived.Test.YtbjabclgekkpaaaGreatDoorQOM01
import Derived.Test.YtbjabclgekkpaaaGreatDoorQOM02
import Derived.Test.YtbjabclgekkpaaaGreatDoorQOM07
import Derived.Test.YtbjabclgekkpaaaGreatDoorQOM10
import Derived.Test.YtbjabclgekkpaaaGreatDoorQOM17
import Derived.Test.YtbjabclgekkpaaaGreatDoorQOM19
import Derived.Test.YtbjabclgekkpaaaGreatDoorQOM22
import Derived.BigQuiet
import Derived.BigRegion
import Derived.Deep.DeepCutAuto
import Derived.Deep.RegionHeld3
import Derived.Lib.ItoaNum
namespace Go.Proofs.YtbjabclgekkpaaaGreatDoor
open Go.RowKit Go.Shelf
/-- The slices of a command's numbers have as much room as they are long. -/
def CapC (a : Option Addr) (l : List Cmd) (w : World) : Prop :=
  ∀ b off, a = some ⟨b, off, none⟩ → ∀ i, i < l.length → ∀ aa n ac, w.cell? ⟨b, off + i * 2 + 1, none⟩ = some (.slice aa n ac) → n ≤ ac
def BringPost (RES : List Seg × Int) (w : World) (e : Ending) (W' : World) : Prop :=
  ∃ a cap, e = .returned (.tuple #[.slice a RES.1.length cap, .int .i64 RES.2]) ∧ RdS a RES.1 W' ∧ RES.1.length ≤ cap ∧ Below w.heap.size w W'
theorem ltr_def (l : List Cmd) (i : Nat) : (⟨ltr l i, ars l i⟩ : Cmd) = l.getD i ⟨0, []⟩ := rfl
theorem drop_cons7 {l : List Cmd} {i : Nat} (h : i < l.length) : l.drop i = ⟨ltr l i, ars l i⟩ :: l.drop (i + 1) := by
  rw [List.drop_eq_getElem_cons h, ltr_def]; simp [List.getD, List.getElem?_eq_getElem h]
def BInv (l : List Cmd) (RES : List Seg × Int) (w W0 : World) (T : Nat) (u6 u7 u13 : Value) (wr : World) : Prop :=
  ∃ (i : Nat) (v : Value) (s : NS), u6 = .int .i64 (s.out.length : Int) ∧ u7 = .int .i64 (-1) ∧ u13 = .int .i64 (i : Int) ∧ i ≤ l.length ∧ s.out.length ≤ 2 * i ∧ (i ≠ 0 → s.out ≠ []) ∧ StAt w.heap.size v s wr ∧ Segs (w.heap.size + 1) v s.out wr ∧ NOk s ∧ KepS w.heap.size W0 wr ∧ wr.heap[T]? = some (.cells tabV 109 (0, 0)) ∧ Hid (bringL s (l.drop i) i = RES)
set_option maxHeartbeats 8000000 in
set_option maxRecDepth 100000 in
theorem bring_any (a : Option Addr) (l : List Cmd) (cap : Nat) (w : World) (hl : l.length ≤ 1000) (hA : RdC a l w) (hC : CapC a l w) (hW : ∀ x ∈ l, CmdW x) (h0 : ∀ x r, l = x :: r → capL x.letter = 77) :
    Calls Tryz.prog 23 #[.slice a l.length cap] w (BringPost (bringL NS.zero l 0) w) := by
  have ST := Lib.hid (fun w => steps_any7 w)
  have HA := Lib.hid hA
  have HC := Lib.hid hC
  have HW := Lib.hid hW
  have H0 := Lib.hid h0
  obtain ⟨RES, hR⟩ : ∃ R, bringL NS.zero l 0 = R := ⟨_, rfl⟩
  rw [hR]
  have HR0 := Lib.hid (show bringL NS.zero (l.drop 0) 0 = RES from hR)
  have b1 := (Below.refl w.heap.size w).alloc (Nat.le_refl _) (.cells #[.slice none 0 0, .int .i64 0, .int .i64 0, .int .i64 0, .int .i64 0, .bool false, .int .i64 0, .int .i64 0] 107)
  have S1 : StAt w.heap.size (.slice none 0 0) NS.zero (w.alloc (.cells #[.slice none 0 0, .int .i64 0, .int .i64 0, .int .i64 0, .int .i64 0, .bool false, .int .i64 0, .int .i64 0] 107)) := World.alloc_heap_new w _
  have HS1 := Lib.hid S1
  have HB1 := Lib.hid b1
  clear hA hC hW h0 hR b1 S1
  go_enter Tryz.func23, Tryz.ntmps23
  go_wp2_with fail
  generalize hW1 : w.alloc (.cells #[.slice none 0 0, .int .i64 0, .int .i64 0, .int .i64 0, .int .i64 0, .bool false, .int .i64 0, .int .i64 0] 107) = W1 at *
  refine (ST.out _).mono ?_
  rintro e W2 ⟨rfl, b2⟩
  have HS2 := Lib.hid (HS1.out.next b2)
  have HB2 := Lib.hid (HB1.out.trans (b2.mono HB1.out.size))
  have hq1 := HS1.out.lt
  have hsz := b2.size
  clear b2 HS1 HB1 ST hW1
  go_wp2_with (refine wpList_store_row (by rfl) 109 (.tmp 5) (.tmp 10) (by rfl) W2.heap.size tabV (by rfl) (by rfl) 109 nilV (World.alloc_heap_new W2 _) (by kernel_rfl) (by rfl) (by kernel_rfl) ?_)
  generalize hW3 : World.setRow _ _ _ = W3
  have e3 : W3 = W2.alloc (.cells tabV 109) := hW3.symm.trans (World.setRow_alloc_new W2 nilV tabV 109)
  have b3 : Below W2.heap.size W2 W3 := by rw [e3]; exact (Below.refl _ W2).alloc (Nat.le_refl _) _
  have HS3 := Lib.hid (HS2.out.next b3)
  have HB3 := Lib.hid (HB2.out.trans (b3.mono HB2.out.size))
  have HT3 := Lib.hid (show W3.heap[W2.heap.size]? = some (.cells tabV 109 (0, 0)) by rw [e3]; exact World.alloc_heap_new W2 _)
  have hTq : W2.heap.size ≠ w.heap.size := by have := HS2.out.lt; omega
  have hqT : w.heap.size < W2.heap.size := HS2.out.lt
  generalize W2.heap.size = T at *
  clear b3 e3 hW3 HS2 HB2
  have CAP := Lib.hid (fun (c : Nat) (h : cntL c ≠ 99) w => capital_any c h w)
  go_loopw [6, 7, 13] (fun u6 u7 u13 wr => BInv l RES w W3 T u6 u7 u13 wr) (fun _ _ u13 _ => l.length - (intOf u13).toNat)
  case atStart => exact ⟨0, .slice none 0 0, NS.zero, rfl, rfl, rfl, Nat.zero_le _, by decide, fun h => absurd rfl h, HS3.out, Segs.nil _ _, nok_zero, KepS.refl _ _, HT3.out, HR0⟩
  case round =>
    clear HS3 HT3 HR0
    obtain ⟨i, v, s, rfl, rfl, rfl, hi, hso, hsn, hst, hsg, hok, hk, hT, hE⟩ := hrel
    have HB := Lib.hid (HB3.out.trans (hk.below (by have := HB3.out.size; omega)))
    by_cases hlt : i < l.length
    · obtain ⟨b, off, rfl, hb, hcs⟩ := HA.out.pos (by omega)
      obtain ⟨aa, ac, A⟩ := hcs i hlt
      have hcap := HC.out b off rfl i hlt aa _ ac A.c1
      have hw := HW.out _ (List.mem_of_getElem? (at_some l hlt))
      have h0 : capL (ltr l i) ≠ 77 → s.out ≠ [] := fun h => hsn fun e => by
        subst e
        exact h (H0.out _ _ (drop_cons7 hlt))
      have hE' := hE.out
      rw [drop_cons7 hlt] at hE'
      unfold bringL at hE'
      have HE := Lib.hid hE'
      have TK := took_take hok _ hw h0
      have x0 := (HB.out.cell (p := ⟨b, off + i * 2, none⟩) (by exact hb)).trans A.c0
      have x1 := (HB.out.cell (p := ⟨b, off + i * 2 + 1, none⟩) (by exact hb)).trans A.c1
      have AR : ArgsAt w.heap.size aa (ars l i) wr := by
        rcases A.row with h | ⟨b', o', h1, h2, h3⟩
        · exact .inl h
        · exact .inr ⟨b', o', h1, h2, fun j hj => (HB.out.cell (p := ⟨b', o' + j, none⟩) (by exact h2)).trans (h3 j hj)⟩
      obtain ⟨f, hf1, hf2, hf3, hf4⟩ := tab_at (ltr l i) hw.2.1
      have hlen : cntL (ltr l i) = (ars l i).length := hw.1
      have tk := Lib.hid (fun W (h1 : StAt w.heap.size v s W) (h2 : Segs (w.heap.size + 1) v s.out W) (h3 : ArgsAt w.heap.size aa (ars l i) W) (h4 : w.heap.size + 1 ≤ W.heap.size) => take_any7 f (ars l i).length w.heap.size (w.heap.size + 1) v s (ltr l i) aa ac (ars l i) W (by rw [← hlen]; exact hf2) h1 h2 (by omega) h4 (by omega) hok rfl (fun j => hw.at j) h3 hw.2.1 h0 hcap)
      have hltr := A.lt
      have hltI : (i : Int) < (l.length : Int) := by omega
      have CA := Lib.hid (fun w => CAP.out (ltr l i) hw.2.1 w)
      obtain ⟨s4, hs4⟩ : ∃ s4, s4 = takeM s ⟨ltr l i, ars l i⟩ := ⟨_, rfl⟩
      have e65 : IntKind.u8.wrap ((capL (ltr l i) : Int) - 65) = ((capL (ltr l i) - 65 : Nat) : Int) := by rw [show (capL (ltr l i) : Int) - 65 = ((capL (ltr l i) - 65 : Nat) : Int) by omega]; exact IntWalk.u8_in _ (by omega)
      have hne : s4.out ≠ [] := by
        obtain ⟨x, h1, h2, _⟩ := TK.out
        rw [hs4, h1]; intro e
        have := congrArg List.length e
        simp at this; rw [this.2] at h2; exact absurd h2 (by decide)
      have hln : s4.out.length ≤ s.out.length + 2 ∧ s.out.length ≤ s4.out.length := by
        obtain ⟨x, h1, h2, h3⟩ := TK.out
        rw [hs4, h1, List.length_append]; omega
      have hpre : s4.out.take s.out.length = s.out := by
        obtain ⟨x, h1, _⟩ := TK.out
        rw [hs4, h1, List.take_left']; rfl
      have HTK := Lib.hid TK
      rw [← hs4] at HTK
      have HE' : Hid ((if inB (lastM s4) then bringL s4 (l.drop (i + 1)) (i + 1) else (s.out, (i : Int))) = RES) := by rw [hs4]; exact HE.out
      have HPRE := Lib.hid hpre
      have tk' := Lib.hid (show ∀ W, StAt w.heap.size v s W → Segs (w.heap.size + 1) v s.out W → ArgsAt w.heap.size aa (ars l i) W → w.heap.size + 1 ≤ W.heap.size → Calls Tryz.prog 50 #[.pointer (some ⟨w.heap.size, 0, none⟩), .agg #[.int .u8 (ltr l i : Int), .slice aa (ars l i).length ac], .func (.func f) #[] #[]] W (NPost w.heap.size (w.heap.size + 1) s4 W) by rw [hs4]; exact tk.out)
      have bb : Below wr.heap.size wr (wr.alloc (.cells #[.int .u8 (ltr l i : Int), .slice aa (ars l i).length ac] 95)).drew := ((Below.refl _ wr).alloc (Nat.le_refl _) _).drew
      have HSd := Lib.hid (hst.next bb)
      have HGd := Lib.hid (hsg.next bb)
      have HKd := Lib.hid (hk.trans (KepS.of_below bb))
      have HAd := Lib.hid (AR.next bb (Nat.le_of_lt hst.lt))
      have hTl : T < wr.heap.size := (Array.getElem?_eq_some_iff.1 hT).1
      have HTd := Lib.hid (show (wr.alloc (.cells #[.int .u8 (ltr l i : Int), .slice aa (ars l i).length ac] 95)).drew.heap[T]? = some (.cells tabV 109 (0, 0)) from (bb.block T hTl).trans hT)
      have HBd : Hid (BoxC7 wr.heap.size (ltr l i) (.slice aa (ars l i).length ac) (wr.alloc (.cells #[.int .u8 (ltr l i : Int), .slice aa (ars l i).length ac] 95)).drew) := World.alloc_heap_new wr _
      have hRd : w.heap.size + 1 ≤ (wr.alloc (.cells #[.int .u8 (ltr l i : Int), .slice aa (ars l i).length ac] 95)).drew.heap.size := Nat.le_trans (Nat.succ_le_of_lt hst.lt) bb.size
      have hqw : w.heap.size < wr.heap.size := hst.lt
      have hCq : wr.heap.size ≠ w.heap.size := by omega
      have tcell : ∀ W : World, W.heap[T]? = some (.cells tabV 109 (0, 0)) → W.cell? ⟨T, capL (ltr l i) - 65, none⟩ = some (.func (.func f) #[] #[]) := fun W h => by unfold World.cell?; rw [h]; exact hf1
      have td := tcell wr hT
      have TC := Lib.hid tcell
      have hcl : capL (ltr l i) - 65 < 26 := hf4
      have hpos65 : (0 : Int) ≤ ((capL (ltr l i) - 65 : Nat) : Int) ∧ ((capL (ltr l i) - 65 : Nat) : Int) < 26 := by omega
      clear hE hE' HE TK hst hsg hk hT AR A hcs hpre tk tcell hs4 h0 hw hf1 hf2 hf3
      generalize hcap65 : capL (ltr l i) - 65 = cx at *
      generalize hcc : (capL (ltr l i) : Int) = cz at *
      clear hcap65 hcc
      go_wp2_with fail
      have hW6 : Below wr.heap.size wr (wr.alloc (.cells #[.int .u8 (ltr l i : Int), .slice aa (ars l i).length ac] 95)) := (Below.refl _ wr).alloc (Nat.le_refl _) _
      generalize hW5 : wr.alloc (.cells #[.int .u8 (ltr l i : Int), .slice aa (ars l i).length ac] 95) = W5 at *
      have d0 : W5.cell? ⟨wr.heap.size, 0, none⟩ = some (.int .u8 (ltr l i : Int)) := HBd.out.c0
      have d1 : W5.cell? ⟨wr.heap.size, 1, none⟩ = some (.slice aa (ars l i).length ac) := HBd.out.c1
      have d2 : W5.cell? ⟨T, cx, none⟩ = some (.func (.func f) #[] #[]) := TC.out _ HTd.out
      clear td x0 x1 hW5 hW6 bb
      go_region_held3 (fun w' => w'.cell? ⟨wr.heap.size, 0, none⟩ = some (.int .u8 (ltr l i : Int)) ∧ w'.cell? ⟨wr.heap.size, 1, none⟩ = some (.slice aa (ars l i).length ac) ∧ w'.cell? ⟨T, cx, none⟩ = some (.func (.func f) #[] #[])) (first | (simp [go_sem, *]; done) | (exact ⟨by assumption, by assumption, by assumption⟩))
        (first
          | (go_at_call 51; (with_reducible refine (CA.out _).mono ?_); rintro e wc ⟨rfl, rfl⟩)
          | (go_at_call 50; (with_reducible refine (tk'.out _ HSd.out HGd.out HAd.out hRd).mono ?_); rintro e wF HF; have FS := Lib.hid HF.2.1; have FK := Lib.hid (HKd.out.trans HF.2.2); have fB : BoxC7 wr.heap.size (ltr l i) (.slice aa (ars l i).length ac) wF := HF.2.2.keeps HBd.out (by decide) hCq; have FT := Lib.hid (HF.2.2.keeps HTd.out (by decide) hTq); have f0 := fB.c0; have f1 := fB.c1; have f2 := TC.out _ FT.out; have hee := HF.1; clear HF fB; subst hee))
      all_goals
        clear f0 f1 f2 d0 d1 d2 HSd HGd HKd HAd HTd HBd TC tk' CA
        obtain ⟨v4, r1, r2⟩ := FS.out
        have S4 := Lib.hid r1
        have G4 := Lib.hid r2
        have hR4 : w.heap.size + 1 ≤ wF.heap.size := r1.lt
        have LA := Lib.hid (last_any7 w.heap.size (w.heap.size + 1) v4 s4 wF r1 r2 hne (by omega))
        have IB := Lib.hid (fun w => inBound_any (lastM s4) w HTK.out.seg)
        clear r1 r2 FS
        go_wp2_with fail
        refine LA.out.mono ?_
        rintro e w5 ⟨rfl, b5⟩
        have S5 := Lib.hid (S4.out.next b5)
        have G5 := Lib.hid (G4.out.next b5)
        have K5 := Lib.hid (FK.out.trans (KepS.of_below b5))
        have T5 := Lib.hid ((b5.block T (Array.getElem?_eq_some_iff.1 FT.out).1).trans FT.out)
        clear b5 S4 G4 FK FT LA
        go_wp2_with fail
        refine (IB.out _).mono ?_
        rintro e w6 ⟨rfl, b6⟩
        have S6 := Lib.hid (S5.out.next b6)
        have G6 := Lib.hid (G5.out.next b6)
        have K6 := Lib.hid (K5.out.trans (KepS.of_below b6))
        have T6 := Lib.hid ((b6.block T (Array.getElem?_eq_some_iff.1 T5.out).1).trans T5.out)
        clear b6 S5 G5 K5 T5 IB
        obtain ⟨a4, cap4, rfl, hrd4, hcap4⟩ := G6.out.reads
        have c40 := S6.out.c0
        by_cases hin : inB (lastM s4)
        · have hE6 := HE'.out
          rw [if_pos hin] at hE6
          have HE6 := Lib.hid hE6
          have hok4 := HTK.out.ok hin
          rw [decide_eq_true hin]
          clear hrd4 hcap4 HE' hE6 HTK HPRE
          go_wp2_with fail
          go_roundw
          case rel => exact ⟨i + 1, .slice a4 s4.out.length cap4, s4, rfl, rfl, by go_num, by omega, by omega, fun _ => hne, S6.out, G6.out, hok4, K6.out, T6.out, HE6⟩
          case measure => simp [intOf]; omega
        · have hE6 := HE'.out
          rw [if_neg hin] at hE6
          rw [decide_eq_false hin]
          have hkc : (s.out.length : Int) ≤ (cap4 : Int) := by omega
          have RD := Lib.hid (hrd4.take s.out.length)
          rw [HPRE.out] at RD
          have BB := Lib.hid (HB3.out.trans (K6.out.below (by have := HB3.out.size; omega)))
          subst hE6
          clear hrd4 hcap4 HE' HTK HPRE S6 G6 K6 T6
          go_wp2_with fail
          go_ret2
          exact ⟨a4, s.out.length, rfl, RD.out, Nat.le_refl _, BB.out⟩
    · have hil : i = l.length := by omega
      have hE' := hE.out
      rw [hil, List.drop_length] at hE'
      unfold bringL at hE'
      subst hE'
      obtain ⟨a4, cap4, rfl, hrd4, hcap4⟩ := hsg.reads
      have c40 := hst.c0
      have hkc : (s.out.length : Int) ≤ (cap4 : Int) := by omega
      have hnl : ¬ (i : Int) < (l.length : Int) := by omega
      have RD := Lib.hid hrd4
      clear hE hst hsg hk hT hrd4 hcap4
      go_wp2_with fail
      go_ret2
      exact ⟨a4, s.out.length, rfl, RD.out, Nat.le_refl _, HB.out⟩
end Go.Proofs.YtbjabclgekkpaaaGreatDoor
namespace Go.Proofs.YtbjabclgekkpaaaGreatDoor
open Go.RowKit Go.Shelf
theorem ansF_in (s a b : List UInt8) (x : Expo) (h : (ansF s a b x).2 = 0) : In32 (ansF s a b x).1 := by
  unfold ansF ansV at *
  split at h
  · rename_i k; rw [if_pos k]; exact k
  · exact absurd h (by show ¬ (2 : Int) = 0; decide)
theorem numT_in (s : ByteArray) (k : Nat) (sg : Bool) (hs : s.size ≤ 100000) (hk : k ≤ s.size) (h : (numT s k sg).2.1 = 0) : In32 (numT s k sg).1 := by
  have A := ansT_spec (s.extract k (nmE s k sg)) (ext_size s k sg hk hs)
  unfold numT numX at *
  by_cases hW : nmW s k sg = true
  · rw [if_pos hW] at h ⊢
    obtain ⟨sg', a, pt, b, x, hn⟩ := acc1 _ (nmW_acc s k sg hW)
    have e := A.2.2.1 _ _ _ _ _ hn
    rw [e] at h ⊢
    exact ansF_in _ _ _ _ h
  · rw [if_neg hW] at h
    exact absurd h (by show ¬ (3 : Int) = 0; decide)
theorem one_in6 (s : ByteArray) (hs : s.size ≤ 100000) (c k i : Nat) (hi : i ≤ s.size) (h : (one (txOf s) c k i).2.1 = 0) : In32 (one (txOf s) c k i).1 := by
  obtain ⟨j, hj, _, hc⟩ := one_cases (txOf s) c k i
  have hg := (txOf_ok s hs).gap i hi
  have hjl : j ≤ s.size := by rcases hj with rfl | rfl; exact hi; exact hg.2
  rcases hc with ⟨e, _⟩ | ⟨e, _⟩ | ⟨sg, e, _⟩
  · rw [e] at h; exact absurd h (by show ¬ (3 : Int) = 0; decide)
  · rw [e] at h ⊢
    unfold flagA at *
    split at h
    · rename_i hb
      rw [if_pos hb]
      rcases hb.2 with hb | hb
      · show In32 (((txOf s).byte j : Int) - 48); rw [hb]; decide
      · show In32 (((txOf s).byte j : Int) - 48); rw [hb]; decide
    · exact absurd h (by show ¬ (3 : Int) = 0; decide)
  · rw [e] at h ⊢
    exact numT_in s j sg hs hjl h
theorem args_in6 (s : ByteArray) (hs : s.size ≤ 100000) (c : Nat) : ∀ (n k i : Nat) (acc : List Int) xs j, i ≤ s.size → (∀ v ∈ acc, In32 v) → argsL (txOf s) c n k i acc = .inl (xs, j) → (∀ v ∈ xs, In32 v) ∧ j ≤ s.size := by
  intro n
  induction n with
  | zero =>
    intro k i acc xs j hi ha h
    obtain ⟨rfl, rfl⟩ : acc = xs ∧ i = j := by simpa [argsL] using h
    exact ⟨ha, hi⟩
  | succ n ih =>
    intro k i acc xs j hi ha h
    rw [args_step] at h
    split at h
    · rename_i h0
      have hb := one_in6 s hs c k i hi h0
      refine ih _ _ _ _ _ ?_ ?_ h
      · exact (one_ok (txOf_ok s hs) c k i hi).hi
      · intro v hv
        rcases List.mem_append.1 hv with hv | hv
        · exact ha v hv
        · simp at hv; subst hv; exact hb
    · cases h
def HeadM (l : List Cmd) : Prop := ∀ x r, l = x :: r → capL x.letter = 77
theorem headM_snoc {out : List Cmd} {y : Cmd} (h : HeadM out) (hy : out = [] → capL y.letter = 77) : HeadM (out ++ [y]) := by
  intro x r e
  cases out with
  | nil => simp at e; rw [← e.1]; exact hy rfl
  | cons z t => simp at e; exact h x t (by rw [e.1])
theorem path_may (s : ByteArray) (hs : s.size ≤ 100000) : ∀ (f : Nat) (st : Option Nat) (i : Nat) (out : List Cmd), i ≤ s.size → (∀ x ∈ out, CmdW x) → HeadM out → (∀ c, st = some c → cntL c ≠ 99 ∧ (out = [] → capL c = 77)) → (∀ x ∈ (pathL (txOf s) f st i out).1, CmdW x) ∧ HeadM (pathL (txOf s) f st i out).1 := by
  have OKX := txOf_ok s hs
  have hln : (txOf s).len = s.size := rfl
  intro f
  induction f with
  | zero => intro st i out _ h1 h2 _; cases st <;> exact ⟨h1, h2⟩
  | succ f ih =>
    intro st i out hi h1 h2 h3
    cases st with
    | none =>
      unfold pathL
      split
      · rename_i hlt
        split
        · exact ⟨h1, h2⟩
        · rename_i hno
          have hc : cntL ((txOf s).byte i) ≠ 99 := fun e => hno (Or.inl e)
          have hm : out = [] → capL ((txOf s).byte i) = 77 := fun e => by
            have : (txOf s).byte i = 77 ∨ (txOf s).byte i = 109 := Classical.byContradiction fun k => hno (Or.inr ⟨e, fun x => k (Or.inl x), fun x => k (Or.inr x)⟩)
            rcases this with h | h <;> rw [h] <;> rfl
          have hb := OKX.blk (i + 1) (by rw [hln] at *; omega)
          split
          · rename_i hz
            refine ih _ _ _ hb.2 ?_ (headM_snoc h2 hm) (fun c e => by cases e)
            intro x hx
            rcases List.mem_append.1 hx with hx | hx
            · exact h1 x hx
            · simp at hx; subst hx; exact ⟨hz, hc, fun v hv => by cases hv⟩
          · exact ih _ _ _ hb.2 h1 h2 (fun c e => by cases e; exact ⟨hc, hm⟩)
      · exact ⟨h1, h2⟩
    | some c =>
      obtain ⟨hc, hm⟩ := h3 c rfl
      unfold pathL
      split
      · exact ⟨h1, h2⟩
      · rename_i xs j he
        have hlx := args_len (txOf s) c _ _ _ _ _ _ he
        obtain ⟨hin, hj⟩ := args_in6 s hs c _ _ _ _ _ _ hi (fun v hv => by cases hv) he
        have hw : CmdW ⟨c, xs⟩ := ⟨by simp at hlx; exact hlx.symm, hc, hin⟩
        have h1' : ∀ x ∈ out ++ [⟨c, xs⟩], CmdW x := by
          intro x hx
          rcases List.mem_append.1 hx with hx | hx
          · exact h1 x hx
          · simp at hx; subst hx; exact hw
        have h2' := headM_snoc (y := ⟨c, xs⟩) h2 hm
        have hb := OKX.blk j hj
        have hg := OKX.gap _ hb.2
        have hnx : ∀ c', some (nextL c) = some c' → cntL c' ≠ 99 ∧ (out ++ [⟨c, xs⟩] = [] → capL c' = 77) := fun c' e => by
          cases e
          refine ⟨?_, fun e => by simp at e⟩
          unfold nextL
          split
          · decide
          · split
            · decide
            · exact hc
        split
        · exact ih _ _ _ hg.2 h1' h2' hnx
        · split
          · exact ih _ _ _ hb.2 h1' h2' hnx
          · exact ih _ _ _ hb.2 h1' h2' (fun c e => by cases e)
theorem all_may (s : ByteArray) (hs : s.size ≤ 100000) : (∀ x ∈ (pathAll (txOf s)).1, CmdW x) ∧ HeadM (pathAll (txOf s)).1 :=
  path_may s hs _ _ _ _ ((txOf_ok s hs).blk 0 (Nat.zero_le _)).2 (fun x h => by cases h) (fun x r h => by cases h) (fun c h => by cases h)
end Go.Proofs.YtbjabclgekkpaaaGreatDoor
namespace Go.Proofs.YtbjabclgekkpaaaGreatDoor
open Go.RowKit Go.Shelf
theorem Cmds.room {R : Nat} {a : Option Addr} {n cap : Nat} {l : List Cmd} {W : World} (h : Cmds R (.slice a n cap) l W) : CapC a l W := by
  obtain ⟨avs, h1, h2, h3⟩ := h
  rintro b off rfl i hi aa m ac hc
  have hx := at_some l hi
  have ha : avs[i]? = some avs[i] := List.getElem?_eq_getElem (by omega)
  obtain ⟨_, e1⟩ := flatC_at l avs h1 i _ _ hx ha
  obtain ⟨o, _⟩ := h3 i _ _ hx ha
  have hcell := own_cell h2 e1
  rw [← Nat.add_assoc] at hcell
  rw [hcell] at hc
  obtain hc := Option.some.inj hc
  rw [hc] at o
  rcases o.2 with ⟨h0, hk⟩ | ⟨g, cap', cur, hv, _, _, h5, _⟩
  · cases h0; exact Nat.zero_le _
  · cases hv; exact h5
/-- What norm's Parse answers: by the commands, their place and their error. -/
noncomputable def parseS (s : ByteArray) : List Seg × Int × Int :=
  if 0 ≤ (bringL NS.zero (pathAll (txOf s)).1 0).2 then ((bringL NS.zero (pathAll (txOf s)).1 0).1, (bringL NS.zero (pathAll (txOf s)).1 0).2, 2) else ((bringL NS.zero (pathAll (txOf s)).1 0).1, (pathAll (txOf s)).2.1, (pathAll (txOf s)).2.2)
def SegPost (X : List Seg × Int × Int) (w : World) (e : Ending) (W' : World) : Prop :=
  ∃ a cap, e = .returned (.tuple #[.slice a X.1.length cap, .int .i64 X.2.1, .int .i64 X.2.2]) ∧ RdS a X.1 W' ∧ X.1.length ≤ cap ∧ Below w.heap.size w W'
set_option maxRecDepth 100000 in
theorem NParse_any (s : ByteArray) (w : World) (hs : s.size ≤ 900) (hn : (pathAll (txOf s)).1.length ≤ 1000) (T : PTabs w) : Calls Tryz.prog 15 #[.string s] w (SegPost (parseS s) w) := by
  have P := Lib.hid (fun w T => PParse_any s w (by omega) T)
  unfold PParsePost at P
  have HL := Lib.hid (all_len (txOf s))
  have HM := Lib.hid (all_may s (by omega))
  have HN := Lib.hid hn
  have HT := Lib.hid T
  unfold parseS
  clear T hn
  generalize pathAll (txOf s) = RES at *
  obtain ⟨l, z, er⟩ := RES
  obtain ⟨BR, hBR⟩ : ∃ B, bringL NS.zero l 0 = B := ⟨_, rfl⟩
  simp only [hBR]
  have HBR := Lib.hid hBR
  clear hBR
  obtain ⟨g, far⟩ := BR
  by_cases hf : 0 ≤ far
  · rw [if_pos hf]
    go_enter Tryz.func15, Tryz.ntmps15
    go_wp2_with fail
    refine (P.out _ HT.out).mono ?_
    rintro e w1 ⟨v, rfl, hc, b1⟩
    obtain ⟨a, cap, rfl, hr⟩ := hc.reads HL.out
    have BG := Lib.hid (bring_any a l cap w1 HN.out hr hc.room HM.out.1 HM.out.2)
    rw [HBR.out] at BG
    have B1 := Lib.hid b1
    clear hc hr b1 P HT HM HN HL
    go_wp2_with fail
    refine BG.out.mono ?_
    rintro e w2 ⟨a2, cap2, rfl, hrd, hcap, b2⟩
    have R2 := Lib.hid hrd
    have C2 := Lib.hid hcap
    have B2 := Lib.hid (B1.out.trans (b2.mono B1.out.size))
    clear hrd hcap b2 BG B1
    go_wp2_with fail
    go_ret3
    exact ⟨a2, cap2, rfl, R2.out, C2.out, B2.out⟩
  · rw [if_neg hf]
    go_enter Tryz.func15, Tryz.ntmps15
    go_wp2_with fail
    refine (P.out _ HT.out).mono ?_
    rintro e w1 ⟨v, rfl, hc, b1⟩
    obtain ⟨a, cap, rfl, hr⟩ := hc.reads HL.out
    have BG := Lib.hid (bring_any a l cap w1 HN.out hr hc.room HM.out.1 HM.out.2)
    rw [HBR.out] at BG
    have B1 := Lib.hid b1
    clear hc hr b1 P HT HM HN HL
    go_wp2_with fail
    refine BG.out.mono ?_
    rintro e w2 ⟨a2, cap2, rfl, hrd, hcap, b2⟩
    have R2 := Lib.hid hrd
    have C2 := Lib.hid hcap
    have B2 := Lib.hid (B1.out.trans (b2.mono B1.out.size))
    clear hrd hcap b2 BG B1
    go_wp2_with fail
    go_ret3
    exact ⟨a2, cap2, rfl, R2.out, C2.out, B2.out⟩
end Go.Proofs.YtbjabclgekkpaaaGreatDoor
namespace Go.Proofs.YtbjabclgekkpaaaGreatDoor
open Go.RowKit Go.Shelf
/-- A number of one digit. -/
theorem num_digit7 (s : ByteArray) (k : Nat) (d : UInt8) (z : Int) (hs : s.size ≤ 100) (hk : k ≤ s.size) (he : nmE s k true = k + 1) (hw : nmW s k true = true) (hx : s.extract k (k + 1) = ⟨#[d]⟩) (hn : IsNum [d] [] [d] false [] none) (ha : ansF [] [d] [] none = (z, 0)) : numT s k true = (z, 0, k + 1) := by
  have A := ansT_spec (s.extract k (nmE s k true)) (ext_size s k true hk (Nat.le_trans hs (by decide)))
  rw [he, hx] at A
  have := A.2.2.1 _ _ _ _ _ hn
  rw [ha] at this
  unfold numT numX
  rw [if_pos hw, he, hx, this]; rfl
end Go.Proofs.YtbjabclgekkpaaaGreatDoor
namespace Go.Proofs.YtbjabclgekkpaaaGreatDoor
open Go.RowKit Go.Shelf
def exO : ByteArray := ⟨#[77, 48, 32, 48, 76, 49, 32, 48, 76, 48, 32, 49]⟩
noncomputable def numO (i : Nat) (sg : Bool) : Int × Int × Nat :=
  if sg = true ∧ i = 1 then (0, 0, 2) else if sg = true ∧ i = 3 then (0, 0, 4) else if sg = true ∧ i = 5 then (65536, 0, 6) else if sg = true ∧ i = 7 then (0, 0, 8) else if sg = true ∧ i = 9 then (0, 0, 10) else if sg = true ∧ i = 11 then (65536, 0, 12) else numT exO i sg
theorem numO_eq : numT exO = numO := by
  funext i sg
  unfold numO
  split
  · rename_i h; obtain ⟨rfl, rfl⟩ := h
    exact num_digit7 exO 1 48 0 (by decide) (by decide) (by decide +kernel) (by decide +kernel) (by decide +kernel) ⟨Or.inl rfl, by unfold AllDig; decide, by unfold AllDig; decide, (fun _ => rfl), by decide, trivial, rfl⟩ (by decide +kernel)
  split
  · rename_i h; obtain ⟨rfl, rfl⟩ := h
    exact num_digit7 exO 3 48 0 (by decide) (by decide) (by decide +kernel) (by decide +kernel) (by decide +kernel) ⟨Or.inl rfl, by unfold AllDig; decide, by unfold AllDig; decide, (fun _ => rfl), by decide, trivial, rfl⟩ (by decide +kernel)
  split
  · rename_i h; obtain ⟨rfl, rfl⟩ := h
    exact num_digit7 exO 5 49 65536 (by decide) (by decide) (by decide +kernel) (by decide +kernel) (by decide +kernel) ⟨Or.inl rfl, by unfold AllDig; decide, by unfold AllDig; decide, (fun _ => rfl), by decide, trivial, rfl⟩ (by decide +kernel)
  split
  · rename_i h; obtain ⟨rfl, rfl⟩ := h
    exact num_digit7 exO 7 48 0 (by decide) (by decide) (by decide +kernel) (by decide +kernel) (by decide +kernel) ⟨Or.inl rfl, by unfold AllDig; decide, by unfold AllDig; decide, (fun _ => rfl), by decide, trivial, rfl⟩ (by decide +kernel)
  split
  · rename_i h; obtain ⟨rfl, rfl⟩ := h
    exact num_digit7 exO 9 48 0 (by decide) (by decide) (by decide +kernel) (by decide +kernel) (by decide +kernel) ⟨Or.inl rfl, by unfold AllDig; decide, by unfold AllDig; decide, (fun _ => rfl), by decide, trivial, rfl⟩ (by decide +kernel)
  split
  · rename_i h; obtain ⟨rfl, rfl⟩ := h
    exact num_digit7 exO 11 49 65536 (by decide) (by decide) (by decide +kernel) (by decide +kernel) (by decide +kernel) ⟨Or.inl rfl, by unfold AllDig; decide, by unfold AllDig; decide, (fun _ => rfl), by decide, trivial, rfl⟩ (by decide +kernel)
  rfl
theorem exO_all : pathAll (txOf exO) = ([⟨77, [0, 0]⟩, ⟨76, [65536, 0]⟩, ⟨76, [0, 65536]⟩], -1, 0) := by
  unfold txOf
  rw [numO_eq]
  kernel_rfl
def wantO : List Seg := [segS 1 0 0 0 0 0 0, segS 2 65536 0 0 0 0 0, segS 2 0 65536 0 0 0 0]
theorem exO_bring : bringL NS.zero [⟨77, [0, 0]⟩, ⟨76, [65536, 0]⟩, ⟨76, [0, 65536]⟩] 0 = (wantO, -1) := by kernel_rfl
theorem exO_parse : parseS exO = (wantO, -1, 0) := by
  unfold parseS
  rw [exO_all]
  show (if 0 ≤ (bringL NS.zero [⟨77, [0, 0]⟩, ⟨76, [65536, 0]⟩, ⟨76, [0, 65536]⟩] 0).2 then _ else ((bringL NS.zero [⟨77, [0, 0]⟩, ⟨76, [65536, 0]⟩, ⟨76, [0, 65536]⟩] 0).1, (-1 : Int), (0 : Int))) = _
  rw [exO_bring]
  rfl
theorem parseO (w : World) (T : PTabs w) : Calls Tryz.prog 15 #[.string exO] w (SegPost (wantO, -1, 0) w) := by
  have h := NParse_any exO w (by decide) (by rw [exO_all]; decide) T
  rw [exO_parse] at h
  exact h
end Go.Proofs.YtbjabclgekkpaaaGreatDoor
namespace Go.Proofs.YtbjabclgekkpaaaGreatDoor
open Go.RowKit Go.Shelf
theorem asame8 (w : World) : Calls Tryz.prog 14 #[] w fun e w' => e = .returned sameM.val ∧ Below w.heap.size w w' := by
  have hn := MBox.new w sameM
  have hb := (Below.refl w.heap.size w).alloc (Nat.le_refl _) (.cells sameM.cells 23)
  simp only [sameM, Mtx.cells] at hn hb
  have HN := Lib.hid hn
  have HB := Lib.hid hb
  clear hn hb
  go_enter Tryz.func14, Tryz.ntmps14
  go_wp2_with fail
  generalize w.alloc (.cells #[.int .i64 65536, .int .i64 0, .int .i64 0, .int .i64 65536, .int .i64 0, .int .i64 0] 23) = W at *
  exact me_ret (m := ⟨65536, 0, 0, 65536, 0, 0⟩) Tryz.results14 HN.out HB.out rfl
end Go.Proofs.YtbjabclgekkpaaaGreatDoor
namespace Go.Proofs.YtbjabclgekkpaaaGreatDoor
open Go.RowKit Go.Shelf
set_option linter.unusedSimpArgs false
def edgesO : List Edg := [⟨0, 0, 65536, 0⟩, ⟨65536, 0, 0, 65536⟩, ⟨0, 65536, 0, 0⟩]
/-- What outline.Edges answers of the example. -/
def EdgesOk13 : Prop := ∀ (a : Option Addr) (cap : Nat) (w : World), RdS a wantO w → 3 ≤ cap →
  Calls Tryz.prog 9 #[sameM.val, .slice a 3 cap] w fun e w' => ∃ v, e = .returned (.tuple #[v, .int .i64 0]) ∧ Edgs w.heap.size v edgesO w' ∧ Below w.heap.size w w'
theorem edg_own3 {R : Nat} {v : Value} {l : List Edg} {W : World} (h : edgL.own R v l W) (h0 : 0 < l.length) : ∃ b cap, v = .slice (some ⟨b, 0, none⟩) l.length cap ∧ b < W.heap.size ∧ l.length ≤ cap := by
  rcases h.2 with ⟨_, h2⟩ | ⟨g, cap, cur, hv, _, hg, h1, _⟩
  · omega
  · exact ⟨g, cap, hv, (Array.getElem?_eq_some_iff.1 hg).1, h1⟩
set_option maxHeartbeats 4000000 in
set_option maxRecDepth 100000 in
theorem wakes13 (EK : EdgesOk13) (w : World) (T : PTabs w) : Calls Tryz.prog 7 #[] w fun e w' => e = .returned (.bool true) ∧ Below w.heap.size w w' := by
  have A := Lib.hid (parseO w T)
  have S := Lib.hid (fun w => asame8 w)
  have E := Lib.hid EK
  have ea : (⟨#[77, 48, 32, 48, 76, 49, 32, 48, 76, 48, 32, 49]⟩ : ByteArray) = exO := rfl
  clear T EK
  go_enter Tryz.func7, Tryz.ntmps7
  go_wp2_with fail
  refine A.out.mono ?_
  rintro e w1 ⟨a, cap, rfl, hrd, hcap, b1⟩
  rw [show ((wantO, (-1 : Int), (0 : Int)) : List Seg × Int × Int).1.length = 3 from rfl] at hcap ⊢
  have R1 := Lib.hid hrd
  have B1 := Lib.hid b1
  have HC := Lib.hid hcap
  clear hrd b1 A ea hcap
  dsimp only at R1
  go_wp2_with fail
  refine (S.out _).mono ?_
  rintro e w2 ⟨rfl, b2⟩
  have R2 := Lib.hid (R1.out.next b2); have B2 := Lib.hid (B1.out.trans (b2.mono B1.out.size))
  clear b2 R1 B1
  go_wp2_with fail
  refine (E.out a cap _ R2.out HC.out).mono ?_
  rintro e w3 ⟨v, rfl, hown, b3⟩
  have B3 := Lib.hid (B2.out.trans (b3.mono B2.out.size))
  obtain ⟨bk, ck, rfl, hbk, hck⟩ := edg_own3 hown (by decide)
  have hat : ∀ j u, (edgL.cl ⟨0, 65536, 0, 0⟩)[j]? = some u → w3.cell? ⟨bk, 2 * 4 + j, none⟩ = some u := fun j u hu => hown.cell (edgL.flat_at edgesO 2 ⟨0, 65536, 0, 0⟩ j u rfl hu)
  have c0 : w3.cell? ⟨bk, 8, none⟩ = some (.int .i64 0) := hat 0 _ rfl
  have c1 : w3.cell? ⟨bk, 9, none⟩ = some (.int .i64 65536) := hat 1 _ rfl
  have c2 : w3.cell? ⟨bk, 10, none⟩ = some (.int .i64 0) := hat 2 _ rfl
  have c3 : w3.cell? ⟨bk, 11, none⟩ = some (.int .i64 0) := hat 3 _ rfl
  rw [show edgesO.length = 3 from rfl]
  clear hat hown hbk hck b3 B2 R2
  go_wp2_with fail
  go_ret
  exact ⟨rfl, B3.out⟩
end Go.Proofs.YtbjabclgekkpaaaGreatDoor
namespace Go.Proofs.YtbjabclgekkpaaaGreatDoor
open Go.ChangeShapes Go.WideShapes Go.ChangeAt Go.RowKit Go.Shelf Go.Joins Go.Deep
theorem trod_two8 {P : Program} {H : Type} {enc : TypeId × Value → H} {w : World} {base : Nat} {spare : Nat → Bool} {held : Bool} {t : TypeId} {f0 f1 : Field} {fuel : Nat} {cs : List Value} {x : DataW H × List MemPlace} (ht : P.underlying t = some (.struct #[f0, f1])) (h : DataW.trod enc P w base spare held fuel t cs = some x) :
    ∃ y0 y1 n, DataW.trod enc P w base spare held n f0.type ((cs.drop f0.offset).take (P.cellsOf f0.type)) = some y0 ∧ DataW.trod enc P w base spare held n f1.type ((cs.drop f1.offset).take (P.cellsOf f1.type)) = some y1 := by
  cases fuel with
  | zero => simp [DataW.trod] at h
  | succ n =>
    unfold DataW.trod at h
    rw [ht] at h
    simp at h
    obtain ⟨_, h⟩ := h
    cases h0 : DataW.trod enc P w base spare held n f0.type ((cs.drop f0.offset).take (P.cellsOf f0.type)) with
    | none => simp [h0] at h
    | some y0 =>
    cases h1 : DataW.trod enc P w base spare held n f1.type ((cs.drop f1.offset).take (P.cellsOf f1.type)) with
    | none => simp [h0, h1] at h
    | some y1 => exact ⟨y0, y1, n, h0, h1⟩
end Go.Proofs.YtbjabclgekkpaaaGreatDoor
namespace Go.Proofs.YtbjabclgekkpaaaGreatDoor
open Go.RowKit Go.Shelf
theorem allO_len {D : Pen → Seg → List Edg × Int} {m : Mtx} {l : List Seg} {N : Nat} (hN : 1 ≤ N) (hD : ∀ s g, (D s g).1.length ≤ N) : ∀ x ∈ allO D m l, x.1.length ≤ N := by
  unfold allO
  split
  · exact strO_len hN hD l _
  · intro x hx
    rw [List.mem_singleton.1 hx]
    exact Nat.zero_le _
theorem drawL_len (m : Mtx) (s : Pen) (g : Seg) : (drawL m s g).1.length ≤ 1 := by
  unfold drawL
  split
  · exact lineO_len _ _ _
  · exact finO_len _ _
/-- Edges of Moves and Lines. -/
theorem edges_line (m : Mtx) (hm : MI64 m) (a : Option Addr) (l : List Seg) (cap : Nat) (hl : l.length ≤ 1000) (hS : ∀ g ∈ l, SegI g) (hK : ∀ g ∈ l, g.kind = 1 ∨ g.kind = 2) (w : World) (hr : RdS a l w) :
    Calls Tryz.prog 9 #[m.val, .slice a l.length cap] w fun e w' => ∃ v, e = .returned (.tuple #[v, .int .i64 (outO (drawL m) m l).2]) ∧ Edgs w.heap.size v (outO (drawL m) m l).1 w' ∧ Below w.heap.size w w' :=
  edges_any (drawL m) m hm _ (draw_line m hm) a l cap hl hS hK (fun x hx => Nat.le_trans (allO_len (Nat.le_refl 1) (drawL_len m) x hx) (by decide)) w hr
theorem rightP_want : rightP wantO 0 0 false := by
  unfold wantO
  simp [rightP, aloneP, keptS, segS, inB, In32]
theorem out_want : outO (drawL sameM) sameM wantO = (edgesO, 0) := by
  unfold outO allO
  rw [if_pos ⟨mright_same, rightP_want⟩]
  kernel_rfl
theorem mi64_right {m : Mtx} (h : m.right) : MI64 m := ⟨h.1.i, h.2.1.i, h.2.2.1.i, h.2.2.2.1.i, h.2.2.2.2.1.i, h.2.2.2.2.2.i⟩
theorem mi64_same : MI64 sameM := mi64_right mright_same
theorem alone_I {g : Seg} (h : aloneP g) : SegI g := by
  obtain ⟨h1, h2, _, ⟨i1, i2, i3, i4, i5, i6, i7, i8, i9⟩, _⟩ := h
  exact ⟨(show In32 g.kind from ⟨by omega, by omega⟩).i, i1.i, i2.i, i3.i, i4.i, i5.i, i6.i, i7.i, i8.i, i9.i⟩
theorem edges_ok13 : EdgesOk13 := by
  intro a cap w hr _
  have h := edges_line sameM mi64_same a wantO cap (by decide) (fun g hg => alone_I (rightP_all rightP_want g hg)) (by unfold wantO segS; decide) w hr
  rw [out_want] at h
  exact h
end Go.Proofs.YtbjabclgekkpaaaGreatDoor
namespace Go.Proofs.YtbjabclgekkpaaaGreatDoor
open Go.RowKit Go.Shelf
theorem join_zero : ∀ (l : List (List Edg × Int)) (acc : List Edg), (joinO acc l).2 = 0 → cleanO l ∧ (joinO acc l).1 = acc ++ catO l
  | [], acc, _ => ⟨fun _ h => by (cases h), by simp [joinO, catO]⟩
  | (L, e) :: t, acc, h => by
    rw [joinO] at h ⊢
    by_cases e0 : e = 0
    · rw [if_pos e0] at h ⊢
      obtain ⟨h1, h2⟩ := join_zero t (acc ++ L) h
      refine ⟨fun x hx => ?_, by rw [h2]; simp [catO]⟩
      rcases List.mem_cons.1 hx with rfl | hx
      · exact e0
      · exact h1 x hx
    · rw [if_neg e0] at h
      exact absurd h e0
theorem outO_zero {D : Pen → Seg → List Edg × Int} {m : Mtx} {l : List Seg} (h : (outO D m l).2 = 0) : (m.right ∧ rightP l 0 0 false) ∧ cleanO (strO D m Pen.zero l) ∧ (outO D m l).1 = catO (strO D m Pen.zero l) := by
  unfold outO allO at *
  by_cases k : m.right ∧ rightP l 0 0 false
  · rw [if_pos k] at h ⊢
    have := join_zero _ _ h
    exact ⟨k, this.1, by rw [this.2]; simp⟩
  · rw [if_neg k] at h
    simp [joinO] at h
/-- Where a point that may be taken goes. -/
theorem okP_spec {m : Mtx} {p : Pt} (h : okP m p) : m.right ∧ (In32 p.1 ∧ In32 p.2) ∧ (In32 (imgP m p).1 ∧ In32 (imgP m p).2) ∧ imgP m p = appM m p.1 p.2 := by
  unfold okP imgP at *
  unfold applyS at *
  by_cases k : m.right ∧ In32 p.1 ∧ In32 p.2
  · rw [if_pos k] at h ⊢
    by_cases j : In32 (appM m p.1 p.2).1 ∧ In32 (appM m p.1 p.2).2
    · rw [if_pos j]; exact ⟨k.1, k.2, j, rfl⟩
    · rw [if_neg j] at h; simp at h
  · rw [if_neg k] at h; simp at h
theorem lineO_zero {m : Mtx} {a b : Pt} (h : (lineO m a b).2 = 0) : (okP m a ∧ okP m b) ∧ (lineO m a b).1 = if imgP m a = imgP m b then [] else [edgO (imgP m a) (imgP m b)] := by
  unfold lineO at *
  by_cases k : (allA m [a, b]).2 = 0
  · rw [if_pos k]
    obtain ⟨_, h2, h3⟩ := all_mem k
    refine ⟨⟨h2 a (by simp), h2 b (by simp)⟩, ?_⟩
    rw [h3]; rfl
  · rw [if_neg k] at h; exact absurd h k
/-- The segments of the law. -/
def kindM (i : Nat) : Int := min (i : Int) 1 + 1
def segsM (l : List Pt) : List Seg := l.mapIdx fun i p => segS (kindM i) p.1 p.2 0 0 0 0
def shiftE (e f : Int) (g : Edg) : Edg := ⟨g.px + e, g.py + f, g.qx + e, g.qy + f⟩
def moveM (e f : Int) : Mtx := ⟨65536, 0, 0, 65536, e, f⟩
def EdgIn (g : Edg) : Prop := (In32 g.px ∧ In32 g.py) ∧ (In32 g.qx ∧ In32 g.qy)
theorem shift_line {a b : Pt} {e f : Int} (h : (lineO sameM a b).2 = 0) (k : (lineO (moveM e f) a b).2 = 0) : (lineO (moveM e f) a b).1 = (lineO sameM a b).1.map (shiftE e f) ∧ ∀ g ∈ (lineO sameM a b).1, EdgIn g := by
  obtain ⟨⟨a1, b1⟩, h1⟩ := lineO_zero h
  obtain ⟨⟨a2, b2⟩, k1⟩ := lineO_zero k
  obtain ⟨_, _, _, ia⟩ := okP_spec a1
  obtain ⟨_, _, _, ib⟩ := okP_spec b1
  obtain ⟨_, ya, _, ja⟩ := okP_spec a2
  obtain ⟨_, yb, _, jb⟩ := okP_spec b2
  rw [h1, k1, ia, ib, ja, jb, app_same, app_same]
  unfold moveM
  rw [app_move, app_move]
  by_cases c : ((a.1, a.2) : Int × Int) = (b.1, b.2)
  · have c1 : a.1 = b.1 := congrArg Prod.fst c
    have c2 : a.2 = b.2 := congrArg Prod.snd c
    rw [if_pos c, c1, c2, if_pos rfl]
    exact ⟨rfl, fun _ h => by cases h⟩
  · have c2 : ¬ ((a.1 + e, a.2 + f) : Int × Int) = (b.1 + e, b.2 + f) := fun h => c (by
      have q1 : a.1 + e = b.1 + e := congrArg Prod.fst h
      have q2 : a.2 + f = b.2 + f := congrArg Prod.snd h
      rw [show a.1 = b.1 by omega, show a.2 = b.2 by omega])
    rw [if_neg c, if_neg c2]
    refine ⟨rfl, fun g hg => ?_⟩
    rw [List.mem_singleton.1 hg]
    exact ⟨ya, yb⟩
theorem shift_fin {s : Pen} {e f : Int} (h : (finO sameM s).2 = 0) (k : (finO (moveM e f) s).2 = 0) : (finO (moveM e f) s).1 = (finO sameM s).1.map (shiftE e f) ∧ ∀ g ∈ (finO sameM s).1, EdgIn g := by
  unfold finO at *
  by_cases o : s.o = true
  · rw [if_pos o] at h k ⊢
    rw [if_pos o]
    exact shift_line h k
  · rw [if_neg o, if_neg o]
    exact ⟨rfl, fun _ h => by cases h⟩
theorem shift_draw {s : Pen} {g : Seg} {e f : Int} (h : (drawL sameM s g).2 = 0) (k : (drawL (moveM e f) s g).2 = 0) : (drawL (moveM e f) s g).1 = (drawL sameM s g).1.map (shiftE e f) ∧ ∀ x ∈ (drawL sameM s g).1, EdgIn x := by
  unfold drawL at *
  by_cases o : g.kind = 2
  · rw [if_pos o] at h k ⊢
    rw [if_pos o]
    exact shift_line h k
  · rw [if_neg o] at h k ⊢
    rw [if_neg o]
    exact shift_fin h k
theorem shift_all (e f : Int) : ∀ (l : List Seg) (s : Pen), cleanO (strO (drawL sameM) sameM s l) → cleanO (strO (drawL (moveM e f)) (moveM e f) s l) →
    catO (strO (drawL (moveM e f)) (moveM e f) s l) = (catO (strO (drawL sameM) sameM s l)).map (shiftE e f) ∧ ∀ x ∈ catO (strO (drawL sameM) sameM s l), EdgIn x
  | [], s, h, k => by
    have := shift_fin (h (finO sameM s) List.mem_cons_self) (k (finO (moveM e f) s) List.mem_cons_self)
    simpa [strO, catO] using this
  | g :: t, s, h, k => by
    have h1 := shift_draw (h _ List.mem_cons_self) (k _ List.mem_cons_self)
    have h2 := shift_all e f t (stepO s g) (fun x hx => h x (List.mem_cons_of_mem _ hx)) (fun x hx => k x (List.mem_cons_of_mem _ hx))
    simp only [strO, catO, List.map_cons, List.flatten_cons, List.map_append] at *
    refine ⟨by rw [h1.1, h2.1], fun x hx => ?_⟩
    rcases List.mem_append.1 hx with hx | hx
    · exact h1.2 x hx
    · exact h2.2 x hx
/-- P13, of lines: moved by whole numbers the outline is the same one, moved. -/
theorem shift_edges {l : List Seg} {e f : Int} (h : (outO (drawL sameM) sameM l).2 = 0) (k : (outO (drawL (moveM e f)) (moveM e f) l).2 = 0) :
    (outO (drawL (moveM e f)) (moveM e f) l).1 = (outO (drawL sameM) sameM l).1.map (shiftE e f) ∧ ∀ x ∈ (outO (drawL sameM) sameM l).1, EdgIn x := by
  obtain ⟨_, h1, h2⟩ := outO_zero h
  obtain ⟨_, k1, k2⟩ := outO_zero k
  rw [h2, k2]
  exact shift_all e f l Pen.zero h1 k1
end Go.Proofs.YtbjabclgekkpaaaGreatDoor
namespace Go.Proofs.YtbjabclgekkpaaaGreatDoor
open Go.RowKit Go.Shelf
set_option linter.unusedSimpArgs false
def segL : Lay8 Seg := { e := 51, sz := 12, cl := Seg.cells, len := fun _ => rfl, pos := by decide, one := fun x u hu => by simp [Seg.cells] at hu; rcases hu with rfl | rfl | rfl | rfl | rfl | rfl | rfl | rfl | rfl | rfl | rfl | rfl <;> rfl }
theorem segL_flat (l : List Seg) : segL.flat l = flatS l := by
  induction l with
  | nil => rfl
  | cons g t ih => show segL.cl g ++ segL.flat t = _; rw [ih]; rfl
theorem segL_own {R : Nat} {v : Value} {l : List Seg} {w : World} (h : segL.own R v l w) : Segs R v l w := by unfold Segs; rw [← segL_flat]; exact h
theorem segs_rd {R k cap : Nat} {a : Option Addr} {l : List Seg} {w : World} (h : segL.own R (.slice a k cap) l w) : RdS a l w := by
  obtain ⟨a', cap', hv, hr, _⟩ := (segL_own h).reads
  injection hv with e1 _ _
  rw [e1]; exact hr
theorem out_len {l : List Seg} (hl : l.length ≤ 1000) (h : (outO (drawL sameM) sameM l).2 = 0) : (outO (drawL sameM) sameM l).1.length ≤ 1001 := by
  obtain ⟨_, _, e⟩ := outO_zero h
  rw [e]
  have h1 := catO_len (strO_len (m := sameM) (Nat.le_refl 1) (drawL_len sameM) l Pen.zero)
  rw [strO_length] at h1
  omega
theorem own_two {α : Type} {L : Lay8 α} {R n o1 o2 : Nat} {t : TypeId} {cs : Array Value} {v x y : Value} {l : List α} {w : World} (h : L.own R v l w) (hb : CBox n t cs w) (ht : t ≠ L.e) : L.own R v l ((w.setCell ⟨n, o1, none⟩ x).setCell ⟨n, o2, none⟩ y) := by
  have hn := h.not_box hb ht
  exact h.stay fun q hq => (Below.heap_setCell _ _ _ _ (by exact fun e => hn (by have e4 : q = n := e; rw [← e4]; exact hq.symm))).trans (Below.heap_setCell _ _ _ _ (by exact fun e => hn (by have e4 : q = n := e; rw [← e4]; exact hq.symm)))
theorem seg_one_pl {ops : Array Oper} {rest : List Oper} {o : Oper} {a : Act} {Q : Exit → Act → World → Prop} (w : World) (hgd : o.guard = none) (s x : Operand)
    (ho : o.op = .call { callee := .builtin .append, args := #[s, x], argTypes := #[24, 24] }) {B n : Nat} {v : Value} {l : List Seg} (hn : w.heap.size = n) (g : Seg) (hown : segL.own B v l w) (hs : a.eval s = v)
    (hx : a.eval x = .slice (some ⟨n, 0, none⟩) 1 1) (hk : l.length ≤ 100000000) (hB : B ≤ w.heap.size)
    (h : ∀ v' w', segL.own B v' (l ++ [g]) w' → w.grownBy w' v.ownBlock → wpList Tryz.prog ops Q rest (a.put o.dst v') w') :
    wpList Tryz.prog ops Q (o :: rest) a (w.alloc (.cells #[.int .i64 g.kind, .int .i64 g.tx, .int .i64 g.ty, .int .i64 g.ax, .int .i64 g.ay, .int .i64 g.cx, .int .i64 g.cy, .int .i64 g.rx, .int .i64 g.ry, .int .i64 g.turn, .bool g.lg, .bool g.sw] 51)) := by
  obtain ⟨i0, hi, hz0, hz1, hz2⟩ := info_parts info_seg
  exact Lay8.one_pl segL w Tryz.underlying24 hi hz0 hz1 hz2 rfl (by decide) hgd s x ho hn g hown hs hx hk hB h
theorem segsM_take {l : List Pt} {i : Nat} (h : i < l.length) : (segsM l).take (i + 1) = (segsM l).take i ++ [segS (kindM i) (l.getD i (0, 0)).1 (l.getD i (0, 0)).2 0 0 0 0] := by
  have hl : i < (segsM l).length := by unfold segsM; simpa using h
  rw [List.take_succ_eq_append_getElem hl]
  have e : (segsM l)[i] = segS (kindM i) l[i].1 l[i].2 0 0 0 0 := by unfold segsM; exact List.getElem_mapIdx ..
  rw [e]
  simp [List.getD, List.getElem?_eq_getElem h]
theorem segsM_kind {l : List Pt} : ∀ g ∈ segsM l, g.kind = 1 ∨ g.kind = 2 := by
  intro g hg
  unfold segsM at hg
  obtain ⟨i, hi, rfl⟩ := List.mem_mapIdx.1 hg
  simp only [segS, kindM]
  omega
theorem segsM_I {l : List Pt} (h : ∀ g ∈ l, I64 g.1 ∧ I64 g.2) : ∀ g ∈ segsM l, SegI g := by
  intro g hg
  unfold segsM at hg
  obtain ⟨i, hi, rfl⟩ := List.mem_mapIdx.1 hg
  obtain ⟨h1, h2⟩ := h _ (List.getElem_mem hi)
  have z : I64 0 := by unfold I64; omega
  refine ⟨?_, h1, h2, z, z, z, z, z, z, z⟩
  simp only [segS, kindM]
  unfold I64; omega
/-- What the first loop keeps. -/
def MovInv (l : List Pt) (b0 b1 : Int) (w : World) (v5 v26 : Value) (wr : World) : Prop :=
  ∃ i : Nat, i ≤ l.length ∧ v26 = .int .i64 (i : Int) ∧ segL.own w.heap.size v5 ((segsM l).take i) wr ∧ CBox w.heap.size 49 #[.int .i32 b0, .int .i32 b1] wr ∧ Below w.heap.size w wr
set_option maxHeartbeats 8000000 in
set_option maxRecDepth 100000 in
theorem outmoves_walk (a : Option Addr) (l : List Pt) (cap : Nat) (hl : ∀ g ∈ l, I64 g.1 ∧ I64 g.2) (b0 b1 : Int) (hb0 : -2147483648 ≤ b0 ∧ b0 ≤ 2147483647) (hb1 : -2147483648 ≤ b1 ∧ b1 ≤ 2147483647) (w : World) (rd : RdP a l w) (WK : ∀ w1 : World, Below w.heap.size w w1 → Calls Tryz.prog 7 #[] w1 fun e w' => e = .returned (.bool true) ∧ Below w1.heap.size w1 w') :
    Calls Tryz.prog 6 #[.slice a l.length cap, .agg #[.int .i32 b0, .int .i32 b1]] w fun e w' => e = .returned (.bool true) ∧ Below w.heap.size w w' := by
  have K := Lib.hid WK
  have k1 := CBox.new w 49 #[.int .i32 b0, .int .i32 b1]
  have k2 := (Below.refl w.heap.size w).alloc (Nat.le_refl _) (.cells #[.int .i32 b0, .int .i32 b1] 49)
  have HY0 := Lib.hid k1; have HB0 := Lib.hid k2; have HR0 := Lib.hid (rd.next k2)
  have HR := Lib.hid rd
  have HI := Lib.hid hl
  clear k1 k2 rd hl WK
  go_enter Tryz.func6, Tryz.ntmps6
  go_upto_region 1 with fail
  generalize (w.alloc (.cells #[.int .i32 b0, .int .i32 b1] 49)) = w0 at *
  go_wp2_with fail
  refine (K.out _ HB0.out).mono ?_
  rintro e w1 ⟨rfl, b1'⟩
  have HY1 := Lib.hid (HY0.out.next b1'); have HB1 := Lib.hid (HB0.out.trans (b1'.mono HB0.out.size)); have HR1 := Lib.hid (HR0.out.next b1')
  clear b1' K HY0 HB0 HR0
  by_cases h60 : 30 < l.length
  · have d1 : decide (30 < (l.length : Int)) = true := decide_eq_true (by omega)
    go_wp2_with fail
    go_ret
    exact ⟨rfl, HB1.out⟩
  have d1 : decide (30 < (l.length : Int)) = false := decide_eq_false (by omega)
  by_cases h0 : l = []
  · subst h0
    go_wp2_with fail
    go_ret
    exact ⟨rfl, HB1.out⟩
  have hlp : 0 < l.length := List.length_pos_iff.2 h0
  have d2 : ((l.length : Int) == 0) = false := beq_eq_false_iff_ne.2 (by omega)
  go_wp2_with fail
  clear d1 d2
  go_loopw [5, 26] (fun v5 v26 wr => MovInv l b0 b1 w v5 v26 wr) (fun _ v26 _ => ((l.length : Int) - intN v26).toNat)
  case atStart => exact ⟨0, Nat.zero_le _, rfl, Lay8.own_nil _ _, HY1.out, HB1.out⟩
  case round =>
    obtain ⟨i, hi, rfl, ho, hy, hb⟩ := hrel
    have HO := Lib.hid ho; have HY := Lib.hid hy; have HB := Lib.hid hb
    clear ho hy hb HY1 HB1 HR1
    by_cases hc : i < l.length
    · have d1 : decide ((i : Int) < (l.length : Int)) = true := decide_eq_true (by omega)
      have HT := Lib.hid (segsM_take hc)
      obtain ⟨bb, off, ha, hbb, hcl⟩ := (HR.out.next HB.out).pos hlp
      subst ha
      obtain ⟨c0, c1⟩ := hcl i hc
      generalize l.getD i (0, 0) = p at *
      obtain ⟨px, py⟩ := p
      dsimp only at c0 c1 HT
      have hi0 : (0 : Int) ≤ (i : Int) := by omega
      have hi1 : (i : Int) < (l.length : Int) := by omega
      unfold kindM at HT
      have hlt : ((segsM l).take i).length ≤ 30 := by rw [List.length_take]; omega
      generalize (segsM l).take i = S at *
      obtain ⟨ra, rc, rfl, hrc⟩ := HO.out.shape
      have k1 := CBox.new wr 40 #[.int .i64 px, .int .i64 py]
      have k2 := (Below.refl wr.heap.size wr).alloc (Nat.le_refl _) (.cells #[.int .i64 px, .int .i64 py] 40)
      have HO2 := Lib.hid (HO.out.next k2); have HY2 := Lib.hid (HY.out.next k2); have HB2 := Lib.hid (HB.out.trans (k2.mono HB.out.size))
      have x0 := k1.c 0 rfl; have x1 := k1.c 1 rfl
      have hs2 : (wr.alloc (.cells #[.int .i64 px, .int .i64 py] 40)).heap.size = wr.heap.size + 1 := by simp
      clear k1 k2 hbb hcl HO HY HB
      go_upto_region 9 with fail
      clear c0 c1
      generalize (wr.alloc (.cells #[.int .i64 px, .int .i64 py] 40)) = w2 at *
      go_wp2_with (at_builtin; refine seg_one_pl _ rfl (.tmp 31) (.tmp 37) rfl hs2 ⟨min (i : Int) 1 + 1, px, py, 0, 0, 0, 0, 0, 0, 0, false, false⟩ HO2.out rfl rfl (by omega) HB2.out.size ?_; intro v' w3 hown' hg1; have HO3 := Lib.hid hown'; have HB3 := Lib.hid (HB2.out.grown hg1 HB2.out.size fun k e => (HO2.out.type k e).2.1); have HY3 := Lib.hid (HY2.out.grown hg1 (HO2.out.not_box HY2.out (by decide))); clear hown' hg1)
      go_roundw
      case rel => exact ⟨i + 1, hc, by push_cast; rfl, by rw [HT.out]; exact HO3.out, HY3.out, HB3.out⟩
      case measure => simp only [intN]; omega
    · have d1 : decide ((i : Int) < (l.length : Int)) = false := decide_eq_false (by omega)
      obtain rfl : i = l.length := by omega
      have htl : (segsM l).take l.length = segsM l := List.take_of_length_le (by unfold segsM; simp)
      rw [htl] at HO
      have hSl : (segsM l).length ≤ 1000 := by unfold segsM; simp; omega
      have SA := Lib.hid (fun w => asame8 w)
      have E1 := Lib.hid (fun a cap w => edges_line sameM mi64_same a (segsM l) cap hSl (segsM_I HI.out) segsM_kind w)
      have mi2 : MI64 (moveM b0 b1) := by
        have z : I64 0 := by unfold I64; omega
        have o : I64 65536 := by unfold I64; omega
        exact ⟨o, z, z, o, by unfold moveM I64; dsimp only; omega, by unfold moveM I64; dsimp only; omega⟩
      have E2 := Lib.hid (fun a cap w => edges_line (moveM b0 b1) mi2 a (segsM l) cap hSl (segsM_I HI.out) segsM_kind w)
      have HLN := Lib.hid (fun h => out_len hSl h)
      have HSH := Lib.hid (fun h k => shift_edges (l := segsM l) (e := b0) (f := b1) h k)
      generalize outO (drawL sameM) sameM (segsM l) = r1 at *
      generalize outO (drawL (moveM b0 b1)) (moveM b0 b1) (segsM l) = r2 at *
      obtain ⟨ra, rc, rfl, _⟩ := HO.out.shape
      generalize (segsM l).length = nl at *
      clear htl hSl mi2
      unfold sameM at SA E1
      unfold moveM at E2
      unfold Mtx.val Mtx.cells at SA E1 E2
      dsimp only at SA E1 E2
      go_wp2_with fail
      refine (SA.out _).mono ?_
      rintro e w2 ⟨rfl, b2⟩
      have k1 := CBox.new w2 23 #[.int .i64 65536, .int .i64 0, .int .i64 0, .int .i64 65536, .int .i64 0, .int .i64 0]
      have k2 := (Below.refl w2.heap.size w2).alloc (Nat.le_refl _) (.cells #[.int .i64 65536, .int .i64 0, .int .i64 0, .int .i64 65536, .int .i64 0, .int .i64 0] 23)
      have bb2 := b2.trans (k2.mono b2.size)
      have HM3 := Lib.hid k1; have HY3 := Lib.hid (HY.out.next bb2); have HB3 := Lib.hid (HB.out.trans (bb2.mono HB.out.size)); have HO3 := Lib.hid (HO.out.next bb2)
      have hy3 : w.heap.size < w2.heap.size := Nat.lt_of_lt_of_le HY.out.lt b2.size
      have m0 := k1.c 0 rfl; have m1 := k1.c 1 rfl; have m2 := k1.c 2 rfl; have m3 := k1.c 3 rfl; have m4 := k1.c 4 rfl; have m5 := k1.c 5 rfl
      clear k1 k2 b2 bb2 SA HY HB HO
      go_wp2_with fail
      clear m0 m1 m2 m3 m4 m5
      generalize (w2.alloc (.cells #[.int .i64 65536, .int .i64 0, .int .i64 0, .int .i64 65536, .int .i64 0, .int .i64 0] 23)) = w3 at *
      generalize w2.heap.size = km at *
      refine (E1.out _ _ _ (segs_rd HO3.out)).mono ?_
      rintro e w4 ⟨v1, rfl, hv1, b4⟩
      obtain ⟨a1, c1, rfl, _⟩ := Lay8.own.shape hv1
      have HV4 := Lib.hid hv1; have HM4 := Lib.hid (HM3.out.next b4); have HY4 := Lib.hid (HY3.out.next b4); have HB4 := Lib.hid (HB3.out.trans (b4.mono HB3.out.size)); have HO4 := Lib.hid (HO3.out.next b4)
      clear hv1 b4 E1 HM3 HY3 HB3 HO3
      have y0 : w4.cell? ⟨w.heap.size, 0, none⟩ = some (.int .i32 b0) := HY4.out.c 0 rfl
      have y1 : w4.cell? ⟨w.heap.size, 1, none⟩ = some (.int .i32 b1) := HY4.out.c 1 rfl
      have q4 : w4.cell? ⟨km, 4, none⟩ = some (.int .i64 0) := HM4.out.c 4 rfl
      have q5 : w4.cell? ⟨km, 5, none⟩ = some (.int .i64 0) := HM4.out.c 5 rfl
      have z4 := HM4.out.z 4; have z5 := HM4.out.z 5
      have nP : w.heap.size ≠ km := Nat.ne_of_lt hy3
      have nQ : km ≠ w.heap.size := Nat.ne_of_gt hy3
      have hkm : w.heap.size ≤ km := Nat.le_of_lt hy3
      have e3 : IntKind.i64.wrap b0 = b0 := IntWalk.i64_in _ (by omega)
      have e4 : IntKind.i64.wrap b1 = b1 := IntWalk.i64_in _ (by omega)
      go_upto_region 13 with fail
      go_cut [] (fun wc => CBox km 23 #[.int .i64 65536, .int .i64 0, .int .i64 0, .int .i64 65536, .int .i64 b0, .int .i64 b1] wc ∧ edgL.own w3.heap.size (.slice a1 r1.1.length c1) r1.1 wc ∧ segL.own w.heap.size (.slice ra nl rc) (segsM l) wc ∧ Below w.heap.size w wc)
      case first =>
        go_region_held3 (fun w' => w'.cell? ⟨w.heap.size, 0, none⟩ = some (.int .i32 b0) ∧ w'.cell? ⟨w.heap.size, 1, none⟩ = some (.int .i32 b1)) (first | (refine ⟨?_, ?_⟩ <;> first | with_reducible assumption | (with_reducible refine cell_far ?_ ?_ <;> with_reducible assumption) | (with_reducible refine cell_far (cell_far ?_ ?_) ?_ <;> with_reducible assumption)) | (simp [go_sem, *]; done)) (fail)
        all_goals
          go_wp2_with fail
          go_meet
          first
          | exact ⟨((HM4.out.set 4 (.int .i64 b0) (show 4 < 6 by decide)).set 5 (.int .i64 b1) (show 5 < 6 by decide)).drew, (own_two HV4.out HM4.out (by decide)).next (Below.refl _ _).drew, (own_two HO4.out HM4.out (by decide)).next (Below.refl _ _).drew, ((HB4.out.setCell (p := ⟨km, 4, none⟩) hkm (.int .i64 b0)).setCell (p := ⟨km, 5, none⟩) hkm (.int .i64 b1)).drew⟩
          | exact ⟨((HM4.out.set 5 (.int .i64 b1) (show 5 < 6 by decide)).set 4 (.int .i64 b0) (show 4 < 6 by decide)).drew, (own_two HV4.out HM4.out (by decide)).next (Below.refl _ _).drew, (own_two HO4.out HM4.out (by decide)).next (Below.refl _ _).drew, ((HB4.out.setCell (p := ⟨km, 5, none⟩) hkm (.int .i64 b1)).setCell (p := ⟨km, 4, none⟩) hkm (.int .i64 b0)).drew⟩
      case rest =>
        obtain ⟨hm, hv, ho, hb⟩ := hcut
        generalize wc = w5 at *
        have HM5 := Lib.hid hm; have HV5 := Lib.hid hv; have HO5 := Lib.hid ho; have HB5 := Lib.hid hb
        clear hm hv ho hb HM4 HV4 HO4 HB4 HY4 y0 y1 q4 q5 z4 z5
        have m0 := HM5.out.c 0 rfl; have m1 := HM5.out.c 1 rfl; have m2 := HM5.out.c 2 rfl; have m3 := HM5.out.c 3 rfl; have m4 := HM5.out.c 4 rfl; have m5 := HM5.out.c 5 rfl
        go_wp2_with fail
        refine (E2.out _ _ _ (segs_rd HO5.out)).mono ?_
        rintro e w6 ⟨v2, rfl, hv2, b6⟩
        obtain ⟨a2, c2, rfl, _⟩ := Lay8.own.shape hv2
        have HU6 := Lib.hid hv2; have HV6 := Lib.hid (HV5.out.next b6); have HM6 := Lib.hid (HM5.out.next b6); have HB6 := Lib.hid (HB5.out.trans (b6.mono HB5.out.size))
        clear hv2 b6 E2 HM5 HV5 HO5 HB5 m0 m1 m2 m3 m4 m5
        obtain ⟨L1, z1⟩ := r1
        obtain ⟨L2, z2⟩ := r2
        dsimp only at *
        by_cases h1 : z1 = 0
        · by_cases h2 : z2 = 0
          · obtain ⟨rfl, hin⟩ := HSH.out h1 h2
            subst h1 h2
            have HIN := Lib.hid hin
            have hL1 := HLN.out rfl
            have HMl : (L1.map (shiftE b0 b1)).length = L1.length := List.length_map ..
            have hsh : ∀ (i : Nat) (g : Edg), L1[i]? = some g → (L1.map (shiftE b0 b1))[i]? = some (shiftE b0 b1 g) := fun i g h => by rw [List.getElem?_map, h]; rfl
            have HSH2 := Lib.hid hsh
            have hU6 := HU6.out
            rw [HMl] at hU6 ⊢
            generalize L1.map (shiftE b0 b1) = L2 at *
            have HU7 := Lib.hid hU6
            clear hin hsh HSH HU6 hU6 e3 e4
            go_wp2_with fail
            go_loopw [74] (fun v wr => ∃ i : Nat, i ≤ L1.length ∧ v = .int .i64 (i : Int) ∧ Below w6.heap.size w6 wr) (fun v _ => ((L1.length : Int) - intN v).toNat)
            case atStart => exact ⟨0, Nat.zero_le _, rfl, Below.refl _ _⟩
            case round =>
              obtain ⟨i, hi, rfl, hbr⟩ := hrel
              by_cases hc : i < L1.length
              · have d1 : decide ((i : Int) < (L1.length : Int)) = true := decide_eq_true (by omega)
                obtain ⟨g, hg⟩ : ∃ g, L1[i]? = some g := ⟨_, List.getElem?_eq_getElem hc⟩
                have hgi := HIN.out g (List.mem_of_getElem? hg)
                have hg2 := HSH2.out i g hg
                obtain ⟨p1, o1, ha1, _, s0, s1, s2, s3⟩ := RdE.at (Lay8.rd.next (Lay8.own.rd HV6.out) hbr) hg
                obtain ⟨p2, o2, ha2, _, t0, t1, t2, t3⟩ := RdE.at (Lay8.rd.next (Lay8.own.rd HU7.out) hbr) hg2
                have q4 : wr.cell? ⟨km, 4, none⟩ = some (.int .i64 b0) := (HM6.out.next hbr).c 4 rfl
                have q5 : wr.cell? ⟨km, 5, none⟩ = some (.int .i64 b1) := (HM6.out.next hbr).c 5 rfl
                obtain ⟨gx, gy, gu, gv⟩ := g
                unfold shiftE at t0 t1 t2 t3
                obtain ⟨⟨i1, i2⟩, i3, i4⟩ := hgi
                unfold In32 at i1 i2 i3 i4
                dsimp only at *
                obtain ⟨X, hX⟩ : ∃ X, X = gx + b0 := ⟨_, rfl⟩
                obtain ⟨Y, hY⟩ : ∃ Y, Y = gy + b1 := ⟨_, rfl⟩
                obtain ⟨U, hU⟩ : ∃ U, U = gu + b0 := ⟨_, rfl⟩
                obtain ⟨V, hV⟩ : ∃ V, V = gv + b1 := ⟨_, rfl⟩
                rw [← hX] at t0
                rw [← hY] at t1
                rw [← hU] at t2
                rw [← hV] at t3
                have w1 : IntKind.i64.wrap (X - gx) = b0 := by rw [IntWalk.i64_in _ (by omega)]; omega
                have w2 : IntKind.i64.wrap (Y - gy) = b1 := by rw [IntWalk.i64_in _ (by omega)]; omega
                have w3 : IntKind.i64.wrap (U - gu) = b0 := by rw [IntWalk.i64_in _ (by omega)]; omega
                have w4 : IntKind.i64.wrap (V - gv) = b1 := by rw [IntWalk.i64_in _ (by omega)]; omega
                have HBr := Lib.hid hbr
                have hi0 : (0 : Int) ≤ (i : Int) := by omega
                have hi1 : (i : Int) < (L1.length : Int) := by omega
                have hi2 : (L1.length : Int) ≤ 1001 := by omega
                subst ha1 ha2
                clear hX hY hU hV i1 i2 i3 i4 hbr hg hg2
                go_wp2_with fail
                go_quiet (fail)
                go_wp2_with fail
                go_roundw
                case rel => exact ⟨i + 1, hc, by push_cast; rfl, HBr.out.trans ((below_dn13 _ _).mono HBr.out.size)⟩
                case measure => simp only [intN]; omega
              · have d1 : decide ((i : Int) < (L1.length : Int)) = false := decide_eq_false (by omega)
                have HBr := Lib.hid (HB6.out.trans (hbr.mono HB6.out.size))
                go_wp2_with fail
                go_ret
                exact ⟨rfl, HBr.out⟩
          · have d1 : (z2 != 0) = true := bne_iff_ne.2 h2
            subst h1
            go_wp2_with fail
            go_ret
            exact ⟨rfl, HB6.out⟩
        · have d1 : (z1 != 0) = true := bne_iff_ne.2 h1
          go_wp2_with fail
          go_ret
          exact ⟨rfl, HB6.out⟩
end Go.Proofs.YtbjabclgekkpaaaGreatDoor
