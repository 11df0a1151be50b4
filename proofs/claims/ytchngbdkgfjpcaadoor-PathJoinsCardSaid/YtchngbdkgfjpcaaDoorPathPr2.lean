/-
  The contract of package path's Print.
-/
import Derived.Test.YtchngbdkgfjpcaaDoorPathPr
namespace Go.Proofs.YtchngbdkgfjpcaaDoor
open Go.RowKit Go.Shelf

/-- May these commands be printed? -/
noncomputable def mayB (l : List Cmd) : Bool := @decide (MayL l) (Classical.propDecidable _)
theorem mayB_true {l : List Cmd} (h : MayL l) : mayB l = true := by unfold mayB; simp [h]
theorem mayB_false {l : List Cmd} (h : ¬ MayL l) : mayB l = false := by unfold mayB; simp [h]
theorem printT_append : ∀ (a b : List Cmd), printT (a ++ b) = printT a ++ printT b := by
  intro a
  induction a with
  | nil => intro b; rfl
  | cons x t ih => intro b; simp [printT, ih]
theorem take_succ (l : List Cmd) {i : Nat} (h : i < l.length) : l.take (i + 1) = l.take i ++ [⟨ltr l i, ars l i⟩] := by
  rw [List.take_add_one, at_some l h]; rfl
theorem argT_len (c : Nat) : ∀ (zs : List Int) (k : Nat), ArgsOk c k zs → (argT c k zs).length ≤ 29 * zs.length := by
  intro zs
  induction zs with
  | nil => intro k _; cases k <;> exact Nat.zero_le _
  | cons z t ih =>
    intro k h
    have h1 := ih (k + 1) h.2
    have hb : -4294967296 < argV c k z ∧ argV c k z < 4294967296 := by
      unfold argV
      split
      · rename_i h'
        have := (h.1.2.2 h'.1).2 h'.2
        omega
      · exact ⟨h.1.1, h.1.2.1⟩
    have h2 := pr_len _ hb.1 hb.2
    show (32 :: (pr (argV c k z) ++ argT c (k + 1) t)).length ≤ _
    simp only [List.length_cons, List.length_append]
    omega
theorem cmdT_len {x : Cmd} (h : CmdOk x) : (cmdT x).length ≤ 204 := by
  have h1 := argT_len x.letter x.args 0 h.2.2
  have h2 := cnt_le x.letter
  have h3 := h.1
  have h4 := h.2.1
  show (_ :: argT _ 0 _).length ≤ _
  simp only [List.length_cons]; omega
theorem may_of {l : List Cmd} (h : ∀ i, i < l.length → CmdOk ⟨ltr l i, ars l i⟩) (h0 : 0 < l.length → ltr l 0 = 77 ∨ ltr l 0 = 109) : MayL l := by
  refine ⟨fun x hx => ?_, fun x t e => ?_⟩
  · obtain ⟨i, hi⟩ := List.getElem?_of_mem hx
    have hlt := (List.getElem?_eq_some_iff.1 hi).1
    have := at_some l hlt
    rw [hi] at this
    have e := Option.some.inj this
    rw [e]; exact h i hlt
  · subst e; exact h0 (by simp)

theorem CmdAt.row' {b o : Nat} {l : List Cmd} {i : Nat} {aa : Option Addr} {ac : Nat} {w : World} (h : CmdAt b o l i aa ac w) : IntsK .i64 aa (ars l i) w := h.row
set_option maxRecDepth 100000 in
set_option maxHeartbeats 4000000 in
theorem PPrint_any (a : Option Addr) (l : List Cmd) (cap : Nat) (w : World) (hl : l.length ≤ 1000) (hA : RdC a l w) (hargs : ∀ i, i < l.length → (ars l i).length ≤ 1000000000) (T : PTabs8 w) :
    Calls Tryd.prog 20 #[.slice a l.length cap] w fun e w' => e = .returned (.tuple #[.string (if mayB l = true then ⟨(printT l).toArray⟩ else ⟨#[]⟩), .bool (mayB l)]) ∧ Below w.heap.size w w' := by
  by_cases hnil : l.length = 0
  · obtain rfl : l = [] := List.length_eq_zero_iff.1 hnil
    have hm : mayB [] = true := mayB_true ⟨fun x hx => (by cases hx), fun x t e => (by cases e)⟩
    have hcv : ∀ W, Sem.run Tryd.prog (convert 44 9 (.slice none 0 0)) W = .ok (.string ⟨#[]⟩) W := fun W => by kernel_rfl
    rw [hm]
    clear hA hargs T hnil hm
    go_enter Tryd.func20, Tryd.ntmps20
    go_wp2_with fail
    go_loop [20, 4] (fun v u => v = .int .i64 0 ∧ u = .slice none 0 0) (fun _ _ => 0)
    case atStart => exact ⟨rfl, rfl⟩
    case round =>
      obtain ⟨rfl, rfl⟩ := hrel
      go_wp2_with fail
      go_ret2
      exact ⟨rfl, Below.refl _ _⟩
  · obtain ⟨S, hS⟩ : ∃ S : ByteArray, (if mayB l = true then ⟨(printT l).toArray⟩ else ⟨#[]⟩) = S := ⟨_, rfl⟩
    obtain ⟨mb, hmb⟩ : ∃ mb, mayB l = mb := ⟨_, rfl⟩
    rw [hS, hmb]
    have HS := Lib.hid hS
    have HMB := Lib.hid hmb
    have HNO := Lib.hid (show mayB l = false → S = ⟨#[]⟩ ∧ mb = false from fun h => by rw [← hS, ← hmb, h]; exact ⟨rfl, rfl⟩)
    have HYES := Lib.hid (show mayB l = true → S = ⟨(printT l).toArray⟩ ∧ mb = true from fun h => by rw [← hS, ← hmb, h]; exact ⟨rfl, rfl⟩)
    clear hS hmb HS HMB
    have hpos : 0 < l.length := by omega
    have hposI : (0 : Int) < (l.length : Int) := by omega
    obtain ⟨b, off, rfl, hbw, hall⟩ := hA.pos hpos
    have hTg : gN ≤ w.heap.size := T.pt.size
    have RG := Lib.hid (fun c a zs cap w hc hz hI T => Right_any c a zs cap w hc hz hI T)
    have OPN := Lib.hid (fun w => opens_any (ltr l 0) w)
    have AC := Lib.hid (fun c a zs cap t tv w1 hok hb hI ht hl T => appendCommand_any c a zs cap w.heap.size t tv w w1 hok rfl hb hI ht hl T (show gN ≤ w.heap.size from by exact hTg))
    obtain ⟨aa0, ac0, A0⟩ := hall 0 hpos
    have x0 : w.cell? ⟨b, off, none⟩ = some (.int .u8 (ltr l 0 : Int)) := by have := A0.c0; simpa using this
    have HALL := Lib.hid hall
    have HARG := Lib.hid hargs
    have HT := Lib.hid T
    clear hA hall hargs T hnil A0
    cases ho : opensL (ltr l 0) with
    | false =>
      have hm : mayB l = false := mayB_false fun h => by
        have h0 := at_some l hpos
        cases l with
        | nil => simp at hpos
        | cons y t =>
          have := h.2 y t rfl
          have e : ltr (y :: t) 0 = y.letter := rfl
          unfold opensL at ho
          rw [e] at ho
          rcases this with h | h <;> rw [h] at ho <;> exact absurd ho (by decide)
      rw [ho] at OPN
      obtain ⟨rfl, rfl⟩ := HNO.out hm
      clear hm ho
      go_enter Tryd.func20, Tryd.ntmps20
      go_wp2_with fail
      refine (OPN.out _).mono ?_
      rintro e w1 ⟨rfl, rfl⟩
      go_wp2_with fail
      go_ret2
      exact ⟨rfl, Below.refl _ _⟩
    | true =>
      have hfirst : ltr l 0 = 77 ∨ ltr l 0 = 109 := by unfold opensL at ho; simpa using ho
      have HF := Lib.hid hfirst
      rw [ho] at OPN
      clear hfirst ho
      go_enter Tryd.func20, Tryd.ntmps20
      go_wp2_with fail
      refine (OPN.out _).mono ?_
      rintro e w1 ⟨rfl, rfl⟩
      go_wp2_with fail
      go_loopw [20, 4] (fun u20 u4 wr => ∃ (i : Nat) (t : List UInt8), u20 = .int .i64 (i : Int) ∧ i ≤ l.length ∧ t = printT (l.take i) ∧ Txt w.heap.size t u4 wr ∧ t.length ≤ 204 * i ∧ Below w.heap.size w wr ∧ PTabs8 wr ∧ Hid (∀ j, j < i → CmdOk ⟨ltr l j, ars l j⟩)) (fun u20 _ _ => l.length - (intOf u20).toNat)
      case atStart => exact ⟨0, [], rfl, Nat.zero_le _, rfl, World.ownsRow_nil _ _ _ _, Nat.zero_le _, Below.refl _ _, HT.out, Lib.hid (fun j hj => absurd hj (by omega))⟩
      case round =>
        clear x0
        obtain ⟨i, t, rfl, hi, ht, htx, htl, hbel, hT, hO⟩ := hrel
        obtain ⟨xa, xc, rfl⟩ := own_shape htx
        have HTE := Lib.hid ht
        have HTX := Lib.hid htx
        have HTL := Lib.hid htl
        have HBL := Lib.hid hbel
        have HTT := Lib.hid hT
        have hwr : w.heap.size ≤ wr.heap.size := hbel.size
        clear ht htx htl hT
        by_cases hlt : i < l.length
        · obtain ⟨aa, ac, A⟩ := HALL.out i hlt
          have x0 := (hbel.cell (p := ⟨b, off + i * 2, none⟩) (by exact hbw)).trans A.c0
          have x1 := (hbel.cell (p := ⟨b, off + i * 2 + 1, none⟩) (by exact hbw)).trans A.c1
          have hc := A.lt
          have hzl := HARG.out i hlt
          have HI := Lib.hid A.row
          have hltI : (i : Int) < (l.length : Int) := by omega
          have e1 : IntKind.i64.wrap ((i : Int) + 1) = ((i + 1 : Nat) : Int) := by rw [IntWalk.i64_in _ (by omega)]; omega
          have HX := Lib.hid (take_succ l hlt)
          generalize hcc : ltr l i = c at *
          generalize hzz : ars l i = zs at *
          have bal := (Below.refl wr.heap.size wr).alloc (Nat.le_refl _) (.cells #[.int .u8 (c : Int), .slice aa zs.length ac] 36)
          have n0 : (wr.alloc (.cells #[.int .u8 (c : Int), .slice aa zs.length ac] 36)).heap[wr.heap.size]? = some (.cells #[.int .u8 (c : Int), .slice aa zs.length ac] 36 (0, 0)) := World.alloc_heap_new wr _
          have hBa := HBL.out.trans (bal.mono hwr)
          have RR := Lib.hid (RG.out c aa zs ac _ hc hzl (HI.out.below hBa (Nat.le_refl _)) (HTT.out.next bal).pt)
          have N0 := Lib.hid n0
          have HBa := Lib.hid hBa
          have HTa := Lib.hid (HTT.out.next bal)
          have HXa := Lib.hid (own_next HTX.out bal)
          have HCZ := Lib.hid (And.intro hcc hzz)
          have hwa : wr.heap.size < (wr.alloc (.cells #[.int .u8 (c : Int), .slice aa zs.length ac] 36)).heap.size := by simp
          clear bal n0 hBa A hbel RG hcc hzz
          cases hok : okB ⟨c, zs⟩ with
          | false =>
            have hm : mayB l = false := mayB_false fun h => by
              have h0 := h.1 ⟨ltr l i, ars l i⟩ (List.mem_of_getElem? (at_some l hlt))
              rw [HCZ.out.1, HCZ.out.2] at h0
              rw [okB_true h0] at hok
              cases hok
            obtain ⟨rfl, rfl⟩ := HNO.out hm
            rw [hok] at RR
            clear hm hok
            go_wp2_with fail
            refine RR.out.mono ?_
            rintro e w2 ⟨rfl, b2⟩
            have B2 := Lib.hid (HBa.out.trans (b2.mono (by omega)))
            clear b2
            go_wp2_with fail
            go_ret2
            exact ⟨rfl, B2.out⟩
          | true =>
            have HOK := Lib.hid (okB_iff.1 hok)
            rw [hok] at RR
            clear hok
            go_wp2_with fail
            refine RR.out.mono ?_
            rintro e w2 ⟨rfl, b2⟩
            have n2 : w2.heap[wr.heap.size]? = some (.cells #[.int .u8 (c : Int), .slice aa zs.length ac] 36 (0, 0)) := (b2.block _ hwa).trans N0.out
            have y0 : w2.cell? ⟨wr.heap.size, 0, none⟩ = some (.int .u8 (c : Int)) := by unfold World.cell?; rw [n2]; rfl
            have y1 : w2.cell? ⟨wr.heap.size, 1, none⟩ = some (.slice aa zs.length ac) := by unfold World.cell?; rw [n2]; rfl
            have B2 := HBa.out.trans (b2.mono (by omega))
            have HB2 := Lib.hid B2
            have T2 := HTa.out.next b2
            have X2 : Txt w.heap.size t (.slice xa t.length xc) w2 := own_next HXa.out b2
            have AA := Lib.hid (AC.out c aa zs ac t _ w2 HOK.out B2 HI.out X2 (by have := HTL.out; omega) T2)
            have HT2 := Lib.hid T2
            clear b2 n2 B2 T2 X2 N0 RR
            go_wp2_with fail
            refine AA.out.mono ?_
            rintro e w3 ⟨v', rfl, h3, b3⟩
            obtain ⟨va, vc, rfl⟩ := own_shape h3
            have H3 := Lib.hid h3
            have B3 := Lib.hid (HB2.out.trans b3)
            have T3 := Lib.hid (HT2.out.below b3 hTg)
            clear h3 b3 AA
            go_wp2_with fail
            go_roundw
            case rel =>
              refine ⟨i + 1, t ++ cmdT ⟨c, zs⟩, by go_num, by omega, ?_, by have h := H3.out; rw [List.length_append] at h; exact h, ?_, B3.out, T3.out, Lib.hid fun j hj => ?_⟩
              · rw [HX.out, printT_append, HTE.out]; simp [printT]
              · have := cmdT_len HOK.out; have := HTL.out; rw [List.length_append]; omega
              · by_cases hj2 : j < i
                · exact hO.out j hj2
                · obtain rfl : j = i := by omega
                  rw [HCZ.out.1, HCZ.out.2]; exact HOK.out
            case measure => simp [intOf]; omega
        · have hil : i = l.length := by omega
          have hm : MayL l := may_of (fun j hj => hO.out j (by omega)) (fun _ => HF.out)
          have hte := HTE.out
          rw [hil, List.take_length] at hte
          have hne : t ≠ [] := by
            rw [hte]
            cases l with
            | nil => simp at hpos
            | cons y r => simp [printT, cmdT]
          have hcv : ∀ W, W = wr → Sem.run Tryd.prog (convert 44 9 (.slice xa t.length xc)) W = .ok (.string ⟨t.toArray⟩) W := fun W e => by subst e; exact text_of_own HTX.out hne
          have hcw := hcv wr rfl
          obtain ⟨rfl, rfl⟩ := HYES.out (mayB_true hm)
          have HE := Lib.hid hte
          have hnl : ¬ (i : Int) < (l.length : Int) := by omega
          clear hm hte hne hcv hil hbel hO
          go_wp2_with fail
          go_ret2
          exact ⟨by rw [← HE.out]; rfl, HBL.out⟩
end Go.Proofs.YtchngbdkgfjpcaaDoor
