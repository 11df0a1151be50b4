/-
  The document's Print of commands.
-/
import Derived.Test.YtchngbdkgfjpcaaDoorRef6May
import Derived.Test.YtchngbdkgfjpcaaDoorRef4Print
namespace Go.Proofs.YtchngbdkgfjpcaaDoor
open Go.RowKit Go.Shelf

set_option maxRecDepth 100000 in
set_option maxHeartbeats 4000000 in
theorem rPrint6_any (a : Option Addr) (l : List Cmd) (cap : Nat) (w : World) (hl : l.length ≤ 1000) (hA : RdC a l w) (hm : MayL l) :
    Calls Tryd.prog 22 #[.slice a l.length cap] w fun e w' => e = .returned (.string ⟨(printT l).toArray⟩) ∧ Below w.heap.size w w' := by
  have HA := Lib.hid hA
  have HOK := Lib.hid (fun i (h : i < l.length) => hm.1 ⟨ltr l i, ars l i⟩ (List.mem_of_getElem? (at_some l h)))
  have RA := Lib.hid (fun c w => rarc_any c w)
  have PR := Lib.hid (fun v hv w => rprint_any v hv w)
  clear hA hm
  go_enter Tryd.func22, Tryd.ntmps22
  go_wp2_with fail
  go_loopw [4, 3] (fun u4 u3 wr => ∃ (i : Nat) (t : List UInt8), u4 = .int .i64 (i : Int) ∧ i ≤ l.length ∧ u3 = .string ⟨t.toArray⟩ ∧ t.length ≤ 204 * i ∧ Below w.heap.size w wr ∧ Hid (t = printT (l.take i))) (fun u4 _ _ => l.length - (intOf u4).toNat)
  case atStart => exact ⟨0, [], rfl, Nat.zero_le _, rfl, Nat.zero_le _, Below.refl _ _, Lib.hid rfl⟩
  case round =>
    obtain ⟨i, t, rfl, hi, rfl, htl, hbel, hE⟩ := hrel
    by_cases hlt : i < l.length
    · obtain ⟨b, off, rfl, hb, hc⟩ := (HA.out.next hbel).pos (by omega)
      obtain ⟨aa, ac, A⟩ := hc i hlt
      have x0 := A.c0
      have x1 := A.c1
      have hcl := A.lt
      have hok := HOK.out i hlt
      have HROW := Lib.hid A.row
      have hltI : (i : Int) < (l.length : Int) := by omega
      have e1 : IntKind.i64.wrap ((i : Int) + 1) = ((i + 1 : Nat) : Int) := by rw [IntWalk.i64_in _ (by omega)]; omega
      have HX := Lib.hid (take_succ l hlt)
      have HB := Lib.hid hbel
      have hwr := hbel.size
      generalize ltr l i = c at *
      generalize ars l i = zs at *
      have h7 : zs.length ≤ 7 := by
        have h1 : cntL c = zs.length := hok.1
        have h2 : cntL c ≠ 99 := hok.2.1
        have := cnt_le c; omega
      have AO := Lib.hid (argsOk_drop zs 0 hok.2.2)
      have HCL := Lib.hid (cmdT_len hok)
      have hcc : (c : Int) = ((UInt8.ofNat c).toNat : Int) := by simp; omega
      have e5 := one_byte (UInt8.ofNat c) (c : Int) hcc wr
      have e6 := fun W => cat_run t [UInt8.ofNat c] W (by simp; omega)
      have bal := (Below.refl wr.heap.size wr).alloc (Nat.le_refl _) (.cells #[.int .u8 (c : Int)] 5)
      have x0' := (bal.cell (p := ⟨b, off + i * 2, none⟩) (by exact hb)).trans x0
      have x1' := (bal.cell (p := ⟨b, off + i * 2 + 1, none⟩) (by exact hb)).trans x1
      have HROW' := Lib.hid (HROW.out.below bal (Nat.le_refl _))
      have HBa := Lib.hid (HB.out.trans (bal.mono hwr))
      have hba : b < (wr.alloc (.cells #[.int .u8 (c : Int)] 5)).heap.size := by simp; omega
      have hwa : w.heap.size ≤ (wr.alloc (.cells #[.int .u8 (c : Int)] 5)).heap.size := by simp; omega
      have TT := Lib.hid (show printT (l.take i) ++ cmdT ⟨c, zs⟩ = t ++ [UInt8.ofNat c] ++ argT c 0 (zs.drop 0) from by rw [← hE.out]; simp [cmdT])
      have HTL := Lib.hid htl
      have HTL2 := Lib.hid (show (printT (l.take i)).length ≤ 204 * i from by rw [← hE.out]; exact htl)
      clear hc A hbel hok HROW bal hcl hE HOK htl hcc
      go_wp2_with fail
      obtain ⟨Wa, hWa⟩ : ∃ Wa, wr.alloc (.cells #[.int .u8 (c : Int)] 5) = Wa := ⟨_, rfl⟩
      rw [hWa] at x0' x1' HROW' HBa hba hwa ⊢
      clear hWa x0 x1 e5 e6
      go_loopw [5, 3] (fun u5 u3 wq => ∃ (k : Nat) (x : List UInt8), u5 = .int .i64 (k : Int) ∧ k ≤ zs.length ∧ u3 = .string ⟨x.toArray⟩ ∧ x.length ≤ 204 * i + 1 + 29 * k ∧ Below Wa.heap.size Wa wq ∧ Hid (printT (l.take i) ++ cmdT ⟨c, zs⟩ = x ++ argT c k (zs.drop k))) (fun u5 _ _ => zs.length - (intOf u5).toNat)
      case atStart => exact ⟨0, t ++ [UInt8.ofNat c], rfl, Nat.zero_le _, by simp, by have := HTL.out; simp; omega, Below.refl _ _, TT⟩
      case round =>
        clear TT
        obtain ⟨k, x, rfl, hk, rfl, hxl, hbq, hO⟩ := hrel
        have v0 := (hbq.cell (p := ⟨b, off + i * 2, none⟩) (by exact hba)).trans x0'
        have v1 := (hbq.cell (p := ⟨b, off + i * 2 + 1, none⟩) (by exact hba)).trans x1'
        have HBQ := Lib.hid hbq
        by_cases hkl : k < zs.length
        · obtain ⟨d1, p1, hd1, hdl1, hcc1⟩ := (HROW'.out.below hbq (Nat.le_refl _)).pos hkl
          subst hd1
          have t1 := hcc1 k hkl
          have hkI : (k : Int) < (zs.length : Int) := by omega
          have hA := AO.out k hkl
          rw [Nat.zero_add] at hA
          have hO' := hO.out
          rw [argT_drop c k zs hkl] at hO'
          generalize zs.getD k 0 = z at *
          have hb2 : -4294967296 < argV c k z ∧ argV c k z < 4294967296 := by
            unfold argV
            split
            · rename_i h
              have := (hA.2.2 h.1).2 h.2
              omega
            · exact ⟨hA.1, hA.2.1⟩
          have hpl := pr_len _ hb2.1 hb2.2
          have PRk := Lib.hid (fun w => PR.out (argV c k z) ⟨by omega, by omega⟩ w)
          have hpr : printL (decide (argV c k z < 0)) (argV c k z).natAbs = pr (argV c k z) := rfl
          rw [hpr] at PRk
          have s1 := fun W => cat_run x [32] W (by simp; omega)
          have s2 := fun W => cat_run (x ++ [32]) (pr (argV c k z)) W (by simp; omega)
          have RAc := Lib.hid (fun w => RA.out c w)
          have e2 : IntKind.i64.wrap ((k : Int) + 1) = ((k + 1 : Nat) : Int) := by rw [IntWalk.i64_in _ (by omega)]; omega
          have HO := Lib.hid hO'
          have hwq := hbq.size
          clear hO hO' hcc1 hbq hpr hb2
          cases harc : isArc c with
          | false =>
            have hav : argV c k z = z := by unfold argV; rw [if_neg (by rw [harc]; simp)]
            rw [hav] at PRk s2 hpl HO
            rw [harc] at RAc
            clear hav harc hA
            generalize pr z = P at *
            go_wp2_with fail
            refine (RAc.out _).mono ?_
            rintro e w2 ⟨rfl, rfl⟩
            go_wp2_with fail
            refine (PRk.out _).mono ?_
            rintro e w2 ⟨rfl, b2⟩
            have B2 := Lib.hid (HBQ.out.trans (b2.mono hwq))
            clear b2
            go_wp2_with fail
            go_roundw
            case rel => exact ⟨k + 1, x ++ [32] ++ P, by go_num, by omega, by simp, by simp; omega, B2.out, Lib.hid (by rw [HO.out]; simp)⟩
            case measure => simp [intOf]; omega
          | true =>
            rw [harc] at RAc
            by_cases k3 : k = 3
            · subst k3
              have hav : IntKind.i64.wrap (z * 65536) = argV c 3 z := by
                have : argV c 3 z = z * 65536 := by unfold argV; rw [if_pos ⟨harc, Or.inl rfl⟩]
                rw [this]
                have := (hA.2.2 harc).2 (Or.inl rfl)
                exact IntWalk.i64_in _ (by omega)
              clear harc hA
              generalize pr (argV c 3 z) = P at *
              generalize argV c 3 z = y at *
              go_wp2_with fail
              refine (RAc.out _).mono ?_
              rintro e w2 ⟨rfl, rfl⟩
              go_wp2_with fail
              refine (PRk.out _).mono ?_
              rintro e w2 ⟨rfl, b2⟩
              have B2 := Lib.hid (HBQ.out.trans (b2.mono hwq))
              clear b2
              go_wp2_with fail
              go_roundw
              case rel => exact ⟨3 + 1, x ++ [32] ++ P, by go_num, by omega, by simp, by simp; omega, B2.out, Lib.hid (by rw [HO.out]; simp)⟩
              case measure => simp [intOf]; omega
            · by_cases k4 : k = 4
              · subst k4
                have hav : IntKind.i64.wrap (z * 65536) = argV c 4 z := by
                  have : argV c 4 z = z * 65536 := by unfold argV; rw [if_pos ⟨harc, Or.inr rfl⟩]
                  rw [this]
                  have := (hA.2.2 harc).2 (Or.inr rfl)
                  exact IntWalk.i64_in _ (by omega)
                clear harc hA
                generalize pr (argV c 4 z) = P at *
                generalize argV c 4 z = y at *
                go_wp2_with fail
                refine (RAc.out _).mono ?_
                rintro e w2 ⟨rfl, rfl⟩
                go_wp2_with fail
                refine (PRk.out _).mono ?_
                rintro e w2 ⟨rfl, b2⟩
                have B2 := Lib.hid (HBQ.out.trans (b2.mono hwq))
                clear b2
                go_wp2_with fail
                go_roundw
                case rel => exact ⟨4 + 1, x ++ [32] ++ P, by go_num, by omega, by simp, by simp; omega, B2.out, Lib.hid (by rw [HO.out]; simp)⟩
                case measure => simp [intOf]; omega
              · have hav : argV c k z = z := by unfold argV; rw [if_neg (fun h => by rcases h.2 with h | h; exact k3 h; exact k4 h)]
                rw [hav] at PRk s2 hpl HO
                have e3 : ((k : Int) == 3) = false := by rw [beq_eq_false_iff_ne]; omega
                have e4 : ((k : Int) == 4) = false := by rw [beq_eq_false_iff_ne]; omega
                clear hav harc hA
                generalize pr z = P at *
                go_wp2_with fail
                refine (RAc.out _).mono ?_
                rintro e w2 ⟨rfl, rfl⟩
                go_wp2_with fail
                refine (PRk.out _).mono ?_
                rintro e w2 ⟨rfl, b2⟩
                have B2 := Lib.hid (HBQ.out.trans (b2.mono hwq))
                clear b2
                go_wp2_with fail
                go_roundw
                case rel => exact ⟨k + 1, x ++ [32] ++ P, by go_num, by omega, by simp, by simp; omega, B2.out, Lib.hid (by rw [HO.out]; simp)⟩
                case measure => simp [intOf]; omega
        · have hnk : ¬ (k : Int) < (zs.length : Int) := by omega
          have hO' := hO.out
          rw [List.drop_of_length_le (by omega), show argT c k [] = [] from by cases k <;> rfl, List.append_nil] at hO'
          have hxe : x = printT (l.take (i + 1)) := by rw [HX.out, printT_append, ← hO']; simp [printT]
          have hlen : x.length ≤ 204 * (i + 1) := by
            have h1 : (printT (l.take i)).length ≤ 204 * i := HTL2.out
            rw [← hO', List.length_append]; have := HCL.out; omega
          have HXE := Lib.hid hxe
          have BF := Lib.hid (HBa.out.trans (hbq.mono hwa))
          clear hO hO' hxe hbq
          go_wp2_with fail
          go_roundw
          case rel => exact ⟨i + 1, x, by go_num, by omega, rfl, hlen, BF.out, HXE⟩
          case measure => simp [intOf]; omega
    · have hil : i = l.length := by omega
      have hE' := hE.out
      rw [hil, List.take_length] at hE'
      have HE := Lib.hid hE'
      have hnl : ¬ (i : Int) < (l.length : Int) := by omega
      clear hil hE hE'
      go_wp2_with fail
      go_ret
      exact ⟨by rw [HE.out]; rfl, hbel⟩
end Go.Proofs.YtchngbdkgfjpcaaDoor
