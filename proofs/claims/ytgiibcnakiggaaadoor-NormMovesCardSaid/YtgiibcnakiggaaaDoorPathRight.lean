/-
  Right commands: the contracts of package path's fits and Right, and of the document's Count, arc and Right.
-/
import Derived.Test.YtgiibcnakiggaaaDoorPathPrint
import Derived.Test.YtgiibcnakiggaaaDoorPathRd
namespace Go.Proofs.YtgiibcnakiggaaaDoor
open Go.RowKit Go.Shelf

/-- Is a command right? -/
noncomputable def okB (x : Cmd) : Bool := @decide (CmdOk x) (Classical.propDecidable _)
theorem okB_true {x : Cmd} (h : CmdOk x) : okB x = true := by unfold okB; simp [h]
theorem okB_false {x : Cmd} (h : ¬ CmdOk x) : okB x = false := by unfold okB; simp [h]
theorem okB_iff {x : Cmd} : okB x = true ↔ CmdOk x := by unfold okB; simp
/-- The arguments from the k-th on. -/
theorem args_cons {c k : Nat} {v : Int} {t : List Int} : ArgsOk c k (v :: t) ↔ (ArgOk c k v ∧ ArgsOk c (k + 1) t) := Iff.rfl
theorem drop_getD {zs : List Int} {k : Nat} (h : k < zs.length) : zs.drop k = zs.getD k 0 :: zs.drop (k + 1) := by
  rw [List.drop_eq_getElem_cons h]; simp [List.getD, List.getElem?_eq_getElem h]

def fitP (kd : Nat) (v : Int) : Prop := if kd = 110 then -4294967296 < v ∧ v < 4294967296 else if kd = 114 then 0 ≤ v ∧ v < 4294967296 else v = 0 ∨ v = 1
theorem fits_any (kd : Nat) (v : Int) (w : World) : ∃ r : Bool, (r = true ↔ fitP kd v) ∧ Calls Tryd.prog 50 #[.int .u8 (kd : Int), .int .i64 v] w fun e w' => e = .returned (.bool r) ∧ w = w' := by
  unfold fitP
  by_cases h1 : kd = 110
  · subst h1
    rw [if_pos rfl]
    by_cases ha : -4294967296 < v
    · by_cases hb : v < 4294967296
      · refine ⟨true, by simp [ha, hb], ?_⟩
        go_enter Tryd.func50, Tryd.ntmps50
        go_wp2_with fail
        go_ret
        exact ⟨rfl, rfl⟩
      · refine ⟨false, by simp [hb], ?_⟩
        go_enter Tryd.func50, Tryd.ntmps50
        go_wp2_with fail
        go_ret
        exact ⟨rfl, rfl⟩
    · refine ⟨false, by simp [ha], ?_⟩
      go_enter Tryd.func50, Tryd.ntmps50
      go_wp2_with fail
      go_ret
      exact ⟨rfl, rfl⟩
  · have e1 : ((kd : Int) == 110) = false := by rw [beq_eq_false_iff_ne]; omega
    rw [if_neg h1]
    by_cases h2 : kd = 114
    · subst h2
      rw [if_pos rfl]
      by_cases ha : 0 ≤ v
      · by_cases hb : v < 4294967296
        · refine ⟨true, by simp [ha, hb], ?_⟩
          go_enter Tryd.func50, Tryd.ntmps50
          go_wp2_with fail
          go_ret
          exact ⟨rfl, rfl⟩
        · refine ⟨false, by simp [hb], ?_⟩
          go_enter Tryd.func50, Tryd.ntmps50
          go_wp2_with fail
          go_ret
          exact ⟨rfl, rfl⟩
      · refine ⟨false, by simp [ha], ?_⟩
        go_enter Tryd.func50, Tryd.ntmps50
        go_wp2_with fail
        go_ret
        exact ⟨rfl, rfl⟩
    · have e2 : ((kd : Int) == 114) = false := by rw [beq_eq_false_iff_ne]; omega
      rw [if_neg h2]
      by_cases ha : v = 0
      · subst ha
        refine ⟨true, by simp, ?_⟩
        go_enter Tryd.func50, Tryd.ntmps50
        go_wp2_with fail
        go_ret
        exact ⟨rfl, rfl⟩
      · have f1 : (v == 0) = false := by rw [beq_eq_false_iff_ne]; exact ha
        by_cases hb : v = 1
        · subst hb
          refine ⟨true, by simp, ?_⟩
          go_enter Tryd.func50, Tryd.ntmps50
          go_wp2_with fail
          go_ret
          exact ⟨rfl, rfl⟩
        · have f2 : (v == 1) = false := by rw [beq_eq_false_iff_ne]; exact hb
          refine ⟨false, by simp [ha, hb], ?_⟩
          go_enter Tryd.func50, Tryd.ntmps50
          go_wp2_with fail
          go_ret
          exact ⟨rfl, rfl⟩
theorem fit_arg {c : Nat} (hc : c < 256) (k : Nat) (hk : k < (kinL c).size) (v : Int) : fitP (kinL c)[k].toNat v ↔ ArgOk c k v := by
  unfold ArgOk
  cases h : isArc c with
  | false =>
    rw [kin_plain hc h hk]
    unfold fitP
    rw [if_pos (show (110 : UInt8).toNat = 110 from rfl)]
    simp
  | true =>
    have e := kin_arc hc h
    have hs : (kinL c).size = 7 := by rw [e]; rfl
    have hk' : k = 0 ∨ k = 1 ∨ k = 2 ∨ k = 3 ∨ k = 4 ∨ k = 5 ∨ k = 6 := by omega
    have K : ∀ j (hj : j < 7) , (kinL c)[j]'(by omega) = (⟨#[114, 114, 110, 70, 102, 110, 110]⟩ : ByteArray)[j]'hj := fun j hj => by simp only [e]
    have F1 : fitP 114 v ↔ (0 ≤ v ∧ v < 4294967296) := Iff.rfl
    have F2 : fitP 110 v ↔ (-4294967296 < v ∧ v < 4294967296) := Iff.rfl
    have F3 : fitP 70 v ↔ (v = 0 ∨ v = 1) := Iff.rfl
    have F4 : fitP 102 v ↔ (v = 0 ∨ v = 1) := Iff.rfl
    rcases hk' with rfl | rfl | rfl | rfl | rfl | rfl | rfl
    · rw [K 0 (by decide)]; refine F1.trans ?_; simp; omega
    · rw [K 1 (by decide)]; refine F1.trans ?_; simp; omega
    · rw [K 2 (by decide)]; refine F2.trans ?_; simp
    · rw [K 3 (by decide)]; refine F3.trans ?_; simp; omega
    · rw [K 4 (by decide)]; refine F4.trans ?_; simp; omega
    · rw [K 5 (by decide)]; refine F2.trans ?_; simp
    · rw [K 6 (by decide)]; refine F2.trans ?_; simp

set_option maxRecDepth 100000 in
theorem Right_any (c : Nat) (a : Option Addr) (zs : List Int) (cap : Nat) (w : World) (hc : c < 256) (hz : zs.length ≤ 1000000000) (hI : IntsK .i64 a zs w) (T : PTabs w) :
    Calls Tryd.prog 33 #[.agg #[.int .u8 (c : Int), .slice a zs.length cap]] w fun e w' => e = .returned (.bool (okB ⟨c, zs⟩)) ∧ Below w.heap.size w w' := by
  have L := Lib.hid (fun w (T : PTabs w) => lookUp_any c hc w T.rows)
  have b0 := Lib.hid ((Below.refl w.heap.size w).alloc (Nat.le_refl _) (.cells #[.int .u8 (c : Int), .slice a zs.length cap] 34))
  have T0 := Lib.hid (T.next b0.out)
  have HI := Lib.hid hI
  have n0 : (w.alloc (.cells #[.int .u8 (c : Int), .slice a zs.length cap] 34)).heap[w.heap.size]? = some (.cells #[.int .u8 (c : Int), .slice a zs.length cap] 34 (0, 0)) := World.alloc_heap_new w _
  have N0 := Lib.hid n0
  clear n0
  clear T hI
  by_cases hk : cntL c ≠ 99 ∧ cntL c = zs.length
  · have hks := kin_size hc hk.1
    have KN : knownL c = true := by unfold knownL; simp [hk.1]
    rw [KN] at L
    have FA := Lib.hid (fun k h v => fit_arg hc k h v)
    have HZ := Lib.hid hz
    have heq : (kinL c).size = zs.length := hks.trans hk.2
    have HOK := Lib.hid (show okB ⟨c, zs⟩ = true ↔ ArgsOk c 0 (zs.drop 0) from by
      rw [okB_iff, List.drop_zero]
      exact ⟨fun h => h.2.2, fun h => ⟨hk.2, hk.1, h⟩⟩)
    clear hk hks KN hz
    generalize kinL c = ks at *
    go_enter Tryd.func33, Tryd.ntmps33
    go_wp2_with fail
    refine (L.out _ T0.out).mono ?_
    rintro e w1 ⟨rfl, b1⟩
    have B1 := Lib.hid (b0.out.trans (b1.mono b0.out.size))
    have n1 : w1.heap[w.heap.size]? = some (.cells #[.int .u8 (c : Int), .slice a zs.length cap] 34 (0, 0)) := (b1.block _ (by simp)).trans N0.out
    have c1 : w1.cell? ⟨w.heap.size, 1, none⟩ = some (.slice a zs.length cap) := by simp [World.cell?, n1]
    have HI1 := Lib.hid (HI.out.below B1.out (Nat.le_refl _))
    clear b1 n1 HI N0 L b0 T0
    go_wp2_with fail
    go_loop [26] (fun v => ∃ k : Nat, v = .int .i64 (k : Int) ∧ k ≤ zs.length ∧ Hid (okB ⟨c, zs⟩ = true ↔ ArgsOk c k (zs.drop k))) (fun v => zs.length - (intOf v).toNat)
    case atStart => exact ⟨0, rfl, Nat.zero_le _, HOK⟩
    case round =>
      obtain ⟨k, rfl, hk, hr⟩ := hrel
      have hz := HZ.out
      by_cases hlt : k < zs.length
      · obtain ⟨b, off, rfl, hb, hc2⟩ := HI1.out.pos hlt
        have ck := hc2 k hlt
        have hlk : k < ks.size := by omega
        have hcs := drop_getD hlt
        have HR := Lib.hid hr.out
        rw [hcs] at HR
        obtain ⟨r, hr1, hr2⟩ := fits_any ks[k].toNat (zs.getD k 0) w1
        have F := Lib.hid hr2
        have hfit := FA.out k hlk (zs.getD k 0)
        have HF := Lib.hid (hr1.trans hfit)
        generalize zs.getD k 0 = v at *
        clear hr hcs hr1 hr2 hfit hc2 FA HOK
        go_wp2_with fail
        refine F.out.mono ?_
        rintro e w2 ⟨rfl, rfl⟩
        cases r with
        | false =>
          have hno : okB ⟨c, zs⟩ = false := by
            cases hh : okB ⟨c, zs⟩ with
            | false => rfl
            | true => exact absurd (HF.out.2 (HR.out.1 hh).1) (by decide)
          go_wp2_with fail
          go_ret
          exact ⟨by rw [hno]; rfl, B1.out⟩
        | true =>
          have HA := Lib.hid (show okB ⟨c, zs⟩ = true ↔ ArgsOk c (k + 1) (zs.drop (k + 1)) from
            ⟨fun h => (HR.out.1 h).2, fun h => HR.out.2 ⟨HF.out.1 rfl, h⟩⟩)
          go_wp2_with fail
          go_round
          case rel => exact ⟨k + 1, by go_num, by omega, HA⟩
          case measure => simp [intOf]; omega
      · have hyes : okB ⟨c, zs⟩ = true := hr.out.2 (by rw [List.drop_of_length_le (by omega)]; trivial)
        have hnl : ¬ (k : Int) < (zs.length : Int) := by omega
        have HY := Lib.hid hyes
        clear hr hyes
        go_wp2_with fail
        go_ret
        exact ⟨by rw [HY.out]; rfl, B1.out⟩
  · have hno : okB ⟨c, zs⟩ = false := okB_false fun h => hk ⟨h.2.1, h.1⟩
    have HN := Lib.hid hno
    by_cases h9 : cntL c = 99
    · have KN : knownL c = false := by unfold knownL; simp [h9]
      rw [KN] at L
      clear hk hno h9 KN
      generalize kinL c = ks at *
      go_enter Tryd.func33, Tryd.ntmps33
      go_wp2_with fail
      refine (L.out _ T0.out).mono ?_
      rintro e w1 ⟨rfl, b1⟩
      have B1 := Lib.hid (b0.out.trans (b1.mono b0.out.size))
      clear b1
      go_wp2_with fail
      go_ret
      exact ⟨by rw [HN.out]; rfl, B1.out⟩
    · have hks := kin_size hc h9
      have KN : knownL c = true := by unfold knownL; simp [h9]
      rw [KN] at L
      have hne : ((zs.length : Int) == ((kinL c).size : Int)) = false := by rw [beq_eq_false_iff_ne]; intro e; exact hk ⟨h9, by omega⟩
      clear hk hno h9 KN hks
      generalize kinL c = ks at *
      go_enter Tryd.func33, Tryd.ntmps33
      go_wp2_with fail
      refine (L.out _ T0.out).mono ?_
      rintro e w1 ⟨rfl, b1⟩
      have B1 := Lib.hid (b0.out.trans (b1.mono b0.out.size))
      have n1 : w1.heap[w.heap.size]? = some (.cells #[.int .u8 (c : Int), .slice a zs.length cap] 34 (0, 0)) := (b1.block _ (by simp)).trans N0.out
      have c1 : w1.cell? ⟨w.heap.size, 1, none⟩ = some (.slice a zs.length cap) := by simp [World.cell?, n1]
      clear b1 n1 N0
      go_wp2_with fail
      go_ret
      exact ⟨by rw [HN.out]; rfl, B1.out⟩

/-- The document's Count and arc. -/
def cntI (c : Nat) : Int := if cntL c = 99 then -1 else (cntL c : Int)
theorem rarc_any (c : Nat) (w : World) : Calls Tryd.prog 20 #[.int .u8 (c : Int)] w fun e w' => e = .returned (.bool (isArc c)) ∧ w = w' := by
  unfold isArc
  by_cases h1 : c = 65
  · subst h1
    go_enter Tryd.func20, Tryd.ntmps20
    go_wp2_with fail
    go_ret
    exact ⟨rfl, rfl⟩
  · have e1 : ((c : Int) == 65) = false := by rw [beq_eq_false_iff_ne]; omega
    by_cases h2 : c = 97
    · subst h2
      go_enter Tryd.func20, Tryd.ntmps20
      go_wp2_with fail
      go_ret
      exact ⟨rfl, rfl⟩
    · have e2 : ((c : Int) == 97) = false := by rw [beq_eq_false_iff_ne]; omega
      go_enter Tryd.func20, Tryd.ntmps20
      go_wp2_with fail
      go_ret
      exact ⟨by simp [h1, h2], rfl⟩
set_option maxHeartbeats 2000000 in
theorem rcount_any (c : Nat) (w : World) : Calls Tryd.prog 17 #[.int .u8 (c : Int)] w fun e w' => e = .returned (.int .i64 (cntI c)) ∧ w = w' := by
  by_cases h : c = 77 ∨ c = 109 ∨ c = 76 ∨ c = 108 ∨ c = 84 ∨ c = 116 ∨ c = 72 ∨ c = 104 ∨ c = 86 ∨ c = 118 ∨ c = 67 ∨ c = 99 ∨ c = 83 ∨ c = 115 ∨ c = 81 ∨ c = 113 ∨ c = 65 ∨ c = 97 ∨ c = 90 ∨ c = 122
  · rcases h with rfl | rfl | rfl | rfl | rfl | rfl | rfl | rfl | rfl | rfl | rfl | rfl | rfl | rfl | rfl | rfl | rfl | rfl | rfl | rfl
    all_goals
      go_enter Tryd.func17, Tryd.ntmps17
      go_wp2_with fail
      go_ret
      exact ⟨rfl, rfl⟩
  · have e : cntI c = -1 := by
      have e9 : cntL c = 99 := by
        unfold cntL
        rw [if_neg (by omega), if_neg (by omega), if_neg (by omega), if_neg (by omega), if_neg (by omega), if_neg (by omega)]
      unfold cntI
      rw [e9]; rfl
    have E := Lib.hid e
    have f : ∀ k : Nat, k = 77 ∨ k = 109 ∨ k = 76 ∨ k = 108 ∨ k = 84 ∨ k = 116 ∨ k = 72 ∨ k = 104 ∨ k = 86 ∨ k = 118 ∨ k = 67 ∨ k = 99 ∨ k = 83 ∨ k = 115 ∨ k = 81 ∨ k = 113 ∨ k = 65 ∨ k = 97 ∨ k = 90 ∨ k = 122 → ((c : Int) == (k : Int)) = false := by
      intro k hk; rw [beq_eq_false_iff_ne]; omega
    have f77 : ((c : Int) == 77) = false := f 77 (by omega)
    have f109 : ((c : Int) == 109) = false := f 109 (by omega)
    have f76 : ((c : Int) == 76) = false := f 76 (by omega)
    have f108 : ((c : Int) == 108) = false := f 108 (by omega)
    have f84 : ((c : Int) == 84) = false := f 84 (by omega)
    have f116 : ((c : Int) == 116) = false := f 116 (by omega)
    have f72 : ((c : Int) == 72) = false := f 72 (by omega)
    have f104 : ((c : Int) == 104) = false := f 104 (by omega)
    have f86 : ((c : Int) == 86) = false := f 86 (by omega)
    have f118 : ((c : Int) == 118) = false := f 118 (by omega)
    have f67 : ((c : Int) == 67) = false := f 67 (by omega)
    have f99 : ((c : Int) == 99) = false := f 99 (by omega)
    have f83 : ((c : Int) == 83) = false := f 83 (by omega)
    have f115 : ((c : Int) == 115) = false := f 115 (by omega)
    have f81 : ((c : Int) == 81) = false := f 81 (by omega)
    have f113 : ((c : Int) == 113) = false := f 113 (by omega)
    have f65 : ((c : Int) == 65) = false := f 65 (by omega)
    have f97 : ((c : Int) == 97) = false := f 97 (by omega)
    have f90 : ((c : Int) == 90) = false := f 90 (by omega)
    have f122 : ((c : Int) == 122) = false := f 122 (by omega)
    clear f h e
    go_enter Tryd.func17, Tryd.ntmps17
    go_wp2_with fail
    go_ret
    exact ⟨by rw [E.out]; rfl, rfl⟩
end Go.Proofs.YtgiibcnakiggaaaDoor
