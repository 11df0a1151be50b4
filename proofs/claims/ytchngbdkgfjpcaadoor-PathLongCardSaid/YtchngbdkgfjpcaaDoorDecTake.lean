/-
  The contract of package dec's take: digits are added to what is kept.
-/
import Derived.Test.YtchngbdkgfjpcaaDoorDecFn
namespace Go.Proofs.YtchngbdkgfjpcaaDoor
open Go.RowKit Go.Shelf

/-- Block b holds what is kept. -/
def ValAt (b : Nat) (wh kp : Nat) (more great : Bool) (w : World) : Prop := w.heap[b]? = some (.cells #[.int .i64 (wh : Int), .int .i64 (kp : Int), .bool more, .bool great] 136)
theorem ValAt.lt {b wh kp : Nat} {more great : Bool} {w : World} (h : ValAt b wh kp more great w) : b < w.heap.size := (Array.getElem?_eq_some_iff.1 h).1
theorem ValAt.c0 {b wh kp : Nat} {more great : Bool} {w : World} (h : ValAt b wh kp more great w) : w.cell? ⟨b, 0, none⟩ = some (.int .i64 (wh : Int)) := by unfold ValAt at h; simp [World.cell?, h]
theorem ValAt.c1 {b wh kp : Nat} {more great : Bool} {w : World} (h : ValAt b wh kp more great w) : w.cell? ⟨b, 1, none⟩ = some (.int .i64 (kp : Int)) := by unfold ValAt at h; simp [World.cell?, h]
theorem ValAt.c2 {b wh kp : Nat} {more great : Bool} {w : World} (h : ValAt b wh kp more great w) : w.cell? ⟨b, 2, none⟩ = some (.bool more) := by unfold ValAt at h; simp [World.cell?, h]
theorem ValAt.c3 {b wh kp : Nat} {more great : Bool} {w : World} (h : ValAt b wh kp more great w) : w.cell? ⟨b, 3, none⟩ = some (.bool great) := by unfold ValAt at h; simp [World.cell?, h]
theorem ValAt.z {b wh kp : Nat} {more great : Bool} {w : World} (h : ValAt b wh kp more great w) (o : Nat) : w.frozen? ⟨b, o, none⟩ = false := by unfold ValAt at h; simp [World.frozen?, h]
theorem val_put {b : Nat} {c : Array Value} {t : TypeId} {w : World} (o : Nat) (v : Value) (H : w.heap[b]? = some (.cells c t)) : (w.setCell ⟨b, o, none⟩ v).heap[b]? = some (.cells (c.setIfInBounds o v) t) := by
  simp only [World.setCell, Array.getElem?_modify, H]
  simp
theorem ValAt.drew {b wh kp : Nat} {more great : Bool} {w : World} (h : ValAt b wh kp more great w) (n : Nat) : ValAt b wh kp more great (w.drewN n) := h
theorem ValAt.s0 {b wh kp : Nat} {more great : Bool} {w : World} (h : ValAt b wh kp more great w) (x : Nat) : ValAt b x kp more great (w.setCell ⟨b, 0, none⟩ (.int .i64 (x : Int))) := val_put 0 _ h
theorem ValAt.s1 {b wh kp : Nat} {more great : Bool} {w : World} (h : ValAt b wh kp more great w) (x : Nat) : ValAt b wh x more great (w.setCell ⟨b, 1, none⟩ (.int .i64 (x : Int))) := val_put 1 _ h
theorem ValAt.s2 {b wh kp : Nat} {more great : Bool} {w : World} (h : ValAt b wh kp more great w) (x : Bool) : ValAt b wh kp x great (w.setCell ⟨b, 2, none⟩ (.bool x)) := val_put 2 _ h
theorem ValAt.s3 {b wh kp : Nat} {more great : Bool} {w : World} (h : ValAt b wh kp more great w) (x : Bool) : ValAt b wh kp more x (w.setCell ⟨b, 3, none⟩ (.bool x)) := val_put 3 _ h

/-- What take's loop keeps. -/
def TakeInv (ds : ByteArray) (N : Nat) (above : Int) (b : Nat) (w : World) (i : Value) (wr : World) : Prop :=
  ∃ (k wh kp : Nat) (more great : Bool), k ≤ ds.size ∧ i = .int .i64 (k : Int) ∧ ValAt b wh kp more great wr ∧ Below b w wr ∧ Kept (N * 10 ^ k + nat10 (ds.data.toList.take k)) (above - k + 17) wh kp more great
def TakePost (ds : ByteArray) (N : Nat) (above : Int) (b : Nat) (w : World) (e : Ending) (w' : World) : Prop :=
  e = .returned (.tuple #[]) ∧ ∃ (wh kp : Nat) (more great : Bool), ValAt b wh kp more great w' ∧ Below b w w' ∧ Kept (N * 10 ^ ds.size + nat10 ds.data.toList) (above - ds.size + 17) wh kp more great

theorem take_snocB (s : ByteArray) (k : Nat) (h : k < s.size) : s.data.toList.take (k + 1) = s.data.toList.take k ++ [s[k]] := by
  rw [List.take_succ_eq_append_getElem (by simpa using h)]; rfl
theorem take_num (ds : ByteArray) (N k : Nat) (h : k < ds.size) : N * 10 ^ (k + 1) + nat10 (ds.data.toList.take (k + 1)) = 10 * (N * 10 ^ k + nat10 (ds.data.toList.take k)) + dv ds[k] := by
  rw [take_snocB ds k h, nat10_snoc, Nat.pow_succ]; grind

theorem below_set (b o : Nat) (v : Value) (w : World) : Below b w (w.setCell ⟨b, o, none⟩ v) := by
  refine Below.setCell (Below.refl b w) ?_ _
  exact Nat.le_refl _
theorem below_drew {b : Nat} {w w' : World} (h : Below b w w') : Below b w w'.drew := ⟨h.os, h.tape, h.output, h.size, h.block⟩
theorem ValAt.drew1 {b wh kp : Nat} {more great : Bool} {w : World} (h : ValAt b wh kp more great w) : ValAt b wh kp more great w.drew := h
theorem ValAt.t0 {b wh kp : Nat} {more great : Bool} {w : World} (h : ValAt b wh kp more great w) (x : Nat) (v : Int) (hv : v = (x : Int)) : ValAt b x kp more great (w.setCell ⟨b, 0, none⟩ (.int .i64 v)).drew := by subst hv; exact h.s0 x
theorem ValAt.t1 {b wh kp : Nat} {more great : Bool} {w : World} (h : ValAt b wh kp more great w) (x : Nat) (v : Int) (hv : v = (x : Int)) : ValAt b wh x more great (w.setCell ⟨b, 1, none⟩ (.int .i64 v)).drew := by subst hv; exact h.s1 x
theorem Kept.nought {N : Nat} {e : Int} {wh kp : Nat} {more great : Bool} (h : Kept N e wh kp more great) : Kept (10 * N + 0) (e - 1) wh kp more great := by
  by_cases a : e ≤ 0
  · simpa using h.low 0 (by decide) a
  · by_cases b : 23 ≤ e
    · simpa using h.high 0 b
    · by_cases c : 18 ≤ e
      · simpa using h.whole 0 (by decide) (e - 18).toNat (by omega) (by omega)
      · simpa using h.frac 0 (by decide) (e - 1).toNat (by omega) (by omega)
theorem take_next {ds : ByteArray} {N : Nat} {above : Int} {b k wh kp : Nat} {more great : Bool} {w wr w1 : World} (hlt : k < ds.size) (hb : Below b w wr) (hb' : Below b wr w1) (hv : ValAt b wh kp more great w1)
    (hK : Kept (10 * (N * 10 ^ k + nat10 (ds.data.toList.take k)) + dv ds[k]) (above - k + 17 - 1) wh kp more great) : TakeInv ds N above b w (.int .i64 ((k : Int) + 1)) w1 :=
  ⟨k + 1, wh, kp, more, great, hlt, by go_num, hv, hb.trans hb', by rw [take_num ds N k hlt, show above - ((k + 1 : Nat) : Int) + 17 = above - k + 17 - 1 from by omega]; exact hK⟩

set_option maxHeartbeats 4000000 in
theorem take_any (ds : ByteArray) (N : Nat) (above : Int) (b wh kp : Nat) (more great : Bool) (w : World) (hs : ds.size ≤ 100000) (hd : AllDig ds.data.toList) (a0 : -100000000000000000 ≤ above) (a1 : above ≤ 100000000000000000)
    (hv : ValAt b wh kp more great w) (hk : Kept N (above + 17) wh kp more great) :
    Calls Tryd.prog 98 #[.pointer (some ⟨b, 0, none⟩), .string ds, .int .i64 above] w (TakePost ds N above b w) := by
  have HD := Lib.hid hd
  have HV := Lib.hid hv
  have HK := Lib.hid hk
  clear hd hv hk
  go_enter Tryd.func98, Tryd.ntmps98
  go_wp2_with fail
  go_loopw [11] (fun i wr => TakeInv ds N above b w i wr) (fun i _ => ds.size - (intOf i).toNat)
  case atStart => exact ⟨0, wh, kp, more, great, by omega, rfl, HV.out, Below.refl _ _, by have := HK.out; simpa [nat10] using this⟩
  case round =>
    clear HV HK
    obtain ⟨k, wh, kp, more, great, hk, rfl, hv, hb, hK⟩ := hrel
    have HV := Lib.hid hv
    have HB := Lib.hid hb
    have HK := Lib.hid hK
    clear hb hK
    by_cases hlt : k < ds.size
    · have g := dig_bd (dig_get hlt HD.out)
      have g1 : (48 : Int) ≤ (ds[k].toNat : Int) := by omega
      have g2 : (ds[k].toNat : Int) ≤ 57 := by omega
      have HG := Lib.hid (show (dv ds[k] : Int) = (ds[k].toNat : Int) - 48 by unfold dv; omega)
      have z := hv.z
      have c0 := hv.c0; have c1 := hv.c1; have c2 := hv.c2; have c3 := hv.c3
      clear g hv
      by_cases d0 : (ds[k].toNat : Int) = 48
      · go_wp2_with fail
        go_roundw
        case rel => exact take_next hlt HB.out (Below.refl _ _) HV.out (by rw [show dv ds[k] = 0 from by have := HG.out; omega]; exact HK.out.nought)
        case measure => simp [intOf]; omega
      · have t0 : ((ds[k].toNat : Int) - 48 == 0) = false := by rw [beq_eq_false_iff_ne]; omega
        have DN := Lib.hid (show dv ds[k] ≠ 0 ∧ dv ds[k] < 10 by have := HG.out; omega)
        by_cases p5 : 5 ≤ above - 1 - (k : Int)
        · go_wp2_with fail
          go_roundw
          case rel => exact take_next hlt HB.out (below_set _ _ _ _) (HV.out.s3 true) (by have := HK.out.high (dv ds[k]) (by omega); rwa [decide_eq_true DN.out.1, Bool.or_true] at this)
          case measure => simp [intOf]; omega
        · by_cases p0 : 0 ≤ above - 1 - (k : Int)
          · obtain ⟨E, hE⟩ : ∃ E : Nat, above - 1 - (k : Int) = (E : Int) := ⟨(above - 1 - (k : Int)).toNat, by omega⟩
            have hE5 : E < 5 := by omega
            have HK2 := Lib.hid (HK.out.whole (dv ds[k]) DN.out.2 E (by omega) hE5)
            have T := Lib.hid (fun w => tenTo_any E w (by omega))
            have hw := HK2.out.hw
            have eD : ((ds[k].toNat : Int) - 48) * (p10 E : Int) = ((dv ds[k] * 10 ^ E : Nat) : Int) := by rw [← HG.out, Int.natCast_mul]; rfl
            generalize dv ds[k] * 10 ^ E = D at *
            have m1 : IntKind.i64.wrap (((ds[k].toNat : Int) - 48) * (p10 E : Int)) = (D : Int) := by rw [eD]; exact IntWalk.i64_in _ (by omega)
            have m2 : IntKind.i64.wrap ((wh : Int) + (D : Int)) = ((wh + D : Nat) : Int) := by rw [IntWalk.i64_in _ (by omega)]; omega
            have z0 := z 0
            clear p0 p5 eD hw z
            go_wp2_with fail
            go_region_with (first | (go_at_call 107; refine (T.out _).mono ?_; rintro e w' ⟨rfl, rfl⟩))
            all_goals
              go_wp2_with fail
              go_roundw
              case rel => exact take_next hlt HB.out (below_drew (below_set _ _ _ _)) (HV.out.t0 (wh + D) _ (by omega)) HK2.out
              case measure => simp [intOf]; omega
          · by_cases p17 : -17 ≤ above - 1 - (k : Int)
            · obtain ⟨E, hE⟩ : ∃ E : Nat, above - 1 - (k : Int) = (E : Int) - 17 := ⟨(above - 1 - (k : Int) + 17).toNat, by omega⟩
              have hE5 : E < 17 := by omega
              have HK2 := Lib.hid (HK.out.frac (dv ds[k]) DN.out.2 E (by omega) hE5)
              have T := Lib.hid (fun w => tenTo_any E w (by omega))
              have hw := HK2.out.hk
              have eD : ((ds[k].toNat : Int) - 48) * (p10 E : Int) = ((dv ds[k] * 10 ^ E : Nat) : Int) := by rw [← HG.out, Int.natCast_mul]; rfl
              generalize dv ds[k] * 10 ^ E = D at *
              have m1 : IntKind.i64.wrap (((ds[k].toNat : Int) - 48) * (p10 E : Int)) = (D : Int) := by rw [eD]; exact IntWalk.i64_in _ (by omega)
              have m2 : IntKind.i64.wrap ((kp : Int) + (D : Int)) = ((kp + D : Nat) : Int) := by rw [IntWalk.i64_in _ (by omega)]; omega
              have m3 : IntKind.i64.wrap (E : Int) = (E : Int) := by rw [IntWalk.i64_in _ (by omega)]
              have z1 := z 1
              clear p0 p5 p17 eD hw z
              go_wp2_with fail
              go_region_with (first | (go_at_call 107; refine (T.out _).mono ?_; rintro e w' ⟨rfl, rfl⟩))
              all_goals
                go_wp2_with fail
                go_roundw
                case rel => exact take_next hlt HB.out (below_drew (below_set _ _ _ _)) (HV.out.t1 (kp + D) _ (by omega)) HK2.out
                case measure => simp [intOf]; omega
            · go_wp2_with fail
              go_roundw
              case rel => exact take_next hlt HB.out (below_set _ _ _ _) (HV.out.s2 true) (by have := HK.out.low (dv ds[k]) DN.out.2 (by omega); rwa [decide_eq_true DN.out.1, Bool.or_true] at this)
              case measure => simp [intOf]; omega
    · have HF := Lib.hid (show TakePost ds N above b w (.returned (.tuple #[])) wr from ⟨rfl, wh, kp, more, great, hv, HB.out, by have := HK.out; rw [show k = ds.size from by omega, List.take_of_length_le (by simp)] at this; exact this⟩)
      go_wp2_with fail
      go_end0
      exact HF.out
end Go.Proofs.YtchngbdkgfjpcaaDoor
