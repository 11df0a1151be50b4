/- Joined: DecTake, DecList, DecParse, DecNearest, DecFar, ScanGap. -/
import Derived.Test.YtbjabclgekkpaaaGreatDoorQOM09
import Derived.Defers
import Derived.Lib.IndexAny
import Derived.Lib.IndexMore
import Derived.Lib.SlTrimSet
import Derived.Lib.Strings
namespace Go.Proofs.YtbjabclgekkpaaaGreatDoor
open Go.RowKit Go.Shelf
/-- Block b holds what is kept. -/
def ValAt (b : Nat) (wh kp : Nat) (more great : Bool) (w : World) : Prop := w.heap[b]? = some (.cells #[.int .i64 (wh : Int), .int .i64 (kp : Int), .bool more, .bool great] 296)
theorem ValAt.lt {b wh kp : Nat} {more great : Bool} {w : World} (h : ValAt b wh kp more great w) : b < w.heap.size := (Array.getElem?_eq_some_iff.1 h).1
theorem ValAt.c0 {b wh kp : Nat} {more great : Bool} {w : World} (h : ValAt b wh kp more great w) : w.cell? ⟨b, 0, none⟩ = some (.int .i64 (wh : Int)) := by unfold ValAt at h; simp [World.cell?, h]
theorem ValAt.c1 {b wh kp : Nat} {more great : Bool} {w : World} (h : ValAt b wh kp more great w) : w.cell? ⟨b, 1, none⟩ = some (.int .i64 (kp : Int)) := by unfold ValAt at h; simp [World.cell?, h]
theorem ValAt.c2 {b wh kp : Nat} {more great : Bool} {w : World} (h : ValAt b wh kp more great w) : w.cell? ⟨b, 2, none⟩ = some (.bool more) := by unfold ValAt at h; simp [World.cell?, h]
theorem ValAt.c3 {b wh kp : Nat} {more great : Bool} {w : World} (h : ValAt b wh kp more great w) : w.cell? ⟨b, 3, none⟩ = some (.bool great) := by unfold ValAt at h; simp [World.cell?, h]
theorem ValAt.z {b wh kp : Nat} {more great : Bool} {w : World} (h : ValAt b wh kp more great w) (o : Nat) : w.frozen? ⟨b, o, none⟩ = false := by unfold ValAt at h; simp [World.frozen?, h]
theorem val_put {b : Nat} {c : Array Value} {t : TypeId} {w : World} (o : Nat) (v : Value) (H : w.heap[b]? = some (.cells c t)) : (w.setCell ⟨b, o, none⟩ v).heap[b]? = some (.cells (c.setIfInBounds o v) t) := by
  simp only [World.setCell, Array.getElem?_modify, H]
  simp
theorem ValAt.s0 {b wh kp : Nat} {more great : Bool} {w : World} (h : ValAt b wh kp more great w) (x : Nat) : ValAt b x kp more great (w.setCell ⟨b, 0, none⟩ (.int .i64 (x : Int))) := val_put 0 _ h
theorem ValAt.s1 {b wh kp : Nat} {more great : Bool} {w : World} (h : ValAt b wh kp more great w) (x : Nat) : ValAt b wh x more great (w.setCell ⟨b, 1, none⟩ (.int .i64 (x : Int))) := val_put 1 _ h
theorem ValAt.s2 {b wh kp : Nat} {more great : Bool} {w : World} (h : ValAt b wh kp more great w) (x : Bool) : ValAt b wh kp x great (w.setCell ⟨b, 2, none⟩ (.bool x)) := val_put 2 _ h
theorem ValAt.s3 {b wh kp : Nat} {more great : Bool} {w : World} (h : ValAt b wh kp more great w) (x : Bool) : ValAt b wh kp more x (w.setCell ⟨b, 3, none⟩ (.bool x)) := val_put 3 _ h
/-- What take's loop keeps. -/
def TakeInv (ds : ByteArray) (N : Nat) (above : Int) (b : Nat) (w : World) (i : Value) (wr : World) : Prop :=
  ∃ (k wh kp : Nat) (more great : Bool), k ≤ ds.size ∧ i = .int .i64 (k : Int) ∧ ValAt b wh kp more great wr ∧ Below b w wr ∧ Kept (N * 10 ^ k + nat10 (ds.data.toList.take k)) (above - k + 17) wh kp more great
def TakePost (ds : ByteArray) (N : Nat) (above : Int) (b : Nat) (w : World) (e : Ending) (w' : World) : Prop :=
  e = .returned (.tuple #[]) ∧ ∃ (wh kp : Nat) (more great : Bool), ValAt b wh kp more great w' ∧ Below b w w' ∧ Kept (N * 10 ^ ds.size + nat10 ds.data.toList) (above - ds.size + 17) wh kp more great
theorem take_snocB (s : ByteArray) (k : Nat) (h : k < s.size) : s.data.toList.take (k + 1) = s.data.toList.take k ++ [s[k]] := by
  rw [List.take_succ_eq_append_getElem (by simpa using h)]; rfl
theorem take_num (ds : ByteArray) (N k : Nat) (h : k < ds.size) : N * 10 ^ (k + 1) + nat10 (ds.data.toList.take (k + 1)) = 10 * (N * 10 ^ k + nat10 (ds.data.toList.take k)) + dv ds[k] := by
  rw [take_snocB ds k h, nat10_snoc, Nat.pow_succ]; grind
theorem below_set (b o : Nat) (v : Value) (w : World) : Below b w (w.setCell ⟨b, o, none⟩ v) := by
  refine Below.setCell (Below.refl b w) ?_ _
  exact Nat.le_refl _
theorem below_drew {b : Nat} {w w' : World} (h : Below b w w') : Below b w w'.drew := ⟨h.os, h.tape, h.output, h.size, h.block⟩
theorem ValAt.t0 {b wh kp : Nat} {more great : Bool} {w : World} (h : ValAt b wh kp more great w) (x : Nat) (v : Int) (hv : v = (x : Int)) : ValAt b x kp more great (w.setCell ⟨b, 0, none⟩ (.int .i64 v)).drew := by subst hv; exact h.s0 x
theorem ValAt.t1 {b wh kp : Nat} {more great : Bool} {w : World} (h : ValAt b wh kp more great w) (x : Nat) (v : Int) (hv : v = (x : Int)) : ValAt b wh x more great (w.setCell ⟨b, 1, none⟩ (.int .i64 v)).drew := by subst hv; exact h.s1 x
theorem Kept.nought {N : Nat} {e : Int} {wh kp : Nat} {more great : Bool} (h : Kept N e wh kp more great) : Kept (10 * N + 0) (e - 1) wh kp more great := by
  by_cases a : e ≤ 0
  · simpa using h.low 0 (by decide) a
  · by_cases b : 23 ≤ e
    · simpa using h.high 0 b
    · by_cases c : 18 ≤ e
      · simpa using h.whole 0 (by decide) (e - 18).toNat (by omega) (by omega)
      · simpa using h.frac 0 (by decide) (e - 1).toNat (by omega) (by omega)
theorem take_next {ds : ByteArray} {N : Nat} {above : Int} {b k wh kp : Nat} {more great : Bool} {w wr w1 : World} (hlt : k < ds.size) (hb : Below b w wr) (hb' : Below b wr w1) (hv : ValAt b wh kp more great w1)
    (hK : Kept (10 * (N * 10 ^ k + nat10 (ds.data.toList.take k)) + dv ds[k]) (above - k + 17 - 1) wh kp more great) : TakeInv ds N above b w (.int .i64 ((k : Int) + 1)) w1 :=
  ⟨k + 1, wh, kp, more, great, hlt, by go_num, hv, hb.trans hb', by rw [take_num ds N k hlt, show above - ((k + 1 : Nat) : Int) + 17 = above - k + 17 - 1 from by omega]; exact hK⟩
set_option maxHeartbeats 4000000 in
theorem take_any (ds : ByteArray) (N : Nat) (above : Int) (b wh kp : Nat) (more great : Bool) (w : World) (hs : ds.size ≤ 100000) (hd : AllDig ds.data.toList) (a0 : -100000000000000000 ≤ above) (a1 : above ≤ 100000000000000000)
    (hv : ValAt b wh kp more great w) (hk : Kept N (above + 17) wh kp more great) :
    Calls Tryz.prog 243 #[.pointer (some ⟨b, 0, none⟩), .string ds, .int .i64 above] w (TakePost ds N above b w) := by
  have HD := Lib.hid hd
  have HV := Lib.hid hv
  have HK := Lib.hid hk
  clear hd hv hk
  go_enter Tryz.func243, Tryz.ntmps243
  go_wp2_with fail
  go_loopw [11] (fun i wr => TakeInv ds N above b w i wr) (fun i _ => ds.size - (intOf i).toNat)
  case atStart => exact ⟨0, wh, kp, more, great, by omega, rfl, HV.out, Below.refl _ _, by have := HK.out; simpa [nat10] using this⟩
  case round =>
    clear HV HK
    obtain ⟨k, wh, kp, more, great, hk, rfl, hv, hb, hK⟩ := hrel
    have HV := Lib.hid hv
    have HB := Lib.hid hb
    have HK := Lib.hid hK
    clear hb hK
    by_cases hlt : k < ds.size
    · have g := dig_bd (dig_get hlt HD.out)
      have g1 : (48 : Int) ≤ (ds[k].toNat : Int) := by omega
      have g2 : (ds[k].toNat : Int) ≤ 57 := by omega
      have HG := Lib.hid (show (dv ds[k] : Int) = (ds[k].toNat : Int) - 48 by unfold dv; omega)
      have z := hv.z
      have c0 := hv.c0; have c1 := hv.c1; have c2 := hv.c2; have c3 := hv.c3
      clear g hv
      by_cases d0 : (ds[k].toNat : Int) = 48
      · go_wp2_with fail
        go_roundw
        case rel => exact take_next hlt HB.out (Below.refl _ _) HV.out (by rw [show dv ds[k] = 0 from by have := HG.out; omega]; exact HK.out.nought)
        case measure => simp [intOf]; omega
      · have t0 : ((ds[k].toNat : Int) - 48 == 0) = false := by rw [beq_eq_false_iff_ne]; omega
        have DN := Lib.hid (show dv ds[k] ≠ 0 ∧ dv ds[k] < 10 by have := HG.out; omega)
        by_cases p5 : 5 ≤ above - 1 - (k : Int)
        · go_wp2_with fail
          go_roundw
          case rel => exact take_next hlt HB.out (below_set _ _ _ _) (HV.out.s3 true) (by have := HK.out.high (dv ds[k]) (by omega); rwa [decide_eq_true DN.out.1, Bool.or_true] at this)
          case measure => simp [intOf]; omega
        · by_cases p0 : 0 ≤ above - 1 - (k : Int)
          · obtain ⟨E, hE⟩ : ∃ E : Nat, above - 1 - (k : Int) = (E : Int) := ⟨(above - 1 - (k : Int)).toNat, by omega⟩
            have hE5 : E < 5 := by omega
            have HK2 := Lib.hid (HK.out.whole (dv ds[k]) DN.out.2 E (by omega) hE5)
            have T := Lib.hid (fun w => tenTo_any E w (by omega))
            have hw := HK2.out.hw
            have eD : ((ds[k].toNat : Int) - 48) * (p10 E : Int) = ((dv ds[k] * 10 ^ E : Nat) : Int) := by rw [← HG.out, Int.natCast_mul]; rfl
            generalize dv ds[k] * 10 ^ E = D at *
            have m1 : IntKind.i64.wrap (((ds[k].toNat : Int) - 48) * (p10 E : Int)) = (D : Int) := by rw [eD]; exact IntWalk.i64_in _ (by omega)
            have m2 : IntKind.i64.wrap ((wh : Int) + (D : Int)) = ((wh + D : Nat) : Int) := by rw [IntWalk.i64_in _ (by omega)]; omega
            have z0 := z 0
            clear p0 p5 eD hw z
            go_wp2_with fail
            go_region_with (first | (go_at_call 259; refine (T.out _).mono ?_; rintro e w' ⟨rfl, rfl⟩))
            all_goals
              go_wp2_with fail
              go_roundw
              case rel => exact take_next hlt HB.out (below_drew (below_set _ _ _ _)) (HV.out.t0 (wh + D) _ (by omega)) HK2.out
              case measure => simp [intOf]; omega
          · by_cases p17 : -17 ≤ above - 1 - (k : Int)
            · obtain ⟨E, hE⟩ : ∃ E : Nat, above - 1 - (k : Int) = (E : Int) - 17 := ⟨(above - 1 - (k : Int) + 17).toNat, by omega⟩
              have hE5 : E < 17 := by omega
              have HK2 := Lib.hid (HK.out.frac (dv ds[k]) DN.out.2 E (by omega) hE5)
              have T := Lib.hid (fun w => tenTo_any E w (by omega))
              have hw := HK2.out.hk
              have eD : ((ds[k].toNat : Int) - 48) * (p10 E : Int) = ((dv ds[k] * 10 ^ E : Nat) : Int) := by rw [← HG.out, Int.natCast_mul]; rfl
              generalize dv ds[k] * 10 ^ E = D at *
              have m1 : IntKind.i64.wrap (((ds[k].toNat : Int) - 48) * (p10 E : Int)) = (D : Int) := by rw [eD]; exact IntWalk.i64_in _ (by omega)
              have m2 : IntKind.i64.wrap ((kp : Int) + (D : Int)) = ((kp + D : Nat) : Int) := by rw [IntWalk.i64_in _ (by omega)]; omega
              have m3 : IntKind.i64.wrap (E : Int) = (E : Int) := by rw [IntWalk.i64_in _ (by omega)]
              have z1 := z 1
              clear p0 p5 p17 eD hw z
              go_wp2_with fail
              go_region_with (first | (go_at_call 259; refine (T.out _).mono ?_; rintro e w' ⟨rfl, rfl⟩))
              all_goals
                go_wp2_with fail
                go_roundw
                case rel => exact take_next hlt HB.out (below_drew (below_set _ _ _ _)) (HV.out.t1 (kp + D) _ (by omega)) HK2.out
                case measure => simp [intOf]; omega
            · go_wp2_with fail
              go_roundw
              case rel => exact take_next hlt HB.out (below_set _ _ _ _) (HV.out.s2 true) (by have := HK.out.low (dv ds[k]) DN.out.2 (by omega); rwa [decide_eq_true DN.out.1, Bool.or_true] at this)
              case measure => simp [intOf]; omega
    · have HF := Lib.hid (show TakePost ds N above b w (.returned (.tuple #[])) wr from ⟨rfl, wh, kp, more, great, hv, HB.out, by have := HK.out; rw [show k = ds.size from by omega, List.take_of_length_le (by simp)] at this; exact this⟩)
      go_wp2_with fail
      go_end0
      exact HF.out
end Go.Proofs.YtbjabclgekkpaaaGreatDoor
namespace Go.Proofs.YtbjabclgekkpaaaGreatDoor
open Go
theorem has_let (b : UInt8) : ([101, 69] : List UInt8).contains b = isLet b := by
  rw [Bool.eq_iff_iff]
  simp only [List.contains_cons, List.contains_nil, Bool.or_false, Bool.or_eq_true, beq_iff_eq, isLet]
  exact or_congr ⟨fun h => by rw [h]; rfl, fun h => eq_of_toNat h⟩ ⟨fun h => by rw [h]; rfl, fun h => eq_of_toNat h⟩
theorem has_sgn (b : UInt8) : ([43, 45] : List UInt8).contains b = isSgn b := by
  rw [Bool.eq_iff_iff]
  simp only [List.contains_cons, List.contains_nil, Bool.or_false, Bool.or_eq_true, beq_iff_eq, isSgn]
  exact or_congr ⟨fun h => by rw [h]; rfl, fun h => eq_of_toNat h⟩ ⟨fun h => by rw [h]; rfl, fun h => eq_of_toNat h⟩
theorem indexAny_none (l : List UInt8) (h : ∀ b ∈ l, isLet b = false) : Lib.indexAny l [101, 69] = -1 := by
  induction l with
  | nil => rfl
  | cons b t ih =>
    unfold Lib.indexAny
    rw [has_let, h b (by simp), ih (fun x hx => h x (by simp [hx]))]
    rfl
theorem indexAny_at (m : List UInt8) (c : UInt8) (t : List UInt8) (h : ∀ b ∈ m, isLet b = false) (hc : isLet c = true) : Lib.indexAny (m ++ c :: t) [101, 69] = m.length := by
  induction m with
  | nil => show Lib.indexAny (c :: t) [101, 69] = _
           unfold Lib.indexAny
           rw [has_let, hc]; rfl
  | cons b m ih =>
    show Lib.indexAny (b :: (m ++ c :: t)) [101, 69] = _
    unfold Lib.indexAny
    rw [has_let, h b (by simp), ih (fun x hx => h x (by simp [hx]))]
    have : ((m.length : Int) == -1) = false := by rw [beq_eq_false_iff_ne]; omega
    rw [this]
    simp
theorem index_none (l : List UInt8) (h : AllDig l) : Lib.index l [46] = -1 := by
  induction l with
  | nil => rfl
  | cons b t ih =>
    unfold Lib.index
    have hb : (46 == b) = false := by
      have := (dig_not (h b (by simp))).2.1
      rw [beq_eq_false_iff_ne]
      rintro rfl
      simp [isPt] at this
    rw [ih (fun x hx => h x (by simp [hx]))]
    simp [List.isPrefixOf, hb]
theorem index_at (a b : List UInt8) (h : AllDig a) : Lib.index (a ++ 46 :: b) [46] = a.length := by
  induction a with
  | nil => show Lib.index (46 :: b) [46] = _
           unfold Lib.index; simp [List.isPrefixOf]
  | cons c a ih =>
    show Lib.index (c :: (a ++ 46 :: b)) [46] = _
    unfold Lib.index
    have hb : (46 == c) = false := by
      have := (dig_not (h c (by simp))).2.1
      rw [beq_eq_false_iff_ne]
      rintro rfl
      simp [isPt] at this
    rw [ih (fun x hx => h x (by simp [hx]))]
    have : ((a.length : Int) == -1) = false := by rw [beq_eq_false_iff_ne]; omega
    simp [List.isPrefixOf, hb, this]
theorem cut_pt (a b : List UInt8) (pt : Bool) (ha : AllDig a) (hpt : pt = false → b = []) : Lib.cut (a ++ ptL pt b) [46] = (a, b, pt) := by
  unfold Lib.cut
  cases pt with
  | false =>
    have : ptL false b = [] := rfl
    rw [this, List.append_nil, index_none a ha, hpt rfl]; rfl
  | true =>
    have : ptL true b = 46 :: b := rfl
    rw [this, index_at a b ha, if_pos (by omega)]
    simp
theorem trim_sgn (s body : List UInt8) (hs : SgnL s) (hb : headIs isSgn body = false) : Lib.trimLeftS (s ++ body) [43, 45] = body := by
  have e : Lib.trimLeftS body [43, 45] = body := by
    unfold Lib.trimLeftS
    cases body with
    | nil => rfl
    | cons b t => rw [List.dropWhile_cons, has_sgn]; rw [show isSgn b = false from hb]; rfl
  rcases hs with rfl | rfl | rfl
  · exact e
  · show Lib.trimLeftS (43 :: body) [43, 45] = _
    unfold Lib.trimLeftS at e ⊢
    rw [List.dropWhile_cons, if_pos (by decide)]; exact e
  · show Lib.trimLeftS (45 :: body) [43, 45] = _
    unfold Lib.trimLeftS at e ⊢
    rw [List.dropWhile_cons, if_pos (by decide)]; exact e
theorem head_digs {d : List UInt8} (h : AllDig d) : headIs isSgn d = false := by
  cases d with
  | nil => rfl
  | cons b t => exact (dig_not (h b (by simp))).1
theorem head_body {l s a : List UInt8} {pt : Bool} {b : List UInt8} {x : Expo} (h : IsNum l s a pt b x) : headIs isSgn (a ++ ptL pt b) = false := by
  cases a with
  | nil => cases pt <;> rfl
  | cons c t => exact (dig_not (h.ha c (by simp))).1
theorem pre_neg (s body : List UInt8) (hs : SgnL s) (hb : headIs isSgn body = false) : Lib.hasPrefix (s ++ body) [45] = decide (s = [45]) := by
  rcases hs with rfl | rfl | rfl
  · cases body with
    | nil => rfl
    | cons b t =>
      have : (45 == b) = false := by
        rw [beq_eq_false_iff_ne]; rintro rfl
        have hb : isSgn 45 = false := hb
        simp [isSgn] at hb
      simp [Lib.hasPrefix, List.isPrefixOf, this]
  · rfl
  · simp [Lib.hasPrefix, List.isPrefixOf]
/-- No letter ahead of the power. -/
theorem no_let {l s a : List UInt8} {pt : Bool} {b : List UInt8} {x : Expo} (h : IsNum l s a pt b x) : ∀ c ∈ s ++ (a ++ ptL pt b), isLet c = false := by
  intro c hc
  rcases List.mem_append.1 hc with hc | hc
  · rcases h.hsg with rfl | rfl | rfl
    · cases hc
    · rw [List.mem_singleton.1 hc]; rfl
    · rw [List.mem_singleton.1 hc]; rfl
  · rcases List.mem_append.1 hc with hc | hc
    · exact (dig_not (h.ha c hc)).2.2
    · cases pt with
      | false => cases hc
      | true =>
        rcases List.mem_cons.1 hc with rfl | hc
        · rfl
        · exact (dig_not (h.hb c hc)).2.2
theorem num_ascii {l s a : List UInt8} {pt : Bool} {b : List UInt8} {x : Expo} (h : IsNum l s a pt b x) : ∀ c ∈ l, c.toNat < 128 := by
  have dg : ∀ d : List UInt8, AllDig d → ∀ c ∈ d, c.toNat < 128 := fun d hd c hc => by
    have := hd c hc
    simp [isDig] at this
    omega
  have sn : ∀ d : List UInt8, SgnL d → ∀ c ∈ d, c.toNat < 128 := fun d hd c hc => by
    rcases hd with rfl | rfl | rfl
    · cases hc
    · rw [List.mem_singleton.1 hc]; decide
    · rw [List.mem_singleton.1 hc]; decide
  obtain ⟨hsg, ha, hb, hpt, h0, hx, rfl⟩ := h
  intro c hc
  rcases List.mem_append.1 hc with hc | hc
  · exact sn s hsg c hc
  · rcases List.mem_append.1 hc with hc | hc
    · rcases List.mem_append.1 hc with hc | hc
      · exact dg a ha c hc
      · cases pt with
        | false => cases hc
        | true =>
          rcases List.mem_cons.1 hc with rfl | hc
          · decide
          · exact dg b hb c hc
    · cases x with
      | none => cases hc
      | some y =>
        obtain ⟨e, s', d⟩ := y
        obtain ⟨h1, h2, h3, h4⟩ := hx
        rcases List.mem_cons.1 hc with rfl | hc
        · have : c.toNat = 101 ∨ c.toNat = 69 := by simpa [isLet] using h1
          omega
        · rcases List.mem_append.1 hc with hc | hc
          · exact sn s' h2 c hc
          · exact dg d h3 c hc
end Go.Proofs.YtbjabclgekkpaaaGreatDoor
namespace Go.Proofs.YtbjabclgekkpaaaGreatDoor
open Go.RowKit Go.Shelf
def exP : Expo → Int
  | none => 0
  | some (_, s, d) => sg (decide (s = [45])) (powF d 0)
theorem size_list (s : ByteArray) : s.size = s.data.toList.length := by rw [Array.length_toList]; rfl
theorem ba_list (l : List UInt8) : (⟨l.toArray⟩ : ByteArray).data.toList = l := by simp
theorem ba_size (l : List UInt8) : (⟨l.toArray⟩ : ByteArray).size = l.length := by simp [ByteArray.size]
theorem indexAny_any (s : ByteArray) (w : World) (hs : s.size ≤ 100000) (ha : ∀ c ∈ s.data.toList, c.toNat < 128) :
    Calls Tryz.prog 255 #[.string s, .string ⟨#[101, 69]⟩] w fun e w' => e = .returned (.int .i64 (Lib.indexAny s.data.toList [101, 69])) ∧ Below w.heap.size w w' :=
  Any.strings_IndexAny_laid Tryz.lays153 (by kernel_rfl) s ⟨#[101, 69]⟩ w (by omega) (by decide) (fun j b hb => ha b (List.mem_of_getElem? hb)) (ascii_of_all (by decide))
theorem parted_none (s : ByteArray) (sg' a : List UInt8) (pt : Bool) (b : List UInt8) (w : World) (hs : s.size ≤ 100000) (h : IsNum s.data.toList sg' a pt b none) :
    Calls Tryz.prog 241 #[.string s] w fun e w' => e = .returned (.tuple #[.string ⟨(a ++ ptL pt b).toArray⟩, .int .i64 0]) ∧ Below w.heap.size w w' := by
  have A := Lib.hid (indexAny_any s w hs (num_ascii h))
  have et : s.data.toList = sg' ++ (a ++ ptL pt b) := by have := h.text; simpa [expo] using this
  have B := Lib.hid (fun w => unsigned_any s w)
  rw [indexAny_none _ (by rw [et]; exact no_let h)] at A
  rw [et, trim_sgn sg' _ h.hsg (head_body h)] at B
  generalize (⟨(a ++ ptL pt b).toArray⟩ : ByteArray) = m at *
  clear h et
  go_enter Tryz.func241, Tryz.ntmps241
  go_wp2_with fail
  refine A.out.mono ?_
  rintro e w1 ⟨rfl, b1⟩
  have B1 := Lib.hid b1
  clear b1
  go_wp2_with fail
  refine (B.out _).mono ?_
  rintro e w2 ⟨rfl, b2⟩
  go_wp2_with fail
  go_ret2
  exact ⟨rfl, B1.out.trans (b2.mono B1.out.size)⟩
theorem parted_some (s : ByteArray) (sg' a : List UInt8) (pt : Bool) (b : List UInt8) (c : UInt8) (s2 d : List UInt8) (w : World) (hs : s.size ≤ 100000) (h : IsNum s.data.toList sg' a pt b (some (c, s2, d))) :
    Calls Tryz.prog 241 #[.string s] w fun e w' => e = .returned (.tuple #[.string ⟨(a ++ ptL pt b).toArray⟩, .int .i64 (sg (decide (s2 = [45])) (powF d 0))]) ∧ Below w.heap.size w w' := by
  have A := Lib.hid (indexAny_any s w hs (num_ascii h))
  have et : s.data.toList = (sg' ++ (a ++ ptL pt b)) ++ c :: (s2 ++ d) := by have := h.text; simpa [expo] using this
  have hl : (sg' ++ (a ++ ptL pt b)).length < s.size := by
    have e2 := congrArg List.length et
    rw [List.length_append, List.length_cons] at e2
    rw [size_list]; omega
  rw [et, indexAny_at _ _ _ (no_let h) h.hx.1] at A
  have X1 : (s.extract ((sg' ++ (a ++ ptL pt b)).length + 1) s.size).data.toList = s2 ++ d := by
    rw [Lib.extract_data, size_list, et, List.drop_append, List.drop_of_length_le (by omega), List.nil_append, show (sg' ++ (a ++ ptL pt b)).length + 1 - (sg' ++ (a ++ ptL pt b)).length = 1 from by omega]
    refine List.take_of_length_le ?_
    have e2 := congrArg List.length et
    rw [List.length_append, List.length_cons] at e2
    rw [← et, e2]
    simp; omega
  have X2 : (s.extract 0 (sg' ++ (a ++ ptL pt b)).length).data.toList = sg' ++ (a ++ ptL pt b) := by
    rw [Lib.extract_data, et, List.drop_zero, Nat.sub_zero, List.take_left]
  generalize (sg' ++ (a ++ ptL pt b)).length = n at *
  have hd := h.hx.2.2.1
  have P := Lib.hid (fun w => powerOf_any (s.extract (n + 1) s.size) ⟨d.toArray⟩ w (by rw [X1, trim_sgn s2 d h.hx.2.1 (head_digs hd)]) (by
    have e2 := congrArg List.length et
    simp only [List.length_append, List.length_cons] at e2
    rw [ba_size]
    rw [size_list] at hs
    omega) (by rw [ba_list]; exact hd))
  rw [X1, pre_neg s2 d h.hx.2.1 (head_digs hd), ba_list] at P
  have B := Lib.hid (fun w => unsigned_any (s.extract 0 n) w)
  rw [X2, trim_sgn sg' _ h.hsg (head_body h)] at B
  generalize (⟨(a ++ ptL pt b).toArray⟩ : ByteArray) = m at *
  generalize sg (decide (s2 = [45])) (powF d 0) = x at *
  have i0 : (0 : Int) ≤ (n : Int) := by omega
  clear h et X1 X2 hd
  go_enter Tryz.func241, Tryz.ntmps241
  go_wp2_with fail
  refine A.out.mono ?_
  rintro e w1 ⟨rfl, b1⟩
  have B1 := Lib.hid b1
  clear b1
  go_wp2_with fail
  refine (P.out _).mono ?_
  rintro e w2 ⟨rfl, b2⟩
  have B2 := Lib.hid b2
  clear b2
  go_wp2_with fail
  refine (B.out _).mono ?_
  rintro e w3 ⟨rfl, b3⟩
  go_wp2_with fail
  go_ret2
  have s1 := B1.out.size
  have s2 := B2.out.size
  exact ⟨rfl, (B1.out.trans (B2.out.mono s1)).trans (b3.mono (by omega))⟩
theorem parted_any (s : ByteArray) (sg' a : List UInt8) (pt : Bool) (b : List UInt8) (x : Expo) (w : World) (hs : s.size ≤ 100000) (h : IsNum s.data.toList sg' a pt b x) :
    Calls Tryz.prog 241 #[.string s] w fun e w' => e = .returned (.tuple #[.string ⟨(a ++ ptL pt b).toArray⟩, .int .i64 (exP x)]) ∧ Below w.heap.size w w' := by
  cases x with
  | none => exact parted_none s sg' a pt b w hs h
  | some y => obtain ⟨c, s2, d⟩ := y; exact parted_some s sg' a pt b c s2 d w hs h
/-- What is read of other packages' variables: the length at which a search changes its way is some number. -/
def SomeMax (w : World) : Prop := ∃ m : Int, w.cell? ⟨4, 0, none⟩ = some (.int .i64 m)
theorem cut_any (a b : List UInt8) (pt : Bool) (w : World) (ha : AllDig a) (hpt : pt = false → b = []) (hl : (a ++ ptL pt b).length ≤ 100000) (hm : SomeMax w) :
    Calls Tryz.prog 242 #[.string ⟨(a ++ ptL pt b).toArray⟩, .string ⟨#[46]⟩] w fun e w' => e = .returned (.tuple #[.string ⟨a.toArray⟩, .string ⟨b.toArray⟩, .bool pt]) ∧ ∃ n, w' = w.drewN n := by
  obtain ⟨m, hm⟩ := hm
  have C := Any.strings_Cut Tryz.lays145 ⟨(a ++ ptL pt b).toArray⟩ ⟨#[46]⟩ m w (by rw [ba_size]; omega) hm
  rw [ba_list] at C
  rw [cut_pt a b pt ha hpt] at C
  exact C
theorem below_drewq {b : Nat} {w w' : World} (h : Below b w w') (n : Nat) : Below b w (w'.drewN n) := ⟨h.os, h.tape, h.output, h.size, h.block⟩
theorem SomeMax.below {w w' : World} {B : Nat} (h : SomeMax w) (t : Below B w w') (hB : 4 < B) : SomeMax w' := by
  obtain ⟨m, hm⟩ := h
  exact ⟨m, by rw [t.cell (p := ⟨4, 0, none⟩) hB]; exact hm⟩
theorem powF_le (l : List UInt8) : ∀ n : Nat, AllDig l → n ≤ 11258999068426249 → powF l n ≤ 11258999068426249 := by
  induction l with
  | nil => intro n _ h; exact h
  | cons b t ih =>
    intro n hd h
    have := dv_lt (hd b (by simp))
    unfold powF
    split
    · exact ih _ (fun x hx => hd x (by simp [hx])) (by omega)
    · exact h
theorem exP_bd (x : Expo) (h : XOk x) : -11258999068426249 ≤ exP x ∧ exP x ≤ 11258999068426249 := by
  cases x with
  | none => exact ⟨by decide, by decide⟩
  | some y =>
    obtain ⟨c, s, d⟩ := y
    have := powF_le d 0 h.2.2.1 (by decide)
    show -11258999068426249 ≤ sg (decide (s = [45])) (powF d 0) ∧ sg (decide (s = [45])) (powF d 0) ≤ 11258999068426249
    unfold sg
    split <;> omega
/-- What nearest tells. -/
def nearP (neg : Bool) (D : Nat) (p : Int) (e : Ending) : Prop :=
  ∃ n ok, e = .returned (.tuple #[.int .i64 n, .bool ok]) ∧ (if ok then (n, (0 : Int)) else (0, 2)) = ansV (nearV neg D p)
theorem roundV_bd (neg : Bool) (wh kp : Nat) (more : Bool) (h1 : wh < 100000) (h2 : kp < 100000000000000000) : -10000000000000 ≤ roundV neg wh kp more ∧ roundV neg wh kp more ≤ 10000000000000 := by
  have q : kp / 762939453125 ≤ 131072 := Nat.div_le_of_le_mul (by omega)
  unfold roundV halvesN
  generalize kp / 762939453125 = x at *
  cases neg <;> cases restB kp more <;> simp <;> omega
end Go.Proofs.YtbjabclgekkpaaaGreatDoor
namespace Go.Proofs.YtbjabclgekkpaaaGreatDoor
open Go.RowKit Go.Shelf
theorem ValAt.new (w : World) : ValAt w.heap.size 0 0 false false (w.alloc (.cells #[.int .i64 0, .int .i64 0, .bool false, .bool false] 296)) := by
  show (w.heap.push _)[w.heap.size]? = _
  rw [Array.getElem?_push, if_pos rfl]
  rfl
def NearPost (neg : Bool) (D : Nat) (p : Int) (w : World) (e : Ending) (w' : World) : Prop := nearP neg D p e ∧ Below w.heap.size w w'
set_option maxHeartbeats 2000000 in
theorem nearest_any (s : ByteArray) (sg' a : List UInt8) (pt : Bool) (b : List UInt8) (x : Expo) (w : World) (hs : s.size ≤ 100000) (h : IsNum s.data.toList sg' a pt b x) (hm : SomeMax w) (hG : 4 < w.heap.size) :
    Calls Tryz.prog 231 #[.string s] w (NearPost (decide (sg' = [45])) (nat10 (a ++ b)) (exP x - b.length) w) := by
  have len : a.length + b.length ≤ s.size ∧ (a ++ ptL pt b).length ≤ s.size := by
    have e := congrArg List.length h.text
    rw [← size_list] at e
    simp only [List.length_append] at e
    have : b.length ≤ (ptL pt b).length := by
      cases pt with
      | false => rw [h.hpt rfl]; simp
      | true => simp [ptL]
    rw [List.length_append]; omega
  have A := Lib.hid (parted_any s sg' a pt b x w hs h)
  have C := Lib.hid (fun w hm => cut_any a b pt w h.ha h.hpt (by omega) hm)
  have N := Lib.hid (fun w => isNegative_any s w)
  have xb := exP_bd x h.hx
  rw [show Lib.hasPrefix s.data.toList [45] = decide (sg' = [45]) from by
    rw [h.text]
    refine pre_neg _ _ h.hsg ?_
    have := head_body h
    cases e : a ++ ptL pt b with
    | nil => exfalso
             have h0 := h.h0
             have := congrArg List.length e
             simp only [List.length_append, List.length_nil] at this
             cases pt with
             | false => rw [h.hpt rfl] at h0; simp at h0; omega
             | true => simp [ptL] at this
    | cons y t => rw [e] at this; exact this] at N
  have T1 := Lib.hid (fun w bb hv => take_any ⟨a.toArray⟩ 0 (exP x + a.length) bb 0 0 false false w (by rw [ba_size]; omega) (by rw [ba_list]; exact h.ha) (by omega) (by omega) hv (kept_zero _))
  have T2 := Lib.hid (fun w bb wh kp more great hv hk => take_any ⟨b.toArray⟩ (nat10 a) (exP x) bb wh kp more great w (by rw [ba_size]; omega) (by rw [ba_list]; exact h.hb) (by omega) (by omega) hv hk)
  unfold TakePost at T1 T2
  rw [ba_size, ba_list] at T1 T2
  have la := len.1
  have SA := Lib.hid (ba_size a)
  have HM := Lib.hid hm
  generalize decide (sg' = [45]) = neg at *
  generalize (⟨(a ++ ptL pt b).toArray⟩ : ByteArray) = m at *
  have HA := Lib.hid (nat10_append a b)
  generalize exP x = pw at *
  clear h hm len
  go_enter Tryz.func231, Tryz.ntmps231
  go_wp2_with fail
  refine A.out.mono ?_
  rintro e w1 ⟨rfl, b1⟩
  have M1 := Lib.hid (HM.out.below b1 hG)
  have z1 := b1.size
  have B1 := Lib.hid b1
  clear b1
  go_wp2_with fail
  refine (C.out _ M1.out).mono ?_
  rintro e w2 ⟨rfl, q, rfl⟩
  have B2 := Lib.hid (below_drewq B1.out q)
  have z2 : w.heap.size ≤ (w1.drewN q).heap.size := z1
  generalize w1.drewN q = w3 at *
  clear B1 M1 z1
  go_wp2_with fail
  refine (T1.out _ _ (ValAt.new w3)).mono ?_
  rintro e w4 ⟨rfl, wh, kp, more, great, hv, hb4, hk⟩
  rw [Nat.zero_mul, Nat.zero_add, show pw + (a.length : Int) - a.length + 17 = pw + 17 from by omega] at hk
  have B4 := Lib.hid (show Below w.heap.size w w4 from B2.out.trans ((((Below.refl w3.heap.size w3).alloc (Nat.le_refl _) _).trans hb4).mono z2))
  have HV4 := Lib.hid hv
  have HK4 := Lib.hid hk
  clear hv hk hb4 B2
  go_wp2_with fail
  refine (T2.out _ _ _ _ _ _ HV4.out HK4.out).mono ?_
  clear wh kp more great HV4 HK4 T1 T2
  rintro e w5 ⟨rfl, wh, kp, more, great, hv, hb5, hk⟩
  have B5 := Lib.hid (show Below w.heap.size w w5 from B4.out.trans (hb5.mono z2))
  rw [← HA.out, show pw - (b.length : Int) + 17 = (pw - b.length) + 17 from rfl] at hk
  have HV5 := Lib.hid hv
  have HK5 := Lib.hid hk
  have c0 := hv.c0; have c1 := hv.c1; have c2 := hv.c2; have c3 := hv.c3
  clear hv hk hb5 B4
  generalize w3.heap.size = bb at *
  have lb := HV5.out.lt
  cases great
  · have RN := Lib.hid (round_near neg HK5.out)
    have RB := roundV_bd neg wh kp more HK5.out.hw HK5.out.hk
    have R := Lib.hid (fun w => rounded_any wh kp more false neg w HK5.out.hw HK5.out.hk)
    generalize roundV neg wh kp more = n at *
    go_wp2_with fail
    go_region_held3 (fun w' => w'.cell? ⟨bb, 0, none⟩ = some (.int .i64 (wh : Int)) ∧ w'.cell? ⟨bb, 1, none⟩ = some (.int .i64 (kp : Int)) ∧ w'.cell? ⟨bb, 2, none⟩ = some (.bool more) ∧ w'.cell? ⟨bb, 3, none⟩ = some (.bool false)) (simp [go_sem, *])
      (first | (go_at_call 245; refine (N.out _).mono ?_; rintro e w' ⟨rfl, rfl⟩) | (go_at_call 244; refine (R.out _).mono ?_; rintro e w' ⟨rfl, hb6⟩; have e0 := (hb6.cell (p := ⟨bb, 0, none⟩) (by exact lb)).trans (by exact c0); have e1 := (hb6.cell (p := ⟨bb, 1, none⟩) (by exact lb)).trans (by exact c1); have e2 := (hb6.cell (p := ⟨bb, 2, none⟩) (by exact lb)).trans (by exact c2); have e3 := (hb6.cell (p := ⟨bb, 3, none⟩) (by exact lb)).trans (by exact c3)))
    have b5 := B5.out
    have F := Lib.hid (show Below w.heap.size w w' from Below.trans (below_drew b5) (hb6.mono (by exact Nat.le_trans z2 (Nat.le_of_lt lb))))
    clear b5 hb6 e0 e1 e2 e3 c0 c1 c2 c3
    by_cases l1 : -4294967296 < n
    · by_cases l2 : n < 4294967296
      · have AG := Lib.hid (show ansV n = (n, 0) from if_pos ⟨l1, l2⟩)
        rw [RN.out] at AG
        go_wp2_with fail
        go_ret2
        exact ⟨⟨n, true, rfl, by rw [AG.out, RN.out]; rfl⟩, F.out⟩
      · have AG := Lib.hid (show ansV n = (0, 2) from if_neg fun h => l2 h.2)
        rw [RN.out] at AG
        go_wp2_with fail
        go_ret2
        exact ⟨⟨n, false, rfl, by rw [AG.out]; rfl⟩, F.out⟩
    · have AG := Lib.hid (show ansV n = (0, 2) from if_neg fun h => l1 h.1)
      rw [RN.out] at AG
      go_wp2_with fail
      go_ret2
      exact ⟨⟨n, false, rfl, by rw [AG.out]; rfl⟩, F.out⟩
  · have RG := Lib.hid (great_near neg HK5.out)
    go_wp2_with fail
    go_ret2
    exact ⟨⟨0, false, rfl, RG.out.symm⟩, B5.out⟩
/-- Parse's answer, of whatever text. -/
def ParsePost (l : List UInt8) (w : World) (e : Ending) (w' : World) : Prop :=
  (∃ n er : Int, e = .returned (.tuple #[.int .i64 n, .int .i64 er]) ∧ ((¬ Acc l 1 ∧ n = 0 ∧ er = 3) ∨ ∃ s a pt b x, IsNum l s a pt b x ∧ (n, er) = ansV (nearV (decide (s = [45])) (nat10 (a ++ b)) (exP x - b.length)))) ∧ Below w.heap.size w w'
/-- How many package variables there are: they lie ahead of all that calls make. -/
noncomputable def gN : Nat := Tryz.prog.globals.size
theorem gN_max : 4 < gN := of_decide_eq_true (by kernel_rfl)
theorem gN_follows : 5 < gN := of_decide_eq_true (by kernel_rfl)
/-- What Parse asks of memory. -/
structure Tabs (w : World) : Prop where
  follows : Follows w
  max : SomeMax w
  size : gN ≤ w.heap.size
set_option maxHeartbeats 1000000 in
theorem Parse_any (s : ByteArray) (w : World) (hs : s.size ≤ 100000) (T : Tabs w) : Calls Tryz.prog 200 #[.string s] w (ParsePost s.data.toList w) := by
  have A := Lib.hid (Scan_any s 0 true w (by unfold maxLen; omega) (by omega) T.follows)
  simp only [if_true, List.drop_zero, Nat.zero_add] at A
  have le := walk_fst_le s.data.toList 1
  rw [← size_list] at le
  by_cases hA : Acc s.data.toList 1
  · obtain ⟨sg', a, pt, b, x, h⟩ := acc1 _ hA
    have N := Lib.hid (nearest_any s sg' a pt b x w hs h T.max (Nat.lt_of_lt_of_le gN_max T.size))
    unfold NearPost nearP at N
    have HH := Lib.hid h
    rw [show (walkL s.data.toList 1).1 = s.size from by rw [hA.1, size_list], hA.2] at A
    clear hA h le T
    go_enter Tryz.func200, Tryz.ntmps200
    go_wp2_with fail
    refine A.out.mono ?_
    rintro e w1 ⟨rfl, rfl⟩
    go_wp2_with fail
    refine N.out.mono ?_
    rintro e w2 ⟨⟨n, ok, rfl, he⟩, b2⟩
    have HE := Lib.hid he
    clear he
    cases ok
    · go_wp2_with fail
      go_ret2
      exact ⟨⟨0, 2, rfl, Or.inr ⟨sg', a, pt, b, x, HH.out, HE.out⟩⟩, b2⟩
    · go_wp2_with fail
      go_ret2
      exact ⟨⟨n, 0, rfl, Or.inr ⟨sg', a, pt, b, x, HH.out, HE.out⟩⟩, b2⟩
  · have HA := Lib.hid hA
    unfold Acc at hA
    rw [← size_list] at hA
    generalize (walkL s.data.toList 1).1 = k at *
    generalize wholeS (walkL s.data.toList 1).2 = ok at *
    clear T
    cases ok
    · clear hA
      go_enter Tryz.func200, Tryz.ntmps200
      go_wp2_with fail
      refine A.out.mono ?_
      rintro e w1 ⟨rfl, rfl⟩
      go_wp2_with fail
      go_ret2
      exact ⟨⟨0, 3, rfl, Or.inl ⟨HA.out, rfl, rfl⟩⟩, Below.refl _ _⟩
    · have hlt : k < s.size := by
        refine Nat.lt_of_le_of_ne le fun e => hA ⟨e, rfl⟩
      clear hA
      go_enter Tryz.func200, Tryz.ntmps200
      go_wp2_with fail
      refine A.out.mono ?_
      rintro e w1 ⟨rfl, rfl⟩
      go_wp2_with fail
      go_ret2
      exact ⟨⟨0, 3, rfl, Or.inl ⟨HA.out, rfl, rfl⟩⟩, Below.refl _ _⟩
end Go.Proofs.YtbjabclgekkpaaaGreatDoor
namespace Go.Proofs.YtbjabclgekkpaaaGreatDoor
open Go.RowKit Go.Shelf
theorem far_up (neg : Bool) (D : Nat) (p : Int) (hp : 5 ≤ p) : ansV (nearV neg D p) = if D = 0 then (0, 0) else (0, 2) := by
  have e : nearV neg D p = sg neg (D * 65536 * 10 ^ p.toNat) := by
    unfold nearV near
    rw [show (-p).toNat = 0 from by omega, Nat.pow_zero]
    simp
  rw [e]
  by_cases h : D = 0
  · subst h
    simp only [if_true, Nat.zero_mul]
    cases neg <;> rfl
  · rw [if_neg h]
    have h5 : 10 ^ 5 ≤ 10 ^ p.toNat := Nat.pow_le_pow_right (by decide) (by omega)
    have : 65536 * 100000 ≤ D * 65536 * 10 ^ p.toNat := Nat.mul_le_mul (by omega) h5
    generalize D * 65536 * 10 ^ p.toNat = v at *
    unfold ansV
    refine if_neg ?_
    cases neg
    · rw [sg_false]; omega
    · rw [sg_true]; omega
theorem far_down (neg : Bool) (D : Nat) (p : Int) (L : Nat) (hD : D < 10 ^ L) (hp : p ≤ -((L + 6 : Nat) : Int)) : ansV (nearV neg D p) = (0, 0) := by
  have e : nearV neg D p = 0 := by
    unfold nearV near
    rw [show p.toNat = 0 from by omega, Nat.pow_zero, Nat.mul_one]
    have hc : 10 ^ (L + 6) ≤ 10 ^ (-p).toNat := Nat.pow_le_pow_right (by decide) (by omega)
    rw [Nat.pow_add] at hc
    generalize 10 ^ (-p).toNat = c at *
    generalize 10 ^ L = K at *
    have h2 : 2 * (D * 65536) < c := by omega
    clear hc hD
    generalize D * 65536 = x at *
    refine Int.ediv_eq_zero_of_lt ?_ ?_
    · cases neg
      · rw [sg_false]; omega
      · rw [sg_true]; omega
    · cases neg
      · rw [sg_false]; omega
      · rw [sg_true]; omega
  rw [e]; rfl
theorem powF_true (l : List UInt8) : ∀ m : Nat, powF l m = m * 10 ^ l.length + nat10 l ∨ (1125899906842624 ≤ powF l m ∧ 1125899906842624 ≤ m * 10 ^ l.length + nat10 l) := by
  induction l with
  | nil => intro m; left; simp [powF, nat10]
  | cons b t ih =>
    intro m
    rw [powF_cons, nat10_cons, List.length_cons, Nat.pow_succ]
    have e : m * (10 ^ t.length * 10) + (dv b * 10 ^ t.length + nat10 t) = (10 * m + dv b) * 10 ^ t.length + nat10 t := by grind
    rw [e]
    by_cases h : m < 1125899906842624
    · rw [if_pos h]; exact ih _
    · rw [if_neg h]
      right
      refine ⟨by omega, ?_⟩
      have : (10 * m + dv b) * 1 ≤ (10 * m + dv b) * 10 ^ t.length := Nat.mul_le_mul_left _ (Nat.pow_pos (by decide))
      omega
theorem ans_pow (neg : Bool) (D L bl : Nat) (x : Expo) (hD : D < 10 ^ L) (hL : L ≤ 100000) (hb : bl ≤ 100000) : ansV (nearV neg D (exP x - bl)) = ansV (nearV neg D (exV x - bl)) := by
  cases x with
  | none => rfl
  | some y =>
    obtain ⟨c, s, d⟩ := y
    show ansV (nearV neg D (sg (decide (s = [45])) (powF d 0) - bl)) = ansV (nearV neg D (sg (decide (s = [45])) (nat10 d) - bl))
    rcases powF_true d 0 with h | ⟨h1, h2⟩
    · rw [h, Nat.zero_mul, Nat.zero_add]
    · rw [Nat.zero_mul, Nat.zero_add] at h2
      generalize powF d 0 = n at *
      generalize nat10 d = m at *
      cases decide (s = [45])
      · rw [sg_false, sg_false, far_up neg D _ (by omega), far_up neg D _ (by omega)]
      · rw [sg_true, sg_true, far_down neg D _ L hD (by omega), far_down neg D _ L hD (by omega)]
/-- Parse, of a number's text: the answer of its value. -/
theorem parse_num {l s a : List UInt8} {pt : Bool} {b : List UInt8} {x : Expo} (h : IsNum l s a pt b x) (hl : l.length ≤ 100000) :
    ansV (nearV (decide (s = [45])) (nat10 (a ++ b)) (exP x - b.length)) = ansF s a b x := by
  have e := congrArg List.length h.text
  simp only [List.length_append] at e
  have : b.length ≤ (ptL pt b).length := by
    cases pt with
    | false => rw [h.hpt rfl]; simp
    | true => simp [ptL]
  have lt := nat10_lt (a ++ b) (fun c hc => by
    rcases List.mem_append.1 hc with hc | hc
    · exact h.ha c hc
    · exact h.hb c hc)
  exact ans_pow _ _ (a ++ b).length b.length x lt (by simp; omega) (by omega)
def Tells (an : Int × Int) (w : World) (e : Ending) (w' : World) : Prop := e = .returned (.tuple #[.int .i64 an.1, .int .i64 an.2]) ∧ Below w.heap.size w w'
set_option maxHeartbeats 1000000 in
theorem Parse_num (s : ByteArray) (sg' a : List UInt8) (pt : Bool) (b : List UInt8) (x : Expo) (w : World) (hs : s.size ≤ 100000) (T : Tabs w) (h : IsNum s.data.toList sg' a pt b x) :
    Calls Tryz.prog 200 #[.string s] w (Tells (ansF sg' a b x) w) := by
  have A := Lib.hid (Scan_any s 0 true w (by unfold maxLen; omega) (by omega) T.follows)
  simp only [if_true, List.drop_zero, Nat.zero_add] at A
  have hA := h.acc
  have N := Lib.hid (nearest_any s sg' a pt b x w hs h T.max (Nat.lt_of_lt_of_le gN_max T.size))
  unfold NearPost nearP at N
  rw [parse_num h (by rw [← size_list]; omega)] at N
  rw [show (walkL s.data.toList 1).1 = s.size from by rw [hA.1, size_list], hA.2] at A
  generalize ansF sg' a b x = an at *
  clear hA h T
  go_enter Tryz.func200, Tryz.ntmps200
  go_wp2_with fail
  refine A.out.mono ?_
  rintro e w1 ⟨rfl, rfl⟩
  go_wp2_with fail
  refine N.out.mono ?_
  rintro e w2 ⟨⟨n, ok, rfl, he⟩, b2⟩
  cases ok
  · obtain rfl : an = (0, 2) := he.symm
    clear he
    go_wp2_with fail
    go_ret2
    exact ⟨rfl, b2⟩
  · obtain rfl : an = (n, 0) := he.symm
    clear he
    go_wp2_with fail
    go_ret2
    exact ⟨rfl, b2⟩
theorem Parse_bad (s : ByteArray) (w : World) (hs : s.size ≤ 100000) (T : Tabs w) (h : ¬ Acc s.data.toList 1) :
    Calls Tryz.prog 200 #[.string s] w (Tells (0, 3) w) := by
  refine (Parse_any s w hs T).mono ?_
  rintro e w' ⟨⟨n, er, rfl, hh⟩, hb⟩
  rcases hh with ⟨_, rfl, rfl⟩ | ⟨_, _, _, _, _, hn, _⟩
  · exact ⟨rfl, hb⟩
  · exact absurd hn.acc h
theorem Follows.below {w w' : World} {B : Nat} (h : Follows w) (t : Below B w w') (hB : 5 < B) : Follows w' := fun st k h1 h2 => by
  rw [t.cell (p := ⟨5, st * 4 + k, none⟩) hB]; exact h st k h1 h2
theorem Tabs.below {w w' : World} {B : Nat} (h : Tabs w) (t : Below B w w') (hB : gN ≤ B) (hw : w.heap.size ≤ w'.heap.size) : Tabs w' :=
  ⟨h.follows.below t (Nat.lt_of_lt_of_le gN_follows hB), h.max.below t (Nat.lt_of_lt_of_le gN_max hB), by have := h.size; omega⟩
theorem Tabs.next {w w' : World} (h : Tabs w) (t : Below w.heap.size w w') : Tabs w' := h.below t h.size t.size
end Go.Proofs.YtbjabclgekkpaaaGreatDoor
namespace Go.Proofs.YtbjabclgekkpaaaGreatDoor
open Go.RowKit Go.Shelf
theorem gN_blank : 0 < gN := of_decide_eq_true (by kernel_rfl)
theorem Blks.below {w w' : World} {B : Nat} (h : Blks w) (t : Below B w w') (hB : gN ≤ B) : Blks w' := fun i hi => by
  rw [t.cell (p := ⟨0, i, none⟩) (Nat.lt_of_lt_of_le gN_blank hB)]; exact h i hi
theorem Blks.turned {w w' : World} {b : Nat} (h : Blks w) (t : Turned b w w') (hb : gN ≤ b) (hw : gN ≤ w.heap.size) : Blks w' := h.below (t.below hb hw) (Nat.le_refl _)
/-- The place of a reader, off memory. -/
def plc (b : Nat) (w : World) : Nat := match w.cell? ⟨b, 1, none⟩ with
  | some (.int _ n) => n.toNat
  | _ => 0
theorem Rdr.plc {b : Nat} {s : ByteArray} {k : Nat} {w : World} (H : Rdr b s k w) : plc b w = k := by
  unfold Go.Proofs.YtbjabclgekkpaaaGreatDoor.plc; rw [H.c1]; simp
theorem headBl (s : ByteArray) (k : Nat) : headIs isBl (s.data.toList.drop k) = (decide (k < s.size) && isBlN (pk s k)) := by
  by_cases h : k < s.size
  · rw [drop_cons s k h, pk_in h, decide_eq_true h]; rfl
  · rw [List.drop_of_length_le (by simp; exact Nat.le_of_not_lt h), decide_eq_false h]; rfl
theorem headCm (s : ByteArray) (k : Nat) : headIs isCm (s.data.toList.drop k) = (decide (k < s.size) && pk s k == 44) := by
  by_cases h : k < s.size
  · rw [drop_cons s k h, pk_in h, decide_eq_true h]; rfl
  · rw [List.drop_of_length_le (by simp; exact Nat.le_of_not_lt h), decide_eq_false h]; rfl
def BlInv (b : Nat) (s : ByteArray) (a : Nat) (w : World) (s4 s5 : Value) (wr : World) : Prop :=
  ∃ k : Nat, a ≤ k ∧ k ≤ s.size ∧ s4 = .int .u8 (pk s k : Int) ∧ s5 = .bool (decide (k < s.size)) ∧ Rdr b s k wr ∧ Turned b w wr ∧ Hid (a + blk (s.data.toList.drop a) = k + blk (s.data.toList.drop k))
theorem Blanks_any (b : Nat) (s : ByteArray) (a : Nat) (w : World) (H : Rdr b s a w) (hs : s.size ≤ maxLen) (ha : a ≤ s.size) (T : Blks w) (hb : gN ≤ b) :
    Calls Tryz.prog 84 #[.pointer (some ⟨b, 0, none⟩)] w fun e w' => e = .returned (.int .i64 (blk (s.data.toList.drop a) : Int)) ∧ Turned b w w' ∧ Rdr b s (a + blk (s.data.toList.drop a)) w' := by
  have P := Lib.hid (fun k w H hk => Peek_any b s k w H hs hk)
  unfold PeekPost at P
  have BL := Lib.hid (fun k w (T : Blks w) => blank_any (pk s k) w (pk_lt s k) T)
  have hs' : s.size ≤ 9223372036854775807 := hs
  have HT := Lib.hid T
  have HR := Lib.hid H
  have c1 := H.c1
  have hw : gN ≤ w.heap.size := by have := H.lt; omega
  clear T H hs
  go_enter Tryz.func84, Tryz.ntmps84
  go_wp2_with fail
  refine (P.out a _ HR.out ha).mono ?_
  rintro e w1 ⟨rfl, b1, R1⟩
  have HR1 := Lib.hid R1
  have B1 := Lib.hid (Turned.of_below (b := b) b1)
  clear R1 b1 c1 HR
  go_wp2_with fail
  go_loopw [4, 5] (fun s4 s5 wr => BlInv b s a w s4 s5 wr) (fun _ _ wr => s.size - plc b wr)
  case atStart => exact ⟨a, Nat.le_refl _, ha, rfl, rfl, HR1.out, B1.out, Lib.hid rfl⟩
  case round =>
    clear HR1 B1
    obtain ⟨k, hak, hk, rfl, rfl, R, B, hr⟩ := hrel
    have HR := Lib.hid R
    have HB := Lib.hid B
    have hd := headBl s k
    have c1 := R.c1
    have z1 := R.z1
    have HM := Lib.hid R.plc
    have T1 := Lib.hid (HT.out.turned B hb hw)
    clear R B
    by_cases hlt : k < s.size
    · have BK := Lib.hid (BL.out k)
      rw [decide_eq_true hlt] at hd ⊢
      rw [Bool.true_and] at hd
      have e1 : IntKind.i64.wrap ((k : Int) + 1) = ((k + 1 : Nat) : Int) := by rw [IntWalk.i64_in _ (by omega)]; omega
      by_cases hbl : isBlN (pk s k) = true
      · rw [hbl] at hd BK
        have HD := Lib.hid (blk_pos _ hd)
        rw [List.drop_drop] at HD
        clear hd hbl
        go_wp2_with fail
        refine (BK.out _ T1.out).mono ?_
        rintro e w2 ⟨rfl, rfl⟩
        go_wp2_with fail
        have R2 := Lib.hid (HR.out.set (j := k + 1))
        have B2 := Lib.hid (HB.out.set 1 (.int .i64 ((k + 1 : Nat) : Int)))
        refine (P.out (k + 1) _ R2.out (by omega)).mono ?_
        rintro e w3 ⟨rfl, b3, R3⟩
        have HR3 := Lib.hid R3
        have B3 := Lib.hid (B2.out.trans (Turned.of_below b3))
        clear R3 b3
        go_wp2_with fail
        go_roundw
        case rel => exact ⟨k + 1, by omega, by omega, rfl, rfl, HR3.out, B3.out, Lib.hid (by rw [hr.out, HD.out]; omega)⟩
        case measure => rw [HR3.out.plc, HM.out]; omega
      · rw [Bool.not_eq_true] at hbl
        rw [hbl] at hd BK
        have HD := Lib.hid (blk_zero _ hd)
        have e2 : IntKind.i64.wrap ((k : Int) - (a : Int)) = ((k - a : Nat) : Int) := by rw [IntWalk.i64_in _ (by omega)]; omega
        clear hd hbl
        go_wp2_with fail
        refine (BK.out _ T1.out).mono ?_
        rintro e w2 ⟨rfl, rfl⟩
        go_wp2_with fail
        go_ret
        have hr' := hr.out
        rw [HD.out] at hr'
        have e3 : blk (s.data.toList.drop a) = k - a := by omega
        rw [e3, show a + (k - a) = k from by omega]
        exact ⟨rfl, HB.out, HR.out⟩
    · rw [decide_eq_false hlt] at hd ⊢
      rw [Bool.false_and] at hd
      have HD := Lib.hid (blk_zero _ hd)
      have e2 : IntKind.i64.wrap ((k : Int) - (a : Int)) = ((k - a : Nat) : Int) := by rw [IntWalk.i64_in _ (by omega)]; omega
      clear hd
      go_wp2_with fail
      go_ret
      have hr' := hr.out
      rw [HD.out] at hr'
      have e3 : blk (s.data.toList.drop a) = k - a := by omega
      rw [e3, show a + (k - a) = k from by omega]
      exact ⟨rfl, HB.out, HR.out⟩
/-- The deferred function: it sets the reader to the saved place. -/
theorem gapBack (b p q : Nat) (s : ByteArray) (k j : Nat) (u : FrameMode) (w : World) (hp : w.cell? ⟨p, 0, none⟩ = some (.int .i64 (j : Int))) (hq : w.cell? ⟨q, 0, none⟩ = some (.pointer (some ⟨b, 0, none⟩))) (H : Rdr b s k w) :
    CallsD Tryz.prog 168 #[.pointer (some ⟨p, 0, none⟩), .pointer (some ⟨q, 0, none⟩)] u w fun e u' w' => u' = u ∧ (e = .returned (.tuple #[]) ∧ w' = w.setCell ⟨b, 1, none⟩ (.int .i64 (j : Int))) := by
  have z1 := H.z1
  have c1 := H.c1
  clear H
  go_enter_d Tryz.func168, Tryz.ntmps168
  go_wp2
  go_end0
  exact ⟨rfl, rfl⟩
/-- The two boxes: the pointer to the reader, the saved place. -/
structure Boxes (b p : Nat) (j : Nat) (w : World) : Prop where
  ptr : w.heap[p]? = some (.cells #[.pointer (some ⟨b, 0, none⟩)] 146)
  sav : w.heap[p + 1]? = some (.cells #[.int .i64 (j : Int)] 3)
theorem Boxes.c0 {b p j : Nat} {w : World} (H : Boxes b p j w) : w.cell? ⟨p, 0, none⟩ = some (.pointer (some ⟨b, 0, none⟩)) := by
  have := H.ptr; simp [World.cell?, this]
theorem Boxes.c1 {b p j : Nat} {w : World} (H : Boxes b p j w) : w.cell? ⟨p + 1, 0, none⟩ = some (.int .i64 (j : Int)) := by
  have := H.sav; simp [World.cell?, this]
theorem Boxes.z1 {b p j : Nat} {w : World} (H : Boxes b p j w) : w.frozen? ⟨p + 1, 0, none⟩ = false := by
  have := H.sav; simp [World.frozen?, this]
theorem Boxes.lt {b p j : Nat} {w : World} (H : Boxes b p j w) : p + 1 < w.heap.size := (Array.getElem?_eq_some_iff.1 H.sav).1
theorem Boxes.turned {b p j : Nat} {w w' : World} (H : Boxes b p j w) (t : Turned b w w') (hp : b < p) : Boxes b p j w' := by
  have := H.lt
  exact ⟨by rw [t.block p (by omega) (by omega)]; exact H.ptr, by rw [t.block (p + 1) (by omega) (by omega)]; exact H.sav⟩
theorem Boxes.save {b p j i : Nat} {w : World} (H : Boxes b p j w) : Boxes b p i (w.setCell ⟨p + 1, 0, none⟩ (.int .i64 (i : Int))) := by
  refine ⟨?_, ?_⟩
  · rw [Below.heap_setCell _ _ _ _ (by show p ≠ p + 1; omega)]; exact H.ptr
  · simp only [World.setCell, Array.getElem?_modify, H.sav]
    simp
theorem Boxes.new (b a : Nat) (w : World) : Boxes b w.heap.size a ((w.alloc (.cells #[.pointer (some ⟨b, 0, none⟩)] 146)).alloc (.cells #[.int .i64 (a : Int)] 3)) := by
  refine ⟨?_, ?_⟩
  · rw [Below.heap_alloc _ _ _ (by simp)]
    show (w.heap.push _)[w.heap.size]? = _
    rw [Array.getElem?_push, if_pos rfl]
  · show ((w.heap.push _).push _)[w.heap.size + 1]? = _
    rw [Array.getElem?_push, if_pos (by simp)]
theorem Rdr.other {b q o : Nat} {s : ByteArray} {k : Nat} {w : World} {v : Value} (H : Rdr b s k w) (hn : b ≠ q) : Rdr b s k (w.setCell ⟨q, o, none⟩ v) := by
  unfold Rdr at *
  rw [Below.heap_setCell _ _ _ _ (by exact hn)]; exact H
/-- The saved place, off memory. -/
def savd (p : Nat) (w : World) : Nat := match w.cell? ⟨p + 1, 0, none⟩ with
  | some (.int _ n) => n.toNat
  | _ => 0
theorem Boxes.savd {b p j : Nat} {w : World} (H : Boxes b p j w) : savd p w = j := by
  unfold Go.Proofs.YtbjabclgekkpaaaGreatDoor.savd; rw [H.c1]; simp
/-- Behind the loop: the saved place, and whether it lies behind. -/
theorem gap_fin {a j g : Nat} (h : a + g = j) : decide (a < j) = decide (0 < g) := by
  by_cases hg : 0 < g
  · rw [decide_eq_true hg, decide_eq_true (by omega)]
  · rw [decide_eq_false hg, decide_eq_false (by omega)]
def GapInv (b : Nat) (s : ByteArray) (a : Nat) (w : World) (s5 s6 s7 : Value) (wr : World) : Prop :=
  ∃ j c : Nat, a ≤ j ∧ j ≤ s.size ∧ c ≤ 1 ∧ s5 = .int .i64 (c : Int) ∧ s6 = .int .u8 (pk s j : Int) ∧ s7 = .bool (decide (j < s.size)) ∧ Rdr b s (stp s j) wr ∧ Boxes b w.heap.size j wr ∧ Turned b w wr ∧ Hid (a + gap 0 (s.data.toList.drop a) = j + gap c (s.data.toList.drop j))
theorem Gap_any (b : Nat) (s : ByteArray) (a : Nat) (w : World) (H : Rdr b s a w) (hs : s.size ≤ maxLen) (ha : a ≤ s.size) (T : Blks w) (hb : gN ≤ b) :
    Calls Tryz.prog 131 #[.pointer (some ⟨b, 0, none⟩)] w fun e w' => e = .returned (.bool (decide (0 < gap 0 (s.data.toList.drop a)))) ∧ Turned b w w' ∧ Rdr b s (a + gap 0 (s.data.toList.drop a)) w' := by
  have P := Lib.hid (fun k w H hk => rtake_any b s k w H hs hk)
  unfold RTakePost at P
  have BL := Lib.hid (fun k w (T : Blks w) => blank_any (pk s k) w (pk_lt s k) T)
  have hs' : s.size ≤ 9223372036854775807 := hs
  have HT := Lib.hid T
  have HR := Lib.hid H
  have c1 := H.c1
  have hlt := H.lt
  have hw : gN ≤ w.heap.size := by have := H.lt; omega
  have hmf : ∀ (fn : Fn) (first cap : Array Value) (w : World), (Instr.makeFunc fn first cap).run Tryz.prog w = .ok (.func fn first cap) w := fun _ _ _ _ => rfl
  clear T H hs
  have BX := Lib.hid (Boxes.new b a w)
  have W0 := Lib.hid (((Below.refl w.heap.size w).alloc (Nat.le_refl _) (.cells #[.pointer (some ⟨b, 0, none⟩)] 146)).alloc (by simp) (.cells #[.int .i64 (a : Int)] 3))
  go_enter_defers Tryz.func131, Tryz.ntmps131
  go_wp2_with fail
  have R0 := Lib.hid (HR.out.next W0.out)
  generalize ((w.alloc (.cells #[.pointer (some ⟨b, 0, none⟩)] 146)).alloc (.cells #[.int .i64 (a : Int)] 3)) = w0 at *
  refine (P.out a _ R0.out ha).mono ?_
  rintro e w1 ⟨rfl, b1, R1⟩
  have HR1 := Lib.hid R1
  have BX1 := Lib.hid (BX.out.turned b1 hlt)
  have B1 := Lib.hid ((Turned.of_below (b := b) W0.out).trans b1)
  clear R1 b1 c1 HR BX W0 R0
  go_wp2_with fail
  go_loopw [5, 6, 7] (fun s5 s6 s7 wr => GapInv b s a w s5 s6 s7 wr) (fun _ _ _ wr => s.size - savd w.heap.size wr)
  case atStart => exact ⟨a, 0, Nat.le_refl _, ha, by omega, rfl, rfl, rfl, HR1.out, BX1.out, B1.out, Lib.hid rfl⟩
  case round =>
    clear HR1 BX1 B1
    obtain ⟨j, c, haj, hj, hc, rfl, rfl, rfl, R, BX, B, hr⟩ := hrel
    have HR := Lib.hid R
    have HB := Lib.hid B
    have HX := Lib.hid BX
    have x0 := BX.c0
    have x1 := BX.c1
    have z1 := BX.z1
    have c1 := R.c1
    have HM := Lib.hid BX.savd
    have T1 := Lib.hid (HT.out.turned B hb hw)
    have hcm := headCm s j
    have hbl := headBl s j
    clear R B BX
    by_cases hlt' : j < s.size
    · rw [decide_eq_true hlt'] at hcm hbl ⊢
      rw [Bool.true_and] at hcm hbl
      rw [stp_in hlt'] at HR c1
      by_cases h44 : pk s j = 44
      · have hb' : isBlN (pk s j) = false := by rw [h44]; rfl
        rw [h44]
        rw [hb'] at hbl
        rw [h44] at hcm
        have hcm' : headIs isCm (s.data.toList.drop j) = true := hcm
        by_cases h0 : c = 0
        · subst h0
          have HG := Lib.hid (gap_comma _ hcm')
          rw [List.drop_drop] at HG
          have R2 := Lib.hid (HR.out.other (q := w.heap.size + 1) (o := 0) (v := .int .i64 ((j + 1 : Nat) : Int)) (by omega))
          have B2 := Lib.hid (HB.out.setNew (q := w.heap.size + 1) (by omega) 0 (.int .i64 ((j + 1 : Nat) : Int)))
          have X2 := Lib.hid (HX.out.save (i := j + 1))
          clear hcm hbl hcm' hb'
          go_wp2_with fail
          refine (P.out (j + 1) _ R2.out (by omega)).mono ?_
          rintro e w3 ⟨rfl, b3, R3⟩
          have HR3 := Lib.hid R3
          have X3 := Lib.hid (X2.out.turned b3 hlt)
          have B3 := Lib.hid (B2.out.trans b3)
          clear R3 b3
          go_wp2_with fail
          go_roundw
          case rel => exact ⟨j + 1, 1, by omega, by omega, by omega, rfl, rfl, rfl, HR3.out, X3.out, B3.out, Lib.hid (by rw [hr.out, HG.out]; omega)⟩
          case measure => rw [X3.out.savd, HM.out]; omega
        · obtain rfl : c = 1 := by omega
          have E := Lib.hid (show a + gap 0 (s.data.toList.drop a) = j by have := hr.out; rw [gap_comma2 _ _ hcm' (by decide)] at this; exact this)
          have R2 := Lib.hid (HR.out.set (j := j))
          have B2 := Lib.hid (HB.out.set 1 (.int .i64 (j : Int)))
          have BK := Lib.hid (fun u => gapBack b (w.heap.size + 1) w.heap.size s _ j u wr x1 x0 HR.out)
          clear hcm hbl hcm' hb'
          go_wp2_with fail
          refine leaves_cons (f := 168) (args := #[.pointer (some ⟨w.heap.size + 1, 0, none⟩), .pointer (some ⟨w.heap.size, 0, none⟩)]) (by simp) (by simp [go_sem]) ?_
          refine (BK.out _).mono ?_
          rintro e u' w2 ⟨rfl, rfl, rfl⟩
          refine ⟨_, results_tmp rfl _ _ _, ?_, B2.out, ?_⟩
          · show Ending.returned (.bool (decide (a < j))) = _
            rw [gap_fin E.out]
          · rw [E.out]; exact R2.out
      · have n44 : ((pk s j : Int) == 44) = false := by rw [beq_eq_false_iff_ne]; omega
        have hcm' : headIs isCm (s.data.toList.drop j) = false := by rw [hcm, beq_eq_false_iff_ne]; exact h44
        have m44 : ((pk s j : Int) != 44) = true := by rw [bne, n44]; rfl
        have hc1 : ¬ (1 : Int) < (c : Int) := by omega
        have BLj := Lib.hid (BL.out j)
        by_cases hb' : isBlN (pk s j) = true
        · rw [hb'] at hbl BLj
          have HG := Lib.hid (gap_pos_of c _ hbl)
          rw [List.drop_drop] at HG
          have R2 := Lib.hid (HR.out.other (q := w.heap.size + 1) (o := 0) (v := .int .i64 ((j + 1 : Nat) : Int)) (by omega))
          have B2 := Lib.hid (HB.out.setNew (q := w.heap.size + 1) (by omega) 0 (.int .i64 ((j + 1 : Nat) : Int)))
          have X2 := Lib.hid (HX.out.save (i := j + 1))
          clear hcm hbl hcm' hb'
          go_wp2_with fail
          refine (BLj.out _ T1.out).mono ?_
          rintro e w2 ⟨rfl, rfl⟩
          go_wp2_with fail
          refine (P.out (j + 1) _ R2.out (by omega)).mono ?_
          rintro e w3 ⟨rfl, b3, R3⟩
          have HR3 := Lib.hid R3
          have X3 := Lib.hid (X2.out.turned b3 hlt)
          have B3 := Lib.hid (B2.out.trans b3)
          clear R3 b3
          go_wp2_with fail
          go_roundw
          case rel => exact ⟨j + 1, c, by omega, by omega, hc, rfl, rfl, rfl, HR3.out, X3.out, B3.out, Lib.hid (by rw [hr.out, HG.out]; omega)⟩
          case measure => rw [X3.out.savd, HM.out]; omega
        · rw [Bool.not_eq_true] at hb'
          rw [hb'] at hbl BLj
          have E := Lib.hid (show a + gap 0 (s.data.toList.drop a) = j by have := hr.out; rw [gap_none _ _ hbl hcm'] at this; exact this)
          have R2 := Lib.hid (HR.out.set (j := j))
          have B2 := Lib.hid (HB.out.set 1 (.int .i64 (j : Int)))
          have BK := Lib.hid (fun u => gapBack b (w.heap.size + 1) w.heap.size s _ j u wr x1 x0 HR.out)
          clear hcm hbl hcm' hb'
          go_wp2_with fail
          refine (BLj.out _ T1.out).mono ?_
          rintro e w2 ⟨rfl, rfl⟩
          go_wp2_with fail
          refine leaves_cons (f := 168) (args := #[.pointer (some ⟨w.heap.size + 1, 0, none⟩), .pointer (some ⟨w.heap.size, 0, none⟩)]) (by simp) (by simp [go_sem]) ?_
          refine (BK.out _).mono ?_
          rintro e u' w2 ⟨rfl, rfl, rfl⟩
          refine ⟨_, results_tmp rfl _ _ _, ?_, B2.out, ?_⟩
          · show Ending.returned (.bool (decide (a < j))) = _
            rw [gap_fin E.out]
          · rw [E.out]; exact R2.out
    · rw [decide_eq_false hlt'] at hcm hbl ⊢
      rw [Bool.false_and] at hcm hbl
      have E := Lib.hid (show a + gap 0 (s.data.toList.drop a) = j by have := hr.out; rw [gap_none _ _ hbl hcm] at this; exact this)
      have R2 := Lib.hid (HR.out.set (j := j))
      have B2 := Lib.hid (HB.out.set 1 (.int .i64 (j : Int)))
      have BK := Lib.hid (fun u => gapBack b (w.heap.size + 1) w.heap.size s _ j u wr x1 x0 HR.out)
      clear hcm hbl
      go_wp2_with fail
      refine leaves_cons (f := 168) (args := #[.pointer (some ⟨w.heap.size + 1, 0, none⟩), .pointer (some ⟨w.heap.size, 0, none⟩)]) (by simp) (by simp [go_sem]) ?_
      refine (BK.out _).mono ?_
      rintro e u' w2 ⟨rfl, rfl, rfl⟩
      refine ⟨_, results_tmp rfl _ _ _, ?_, B2.out, ?_⟩
      · show Ending.returned (.bool (decide (a < j))) = _
        rw [gap_fin E.out]
      · rw [E.out]; exact R2.out
end Go.Proofs.YtbjabclgekkpaaaGreatDoor
