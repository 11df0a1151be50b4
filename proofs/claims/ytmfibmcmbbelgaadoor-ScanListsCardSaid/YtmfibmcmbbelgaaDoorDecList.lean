/-
  Numbers' texts, as plain mathematics: what the library's searches and cuts make of one.
-/
import Derived.Test.YtmfibmcmbbelgaaDoorDecForm
import Derived.Lib.IndexAny
import Derived.Lib.IndexMore
import Derived.Lib.SlTrimSet
import Derived.Lib.Strings
namespace Go.Proofs.YtmfibmcmbbelgaaDoor
open Go

theorem has_let (b : UInt8) : ([101, 69] : List UInt8).contains b = isLet b := by
  rw [Bool.eq_iff_iff]
  simp only [List.contains_cons, List.contains_nil, Bool.or_false, Bool.or_eq_true, beq_iff_eq, isLet]
  exact or_congr ⟨fun h => by rw [h]; rfl, fun h => eq_of_toNat h⟩ ⟨fun h => by rw [h]; rfl, fun h => eq_of_toNat h⟩
theorem has_sgn (b : UInt8) : ([43, 45] : List UInt8).contains b = isSgn b := by
  rw [Bool.eq_iff_iff]
  simp only [List.contains_cons, List.contains_nil, Bool.or_false, Bool.or_eq_true, beq_iff_eq, isSgn]
  exact or_congr ⟨fun h => by rw [h]; rfl, fun h => eq_of_toNat h⟩ ⟨fun h => by rw [h]; rfl, fun h => eq_of_toNat h⟩

theorem indexAny_none (l : List UInt8) (h : ∀ b ∈ l, isLet b = false) : Lib.indexAny l [101, 69] = -1 := by
  induction l with
  | nil => rfl
  | cons b t ih =>
    unfold Lib.indexAny
    rw [has_let, h b (by simp), ih (fun x hx => h x (by simp [hx]))]
    rfl
theorem indexAny_at (m : List UInt8) (c : UInt8) (t : List UInt8) (h : ∀ b ∈ m, isLet b = false) (hc : isLet c = true) : Lib.indexAny (m ++ c :: t) [101, 69] = m.length := by
  induction m with
  | nil => show Lib.indexAny (c :: t) [101, 69] = _
           unfold Lib.indexAny
           rw [has_let, hc]; rfl
  | cons b m ih =>
    show Lib.indexAny (b :: (m ++ c :: t)) [101, 69] = _
    unfold Lib.indexAny
    rw [has_let, h b (by simp), ih (fun x hx => h x (by simp [hx]))]
    have : ((m.length : Int) == -1) = false := by rw [beq_eq_false_iff_ne]; omega
    rw [this]
    simp
theorem index_none (l : List UInt8) (h : AllDig l) : Lib.index l [46] = -1 := by
  induction l with
  | nil => rfl
  | cons b t ih =>
    unfold Lib.index
    have hb : (46 == b) = false := by
      have := (dig_not (h b (by simp))).2.1
      rw [beq_eq_false_iff_ne]
      rintro rfl
      simp [isPt] at this
    rw [ih (fun x hx => h x (by simp [hx]))]
    simp [List.isPrefixOf, hb]
theorem index_at (a b : List UInt8) (h : AllDig a) : Lib.index (a ++ 46 :: b) [46] = a.length := by
  induction a with
  | nil => show Lib.index (46 :: b) [46] = _
           unfold Lib.index; simp [List.isPrefixOf]
  | cons c a ih =>
    show Lib.index (c :: (a ++ 46 :: b)) [46] = _
    unfold Lib.index
    have hb : (46 == c) = false := by
      have := (dig_not (h c (by simp))).2.1
      rw [beq_eq_false_iff_ne]
      rintro rfl
      simp [isPt] at this
    rw [ih (fun x hx => h x (by simp [hx]))]
    have : ((a.length : Int) == -1) = false := by rw [beq_eq_false_iff_ne]; omega
    simp [List.isPrefixOf, hb, this]
theorem cut_pt (a b : List UInt8) (pt : Bool) (ha : AllDig a) (hpt : pt = false → b = []) : Lib.cut (a ++ ptL pt b) [46] = (a, b, pt) := by
  unfold Lib.cut
  cases pt with
  | false =>
    have : ptL false b = [] := rfl
    rw [this, List.append_nil, index_none a ha, hpt rfl]; rfl
  | true =>
    have : ptL true b = 46 :: b := rfl
    rw [this, index_at a b ha, if_pos (by omega)]
    simp
theorem trim_sgn (s body : List UInt8) (hs : SgnL s) (hb : headIs isSgn body = false) : Lib.trimLeftS (s ++ body) [43, 45] = body := by
  have e : Lib.trimLeftS body [43, 45] = body := by
    unfold Lib.trimLeftS
    cases body with
    | nil => rfl
    | cons b t => rw [List.dropWhile_cons, has_sgn]; rw [show isSgn b = false from hb]; rfl
  rcases hs with rfl | rfl | rfl
  · exact e
  · show Lib.trimLeftS (43 :: body) [43, 45] = _
    unfold Lib.trimLeftS at e ⊢
    rw [List.dropWhile_cons, if_pos (by decide)]; exact e
  · show Lib.trimLeftS (45 :: body) [43, 45] = _
    unfold Lib.trimLeftS at e ⊢
    rw [List.dropWhile_cons, if_pos (by decide)]; exact e
theorem head_digs {d : List UInt8} (h : AllDig d) : headIs isSgn d = false := by
  cases d with
  | nil => rfl
  | cons b t => exact (dig_not (h b (by simp))).1
theorem head_body {l s a : List UInt8} {pt : Bool} {b : List UInt8} {x : Expo} (h : IsNum l s a pt b x) : headIs isSgn (a ++ ptL pt b) = false := by
  cases a with
  | nil => cases pt <;> rfl
  | cons c t => exact (dig_not (h.ha c (by simp))).1
theorem pre_neg (s body : List UInt8) (hs : SgnL s) (hb : headIs isSgn body = false) : Lib.hasPrefix (s ++ body) [45] = decide (s = [45]) := by
  rcases hs with rfl | rfl | rfl
  · cases body with
    | nil => rfl
    | cons b t =>
      have : (45 == b) = false := by
        rw [beq_eq_false_iff_ne]; rintro rfl
        have hb : isSgn 45 = false := hb
        simp [isSgn] at hb
      simp [Lib.hasPrefix, List.isPrefixOf, this]
  · rfl
  · simp [Lib.hasPrefix, List.isPrefixOf]
/-- No letter ahead of the power. -/
theorem no_let {l s a : List UInt8} {pt : Bool} {b : List UInt8} {x : Expo} (h : IsNum l s a pt b x) : ∀ c ∈ s ++ (a ++ ptL pt b), isLet c = false := by
  intro c hc
  rcases List.mem_append.1 hc with hc | hc
  · rcases h.hsg with rfl | rfl | rfl
    · cases hc
    · rw [List.mem_singleton.1 hc]; rfl
    · rw [List.mem_singleton.1 hc]; rfl
  · rcases List.mem_append.1 hc with hc | hc
    · exact (dig_not (h.ha c hc)).2.2
    · cases pt with
      | false => cases hc
      | true =>
        rcases List.mem_cons.1 hc with rfl | hc
        · rfl
        · exact (dig_not (h.hb c hc)).2.2
theorem num_ascii {l s a : List UInt8} {pt : Bool} {b : List UInt8} {x : Expo} (h : IsNum l s a pt b x) : ∀ c ∈ l, c.toNat < 128 := by
  have dg : ∀ d : List UInt8, AllDig d → ∀ c ∈ d, c.toNat < 128 := fun d hd c hc => by
    have := hd c hc
    simp [isDig] at this
    omega
  have sn : ∀ d : List UInt8, SgnL d → ∀ c ∈ d, c.toNat < 128 := fun d hd c hc => by
    rcases hd with rfl | rfl | rfl
    · cases hc
    · rw [List.mem_singleton.1 hc]; decide
    · rw [List.mem_singleton.1 hc]; decide
  obtain ⟨hsg, ha, hb, hpt, h0, hx, rfl⟩ := h
  intro c hc
  rcases List.mem_append.1 hc with hc | hc
  · exact sn s hsg c hc
  · rcases List.mem_append.1 hc with hc | hc
    · rcases List.mem_append.1 hc with hc | hc
      · exact dg a ha c hc
      · cases pt with
        | false => cases hc
        | true =>
          rcases List.mem_cons.1 hc with rfl | hc
          · decide
          · exact dg b hb c hc
    · cases x with
      | none => cases hc
      | some y =>
        obtain ⟨e, s', d⟩ := y
        obtain ⟨h1, h2, h3, h4⟩ := hx
        rcases List.mem_cons.1 hc with rfl | hc
        · have : c.toNat = 101 ∨ c.toNat = 69 := by simpa [isLet] using h1
          omega
        · rcases List.mem_append.1 hc with hc | hc
          · exact sn s' h2 c hc
          · exact dg d h3 c hc
end Go.Proofs.YtmfibmcmbbelgaaDoor
