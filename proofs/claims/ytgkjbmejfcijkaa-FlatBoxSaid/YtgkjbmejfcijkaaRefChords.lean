/-
  The document's answers of layer 12: Chords. (Typed by a program: wip/gen_ref12b.py.)
-/
import Derived.Test.YtgkjbmejfcijkaaJRow
import Derived.Deep.DeepCutAuto
import Derived.Test.YtgkjbmejfcijkaaJCv
namespace Go.Proofs.Ytgkjbmejfcijkaa
open Go.RowKit Go.Shelf

/-- A row of curves that is read. -/
def RdK (a : Option Addr) (l : List Crv) (w : World) : Prop := crvL.rd a l w
theorem RdK.at {a : Option Addr} {l : List Crv} {w : World} (h : RdK a l w) {i : Nat} {g : Crv} (hi : l[i]? = some g) :
    ∃ b off, a = some ⟨b, off, none⟩ ∧ b < w.heap.size ∧ w.cell? ⟨b, off + i * 8, none⟩ = some (.int .i64 g.px) ∧ ∀ j u, g.lst[j]? = some u → w.cell? ⟨b, off + i * 8 + j, none⟩ = some u := by
  obtain ⟨b, off, h1, h2, h3⟩ := Lay8.rd.pos h (List.getElem?_eq_some_iff.1 hi).1
  refine ⟨b, off, h1, h2, h3 _ _ (crvL.flat_at l i g 0 _ hi rfl), fun j u hj => ?_⟩
  rw [Nat.add_assoc]; exact h3 _ _ (crvL.flat_at l i g j u hi hj)
theorem Crvs.rd {R k cap : Nat} {a : Option Addr} {l : List Crv} {W : World} (h : Crvs R (.slice a k cap) l W) : RdK a l W := Lay8.own.rd (Crvs.own h)
/-- What Chords' loop keeps. -/
def ChInv (l : List Crv) (w : World) (out i : Value) (wr : World) : Prop := ∃ k : Nat, k ≤ l.length ∧ i = .int .i64 (k : Int) ∧ Edgs w.heap.size out (chords12 (l.take k)) wr ∧ Below w.heap.size w wr
theorem at_crv (l : List Crv) {k : Nat} (h : k < l.length) : ∃ g, l[k]? = some g := ⟨l[k], List.getElem?_eq_getElem h⟩
theorem ch_next {l : List Crv} {w wr : World} {k : Nat} {c : Crv} {z : Int} {out : Value} (hz : z = (k : Int) + 1) (h1 : l[k]? = some c) (hb : Below w.heap.size w wr) (h : Edgs w.heap.size out (chords12 (l.take k) ++ (if c.px = c.sx ∧ c.py = c.sy then [] else [⟨c.px, c.py, c.sx, c.sy⟩])) wr) : ChInv l w out (.int .i64 z) wr :=
  ⟨k + 1, (List.getElem?_eq_some_iff.1 h1).1, by rw [hz]; rfl, by rw [chords12_next l k c h1]; exact h, hb⟩
/-- One edge more, at a step of a region that draws. -/
theorem step_edg {ops : Array Oper} {o : Oper} {a : Act} {K : Act → World → Prop} {Q : Exit → Act → World → Prop} {E : Prop} {W : World} (hgd : o.guard = none) (s x : Operand)
    (ho : o.op = .call { callee := .builtin .append, args := #[s, x], argTypes := #[37, 37] }) {B N : Nat} {v : Value} {l : List Edg} (g : Edg) (hown : Edgs B v l W) (hs : a.eval s = v)
    (hN : CBox N 51 g.arr W) (hx : a.eval x = .slice (some ⟨N, 0, none⟩) 1 1) (hk : l.length ≤ 100000000) (hB : B ≤ W.heap.size) (H : Nat) (hH : W.heap.size = H)
    (h : ∀ b cap w', Edgs B (.slice (some ⟨b, 0, none⟩) (l.length + 1) cap) (l ++ [g]) w' → W.grownBy w' v.ownBlock → (v.ownBlock = some b ∨ b = H) → b < w'.heap.size → K (a.put o.dst (.slice (some ⟨b, 0, none⟩) (l.length + 1) cap)) w') :
    if Region.wanted o (yielded ops a.tmps) = true then Oper.wp Try.prog o a W K Q else E := by
  obtain ⟨i0, hi, hz0, hz1, hz2⟩ := info_parts info_edg
  exact Lay8.step edgL Try.underlying37 hi hz0 hz1 hz2 rfl (by decide) hgd s x ho g hown hs hN hx hk hB H hH h
set_option maxHeartbeats 8000000 in
set_option maxRecDepth 100000 in
theorem rchords12 (a : Option Addr) (l : List Crv) (cap : Nat) (w : World) (hl : l.length ≤ 100000000) (ha : RdK a l w) :
    Calls Try.prog 16 #[.slice a l.length cap] w fun e w' => ∃ v, e = .returned v ∧ Edgs w.heap.size v (chords12 l) w' ∧ Below w.heap.size w w' := by
  have HA := Lib.hid ha
  obtain ⟨n, hn⟩ : ∃ n, n = l.length := ⟨_, rfl⟩
  have EN := Lib.hid hn
  rw [← hn]
  rw [← hn] at hl
  clear ha hn
  go_enter Try.func16, Try.ntmps16
  go_wp2_with fail
  go_loopw [3, 4] (fun o i wr => ChInv l w o i wr) (fun _ i _ => n - (intOf i).toNat)
  case atStart => exact ⟨0, Nat.zero_le _, rfl, Lay8.own_nil _ _, Below.refl _ _⟩
  case round =>
    obtain ⟨k, hk, rfl, ho, hb⟩ := hrel
    have HB := Lib.hid hb; have HO := Lib.hid ho
    clear hb ho
    rw [← EN.out] at hk
    by_cases hlt : k < n
    · obtain ⟨c, hg⟩ := at_crv l (k := k) (by rw [← EN.out]; exact hlt)
      obtain ⟨ba, oa, ea, l1, x0, hx⟩ := RdK.at (Lay8.rd.next HA.out HB.out) hg
      have HG := Lib.hid hg
      have hk0 : (0 : Int) ≤ k := by omega
      have hk1 : (k : Int) < n := by omega
      have ew : wrap64 ((k : Int) + 1) = (k : Int) + 1 := by unfold wrap64; omega
      have hcl : (chords12 (l.take k)).length ≤ 100000000 := Nat.le_trans (chords12_len _) (by rw [List.length_take]; omega)
      have x1 := hx 1 _ rfl; have x6 := hx 6 _ rfl; have x7 := hx 7 _ rfl
      have l2 : ba < w.heap.size := by
        rcases HA.out with h | ⟨b, off, h1, h2, _⟩
        · rw [h] at hg; simp at hg
        · rw [h1] at ea; injection ea with ea; injection ea with ea; omega
      clear hx hg
      have NX := Lib.hid (fun z out w' (hz : z = (k : Int) + 1) hb h => ch_next (l := l) (w := w) (wr := w') (k := k) (c := c) (z := z) (out := out) hz HG.out hb h)
      generalize chords12 (l.take k) = E at *
      obtain ⟨px, py, qx, qy, rx, ry, sx, sy⟩ := c
      subst ea
      dsimp only at x0 x1 x6 x7 NX
      by_cases c0 : px = sx ∧ py = sy
      · obtain ⟨rfl, rfl⟩ := c0
        have NY := Lib.hid (fun z out w' (hz : z = (k : Int) + 1) hb (h : Edgs w.heap.size out E w') => NX.out z out w' hz hb (by rw [if_pos ⟨rfl, rfl⟩, List.append_nil]; exact h))
        clear NX
        go_upto_region 5 with fail
        go_region_held3 (fun w' => w'.cell? ⟨ba, oa + k * 8, none⟩ = some (.int .i64 px) ∧ w'.cell? ⟨ba, oa + k * 8 + 1, none⟩ = some (.int .i64 py) ∧ w'.cell? ⟨ba, oa + k * 8 + 6, none⟩ = some (.int .i64 px) ∧ w'.cell? ⟨ba, oa + k * 8 + 7, none⟩ = some (.int .i64 py)) (first | (refine ⟨?_, ?_, ?_, ?_⟩ <;> first | with_reducible assumption) | (simp [go_sem, *]; done)) (fail)
        all_goals
          go_wp2_with fail
          go_roundw
          case rel => exact NY.out _ _ _ (by first | rfl | exact ew) HB.out.drew (Lay8.own.next HO.out (Below.refl _ _).drew)
          case measure => simp [intOf]; omega
      · have NY := Lib.hid (fun z out w' (hz : z = (k : Int) + 1) hb (h : Edgs w.heap.size out (E ++ [⟨px, py, sx, sy⟩]) w') => NX.out z out w' hz hb (by rw [if_neg c0]; exact h))
        clear NX
        have hd : (px = sx ∧ (py == sy) = false) ∨ (px == sx) = false := by
          by_cases c1 : px = sx
          · exact .inl ⟨c1, beq_eq_false_iff_ne.2 (fun h => c0 ⟨c1, h⟩)⟩
          · exact .inr (beq_eq_false_iff_ne.2 c1)
        clear c0
        rcases hd with ⟨rfl, hd⟩ | hd
        ·
          go_upto_region 5 with fail
          go_region_held3 (fun w' => w'.cell? ⟨ba, oa + k * 8, none⟩ = some (.int .i64 px) ∧ w'.cell? ⟨ba, oa + k * 8 + 1, none⟩ = some (.int .i64 py) ∧ w'.cell? ⟨ba, oa + k * 8 + 6, none⟩ = some (.int .i64 px) ∧ w'.cell? ⟨ba, oa + k * 8 + 7, none⟩ = some (.int .i64 sy)) (first | (refine ⟨?_, ?_, ?_, ?_⟩ <;> first | with_reducible assumption) | (simp [go_sem, *]; done)) (fail)
          all_goals
            go_upto_region 6 with fail
            have HB2 := Lib.hid HB.out.drew; have HO2 : Hid (Edgs w.heap.size u3 E wr.drew) := Lib.hid (Lay8.own.next HO.out (Below.refl _ _).drew)
            replace x0 : wr.drew.cell? ⟨ba, oa + k * 8, none⟩ = some (.int .i64 px) := x0; replace x1 : wr.drew.cell? ⟨ba, oa + k * 8 + 1, none⟩ = some (.int .i64 py) := x1; replace x6 : wr.drew.cell? ⟨ba, oa + k * 8 + 6, none⟩ = some (.int .i64 px) := x6; replace x7 : wr.drew.cell? ⟨ba, oa + k * 8 + 7, none⟩ = some (.int .i64 sy) := x7
            clear l1 HB HO
            generalize wr.drew = wq at *
            have HO3 : Hid (Edgs w.heap.size u3 E ((wq.alloc (.cells #[.int .i64 px, .int .i64 py, .int .i64 px, .int .i64 sy] 51)).drew)) := Lib.hid (Lay8.own.next HO2.out (((Below.refl _ wq).alloc (Nat.le_refl _) _).drew))
            have HN3 : Hid (CBox wq.heap.size 51 #[.int .i64 px, .int .i64 py, .int .i64 px, .int .i64 sy] ((wq.alloc (.cells #[.int .i64 px, .int .i64 py, .int .i64 px, .int .i64 sy] 51)).drew)) := Lib.hid (CBox.new wq _ _)
            have hB3 : w.heap.size ≤ ((wq.alloc (.cells #[.int .i64 px, .int .i64 py, .int .i64 px, .int .i64 sy] 51)).drew).heap.size := by have := HB2.out.size; simp [World.drew]; omega
            have HB4 := Lib.hid (fun w3 (hg : World.grownBy ((wq.alloc (.cells #[.int .i64 px, .int .i64 py, .int .i64 px, .int .i64 sy] 51)).drew) w3 u3.ownBlock) => ((HB2.out.alloc HB2.out.size (.cells #[.int .i64 px, .int .i64 py, .int .i64 px, .int .i64 sy] 51)).drew).trans (Lay8.own.grown HO3.out hg hB3))
            have lq : ba < ((wq.alloc (.cells #[.int .i64 px, .int .i64 py, .int .i64 px, .int .i64 sy] 51)).drew).heap.size := by have := HB2.out.size; simp [World.drew]; omega
            have hnq : some ba ≠ u3.ownBlock := fun e => by have := (Lay8.own.type HO3.out ba e.symm).2.1; omega
            have XF := Lib.hid (fun w3 (hg : World.grownBy ((wq.alloc (.cells #[.int .i64 px, .int .i64 py, .int .i64 px, .int .i64 sy] 51)).drew) w3 u3.ownBlock) => And.intro ((hg.cell_far ⟨ba, oa + k * 8, none⟩ lq hnq).trans (cell_alloc_drew x0)) (And.intro ((hg.cell_far ⟨ba, oa + k * 8 + 1, none⟩ lq hnq).trans (cell_alloc_drew x1)) (And.intro ((hg.cell_far ⟨ba, oa + k * 8 + 6, none⟩ lq hnq).trans (cell_alloc_drew x6)) ((hg.cell_far ⟨ba, oa + k * 8 + 7, none⟩ lq hnq).trans (cell_alloc_drew x7)))))
            go_region_held3 (fun w' => w'.cell? ⟨ba, oa + k * 8, none⟩ = some (.int .i64 px) ∧ w'.cell? ⟨ba, oa + k * 8 + 1, none⟩ = some (.int .i64 py) ∧ w'.cell? ⟨ba, oa + k * 8 + 6, none⟩ = some (.int .i64 px) ∧ w'.cell? ⟨ba, oa + k * 8 + 7, none⟩ = some (.int .i64 sy)) (first | (refine ⟨?_, ?_, ?_, ?_⟩ <;> first | with_reducible assumption | (with_reducible refine cell_alloc ?_; with_reducible assumption) | (with_reducible refine cell_alloc_drew ?_; with_reducible assumption)) | (simp [go_sem, *]; done))
              ((refine step_edg (by rfl) (.tmp 22) (.tmp 34) (by rfl) ⟨px, py, px, sy⟩ HO3.out (by rfl) HN3.out (by rfl) hcl hB3 _ rfl ?_; intro bq cap' w3 hown3 hg3 hv3 hlt3; obtain ⟨y0, y1, y6, y7⟩ := XF.out _ hg3; have HB5 := Lib.hid (HB4.out _ hg3); have HO5 := Lib.hid hown3; clear hg3 hown3))
            go_wp2_with fail
            go_roundw
            case rel => exact NY.out _ _ _ (by first | rfl | exact ew) HB5.out (by first | exact HO5.out | (have h := HO5.out; simpa using h))
            case measure => simp [intOf]; omega
        ·
          go_upto_region 5 with fail
          go_region_held3 (fun w' => w'.cell? ⟨ba, oa + k * 8, none⟩ = some (.int .i64 px) ∧ w'.cell? ⟨ba, oa + k * 8 + 1, none⟩ = some (.int .i64 py) ∧ w'.cell? ⟨ba, oa + k * 8 + 6, none⟩ = some (.int .i64 sx) ∧ w'.cell? ⟨ba, oa + k * 8 + 7, none⟩ = some (.int .i64 sy)) (first | (refine ⟨?_, ?_, ?_, ?_⟩ <;> first | with_reducible assumption) | (simp [go_sem, *]; done)) (fail)
          all_goals
            go_upto_region 6 with fail
            have HB2 := Lib.hid HB.out.drew; have HO2 : Hid (Edgs w.heap.size u3 E wr.drew) := Lib.hid (Lay8.own.next HO.out (Below.refl _ _).drew)
            replace x0 : wr.drew.cell? ⟨ba, oa + k * 8, none⟩ = some (.int .i64 px) := x0; replace x1 : wr.drew.cell? ⟨ba, oa + k * 8 + 1, none⟩ = some (.int .i64 py) := x1; replace x6 : wr.drew.cell? ⟨ba, oa + k * 8 + 6, none⟩ = some (.int .i64 sx) := x6; replace x7 : wr.drew.cell? ⟨ba, oa + k * 8 + 7, none⟩ = some (.int .i64 sy) := x7
            clear l1 HB HO
            generalize wr.drew = wq at *
            have HO3 : Hid (Edgs w.heap.size u3 E ((wq.alloc (.cells #[.int .i64 px, .int .i64 py, .int .i64 sx, .int .i64 sy] 51)).drew)) := Lib.hid (Lay8.own.next HO2.out (((Below.refl _ wq).alloc (Nat.le_refl _) _).drew))
            have HN3 : Hid (CBox wq.heap.size 51 #[.int .i64 px, .int .i64 py, .int .i64 sx, .int .i64 sy] ((wq.alloc (.cells #[.int .i64 px, .int .i64 py, .int .i64 sx, .int .i64 sy] 51)).drew)) := Lib.hid (CBox.new wq _ _)
            have hB3 : w.heap.size ≤ ((wq.alloc (.cells #[.int .i64 px, .int .i64 py, .int .i64 sx, .int .i64 sy] 51)).drew).heap.size := by have := HB2.out.size; simp [World.drew]; omega
            have HB4 := Lib.hid (fun w3 (hg : World.grownBy ((wq.alloc (.cells #[.int .i64 px, .int .i64 py, .int .i64 sx, .int .i64 sy] 51)).drew) w3 u3.ownBlock) => ((HB2.out.alloc HB2.out.size (.cells #[.int .i64 px, .int .i64 py, .int .i64 sx, .int .i64 sy] 51)).drew).trans (Lay8.own.grown HO3.out hg hB3))
            have lq : ba < ((wq.alloc (.cells #[.int .i64 px, .int .i64 py, .int .i64 sx, .int .i64 sy] 51)).drew).heap.size := by have := HB2.out.size; simp [World.drew]; omega
            have hnq : some ba ≠ u3.ownBlock := fun e => by have := (Lay8.own.type HO3.out ba e.symm).2.1; omega
            have XF := Lib.hid (fun w3 (hg : World.grownBy ((wq.alloc (.cells #[.int .i64 px, .int .i64 py, .int .i64 sx, .int .i64 sy] 51)).drew) w3 u3.ownBlock) => And.intro ((hg.cell_far ⟨ba, oa + k * 8, none⟩ lq hnq).trans (cell_alloc_drew x0)) (And.intro ((hg.cell_far ⟨ba, oa + k * 8 + 1, none⟩ lq hnq).trans (cell_alloc_drew x1)) (And.intro ((hg.cell_far ⟨ba, oa + k * 8 + 6, none⟩ lq hnq).trans (cell_alloc_drew x6)) ((hg.cell_far ⟨ba, oa + k * 8 + 7, none⟩ lq hnq).trans (cell_alloc_drew x7)))))
            go_region_held3 (fun w' => w'.cell? ⟨ba, oa + k * 8, none⟩ = some (.int .i64 px) ∧ w'.cell? ⟨ba, oa + k * 8 + 1, none⟩ = some (.int .i64 py) ∧ w'.cell? ⟨ba, oa + k * 8 + 6, none⟩ = some (.int .i64 sx) ∧ w'.cell? ⟨ba, oa + k * 8 + 7, none⟩ = some (.int .i64 sy)) (first | (refine ⟨?_, ?_, ?_, ?_⟩ <;> first | with_reducible assumption | (with_reducible refine cell_alloc ?_; with_reducible assumption) | (with_reducible refine cell_alloc_drew ?_; with_reducible assumption)) | (simp [go_sem, *]; done))
              ((refine step_edg (by rfl) (.tmp 22) (.tmp 34) (by rfl) ⟨px, py, sx, sy⟩ HO3.out (by rfl) HN3.out (by rfl) hcl hB3 _ rfl ?_; intro bq cap' w3 hown3 hg3 hv3 hlt3; obtain ⟨y0, y1, y6, y7⟩ := XF.out _ hg3; have HB5 := Lib.hid (HB4.out _ hg3); have HO5 := Lib.hid hown3; clear hg3 hown3))
            go_wp2_with fail
            go_roundw
            case rel => exact NY.out _ _ _ (by first | rfl | exact ew) HB5.out (by first | exact HO5.out | (have h := HO5.out; simpa using h))
            case measure => simp [intOf]; omega
    · obtain rfl : k = n := by omega
      have hE := HO.out
      rw [EN.out, List.take_length] at hE
      have HE := Lib.hid hE
      clear hE
      go_wp2_with fail
      go_ret
      exact ⟨_, rfl, HE.out, HB.out⟩
end Go.Proofs.Ytgkjbmejfcijkaa
