/-
  The document's walk over commands. (Typed by a program.)
-/
import Derived.Test.YtgiibcnakiggaaaGreatDoorRef7App
namespace Go.Proofs.YtgiibcnakiggaaaGreatDoor
open Go.RowKit Go.Shelf

def WInv (l : List Cmd) (RES : List Seg × Int) (w : World) (u4 u5 u6 : Value) (wr : World) : Prop :=
  ∃ (i was : Nat) (out : List Seg), u5 = .int .u8 (was : Int) ∧ u6 = .int .i64 (i : Int) ∧ i ≤ l.length ∧ out.length ≤ 2 * i ∧ (i ≠ 0 → out ≠ []) ∧ Segs w.heap.size u4 out wr ∧ (out ≠ [] → inB (out.getLastD zeroS)) ∧ Below w.heap.size w wr ∧ Hid (walkR out was (l.drop i) i = RES) ∧ (i = 0 → u4 = .slice none 0 0)
theorem Segs.put {X R : Nat} {u : Value} {l : List Seg} {w : World} (hr : Segs R u l w) (hn : some X ≠ u.ownBlock) (g : Seg) : Segs R u l (put12 w X g) := by
  unfold put12
  exact (((((((((((hr.set hn _ _).set hn _ _).set hn _ _).set hn _ _).set hn _ _).set hn _ _).set hn _ _).set hn _ _).set hn _ _).set hn _ _).set hn _ _).set hn _ _
theorem grown_below7 {B : Nat} {v : Value} {l : List Seg} {W W' : World} (h : Segs B v l W) (hB : B ≤ W.heap.size) (hg : W.grownBy W' v.ownBlock) : Below B W W' :=
  ⟨hg.os, hg.tape, hg.output, hg.size, fun k hk => hg.block k (Nat.lt_of_lt_of_le hk hB) fun e => by obtain ⟨_, hb, _⟩ := own_type h k e.symm; omega⟩
theorem xd_ge {n e d H : Nat} (j : (Value.slice (some ⟨e, 0, none⟩) 0 0).ownBlock = some d ∨ d = H) (h1 : n ≤ e) (h2 : n ≤ H) : n ≤ d := by
  rcases j with h | h
  · have : e = d := by simpa [Value.ownBlock] using h
    omega
  · omega
theorem xd_ne {X e d H : Nat} (j : (Value.slice (some ⟨e, 0, none⟩) 0 0).ownBlock = some d ∨ d = H) (h1 : X < e) (h2 : X < H) : X ≠ d := by
  rcases j with h | h
  · have : e = d := by simpa [Value.ownBlock] using h
    omega
  · omega
theorem Segs.grown7 {R : Nat} {u : Value} {l : List Seg} {W W' : World} {row : Option Nat} (h : Segs R u l W) (hg : W.grownBy W' row) (hn : ∀ k, u.ownBlock = some k → k < W.heap.size → some k ≠ row) : Segs R u l W' :=
  own_stay h fun k hk => hg.block k (own_type h k hk).1 (hn k hk (own_type h k hk).1)
theorem mv_in {x y : Int} (h : In32 x ∧ In32 y) : inB (segS 1 x y 0 0 0 0) := ⟨h.1, h.2, z32, z32, z32, z32, z32, z32, z32⟩
theorem pt_in {l : List Seg} (h : l ≠ [] → inB (l.getLastD zeroS)) : In32 (ptL7 l).1 ∧ In32 (ptL7 l).2 := by
  by_cases he : l = []
  · subst he; exact ⟨z32, z32⟩
  · exact ⟨(h he).1, (h he).2.1⟩
set_option maxHeartbeats 16000000 in
set_option maxRecDepth 100000 in
theorem rwalk_any (a : Option Addr) (l : List Cmd) (cap : Nat) (w : World) (hl : l.length ≤ 1000) (hA : RdC a l w) (hW : ∀ x ∈ l, CmdW x) (h0 : HeadM l) :
    Calls Tryz.prog 17 #[.slice a l.length cap] w (BringPost (walkR [] 0 l 0) w) := by
  have HA := Lib.hid hA
  have HW := Lib.hid hW
  have H0 := Lib.hid h0
  obtain ⟨RES, hR⟩ : ∃ R, walkR [] 0 l 0 = R := ⟨_, rfl⟩
  rw [hR]
  have HR0 := Lib.hid (show walkR [] 0 (l.drop 0) 0 = RES from hR)
  clear hA hW h0 hR
  go_enter Tryz.func17, Tryz.ntmps17
  go_wp2_with fail
  go_loopw [4, 5, 6] (fun u4 u5 u6 wr => WInv l RES w u4 u5 u6 wr) (fun _ _ u6 _ => l.length - (intOf u6).toNat)
  case atStart => exact ⟨0, 0, [], rfl, rfl, Nat.zero_le _, Nat.le_refl _, fun h => absurd rfl h, Segs.nil _ _, fun h => absurd rfl h, Below.refl _ _, HR0, fun _ => rfl⟩
  case round =>
    clear HR0
    obtain ⟨i, was, out, rfl, rfl, hi, hso, hsn, hsg, hla, hbel, hE, hnil⟩ := hrel
    obtain ⟨ao, co, rfl, hrd, hco⟩ := hsg.reads
    by_cases hlt : i < l.length
    · obtain ⟨b, off, rfl, hb, hcs⟩ := HA.out.pos (by omega)
      obtain ⟨aa, ac, A⟩ := hcs i hlt
      have hw := HW.out _ (List.mem_of_getElem? (at_some l hlt))
      have h0 : out = [] → capL (ltr l i) = 77 := fun e => by
        have hi0 : i = 0 := Classical.byContradiction fun k => hsn k e
        subst hi0
        exact H0.out _ _ (drop_cons7 hlt)
      have hE' := hE.out
      rw [drop_cons7 hlt] at hE'
      unfold walkR at hE'
      have HE := Lib.hid hE'
      have hpt := pt_in hla
      have hltr := A.lt
      have hltI : (i : Int) < (l.length : Int) := by omega
      have CA := Lib.hid (fun w => rcap_any (ltr l i) hltr w)
      have IA := Lib.hid (show ∀ W, Below w.heap.size w W → IntsK .i64 aa (ars l i) W ∧ W.cell? ⟨b, off + i * 2, none⟩ = some (.int .u8 (ltr l i : Int)) ∧ W.cell? ⟨b, off + i * 2 + 1, none⟩ = some (.slice aa (ars l i).length ac) from fun W t =>
        ⟨A.row.below t (Nat.le_refl _), (t.cell (p := ⟨b, off + i * 2, none⟩) (by exact hb)).trans A.c0, (t.cell (p := ⟨b, off + i * 2 + 1, none⟩) (by exact hb)).trans A.c1⟩)
      have hbw : b < wr.heap.size := Nat.lt_of_lt_of_le hb hbel.size
      have e5 : IntKind.i64.wrap ((i : Int) + 1) = ((i + 1 : Nat) : Int) := by rw [IntWalk.i64_in _ (by omega)]; omega
      have HSG := Lib.hid hsg
      have HBL := Lib.hid hbel
      have HRD := Lib.hid hrd
      generalize hptl : ptL7 out = pt at *
      obtain ⟨px, py⟩ := pt
      obtain ⟨_, r2, r3⟩ := IA.out wr hbel
      clear hE hE' A hcs hsg hbel hrd
      by_cases hne : out = []
      ·
        have hi0 : i = 0 := Classical.byContradiction fun k => hsn k hne
        subst hne
        have hnl := hnil hi0
        injection hnl with n1 n2 n3
        subst n1 n3
        have h77 := h0 rfl
        obtain ⟨rfl, rfl⟩ : px = 0 ∧ py = 0 := ⟨(congrArg Prod.fst hptl).symm, (congrArg Prod.snd hptl).symm⟩
        have hopen : openL [] ⟨ltr l i, ars l i⟩ = [] := by unfold openL; rw [if_neg]; rintro ⟨_, h2⟩; exact h2 h77
        have hcb : ((capL (ltr l i) : Int) != 77) = false := by rw [h77]; rfl
        have b5 := (Below.refl wr.heap.size wr).alloc (Nat.le_refl _) (.cells #[.int .i64 0, .int .i64 0] 39)
        have HP5 := Lib.hid (PtAt.new wr 0 0)
        have HO5 : Hid (Segs w.heap.size (.slice none 0 0) [] (wr.alloc (.cells #[.int .i64 0, .int .i64 0] 39))) := Segs.nil _ _
        have HK5 := HO5
        have HB5 := Lib.hid (HBL.out.trans (b5.mono HBL.out.size))
        have hKl : ([] : List Seg).length ≤ 100000000 := by decide
        have HKIN := Lib.hid hla
        have HK77 : Hid (([] : List Seg) = [] → capL (ltr l i) = 77) := fun _ => h77
        clear hi0 n2 hnil
        go_upto_region 14 with (go_at_call 36; refine (CA.out _).mono ?_; rintro e wc ⟨rfl, rfl⟩)
        generalize hW5 : wr.alloc (.cells #[.int .i64 0, .int .i64 0] 39) = W5 at *
        clear hW5 b5
        generalize hP : wr.heap.size = P at *
        have hw' := hw
        obtain ⟨gg, hgg⟩ : ∃ gg, gg = oneS ⟨ltr l i, ars l i⟩ (0, 0) ([] : List Seg) was := ⟨_, rfl⟩
        have HE2 : Hid ((if inR gg then walkR ([gg]) (capL (ltr l i)) (l.drop (i + 1)) (i + 1) else (([] : List Seg), (i : Int))) = RES) := by have hE4 := HE.out; rw [hopen] at hE4; rw [hgg]; exact hE4
        have HIN := Lib.hid (show inB gg ↔ inR gg by rw [hgg]; exact one_in _ hw _ _ _)
        have dw : Below W5.heap.size W5 W5.drew := (Below.refl _ W5).drew
        have HPd := Lib.hid (HP5.out.next dw)
        have HOd := Lib.hid (HO5.out.next dw)
        have HKd := Lib.hid (HK5.out.next dw)
        have HBd := Lib.hid (HB5.out.trans (dw.mono HB5.out.size))
        obtain ⟨I5, r2', r3'⟩ := IA.out W5 HB5.out
        have hbW5 : b < W5.heap.size := Nat.lt_of_lt_of_le hb HB5.out.size
        have hPW5 : P < W5.heap.size := HP5.out.lt
        have p0 := HP5.out.c0
        have p1 := HP5.out.c1
        have ON := Lib.hid (show ∀ W, Below W5.heap.size W5 W → Calls Tryz.prog 37 #[.agg #[.int .u8 (ltr l i : Int), .slice aa (ars l i).length ac], .agg #[.int .i64 0, .int .i64 0], .slice none 0 0, .int .u8 (was : Int)] W fun e w' => e = .returned (.agg #[.int .i64 gg.kind, .int .i64 gg.tx, .int .i64 gg.ty, .int .i64 gg.ax, .int .i64 gg.ay, .int .i64 gg.cx, .int .i64 gg.cy, .int .i64 gg.rx, .int .i64 gg.ry, .int .i64 gg.turn, .bool gg.lg, .bool gg.sw]) ∧ Below W.heap.size W w' from fun W t => by
          have h := rone7_any (ltr l i) aa ac (ars l i) 0 0 none ([] : List Seg) 0 was W hw (IA.out W (HB5.out.trans (t.mono HB5.out.size))).1 (Or.inl rfl) hKl hpt HKIN.out (fun _ => h77)
          rw [← hgg] at h
          exact h)
        have dz : Below W5.heap.size W5 (W5.alloc (.cells zeroS.cells.toArray 42)).drew := ((Below.refl _ W5).alloc (Nat.le_refl _) _).drew
        have HXz : Hid (BoxS W5.heap.size zeroS (W5.alloc (.cells zeroS.cells.toArray 42)).drew) := World.alloc_heap_new W5 _
        clear hgg I5 r2 r3
        go_region_held3 (fun w' => w'.cell? ⟨b, off + i * 2, none⟩ = some (.int .u8 (ltr l i : Int)) ∧ w'.cell? ⟨b, off + i * 2 + 1, none⟩ = some (.slice aa (ars l i).length ac) ∧ w'.cell? ⟨P, 0, none⟩ = some (.int .i64 0) ∧ w'.cell? ⟨P, 1, none⟩ = some (.int .i64 0)) (first | (simp [go_sem, *]; done) | (exact ⟨by assumption, by assumption, by assumption, by assumption⟩))
          (first
            | (go_at_call 37; refine (ON.out W5.drew dw).mono ?_; rintro e w6 ⟨rfl, b6⟩; have HT6 := Lib.hid (dw.trans (b6.mono dw.size)); have HP6 := Lib.hid (HP5.out.next HT6.out); have HO6 := Lib.hid (HO5.out.next HT6.out); have HK6 := Lib.hid (HK5.out.next HT6.out); have HB6 := Lib.hid (HB5.out.trans (HT6.out.mono HB5.out.size)); have hP6 := HP6.out.lt; have hb6 := Nat.lt_of_lt_of_le hb HB6.out.size; have q0 := HP6.out.c0; have q1 := HP6.out.c1; have q2 := (IA.out w6 HB6.out).2.1; have q3 := (IA.out w6 HB6.out).2.2; have HKIND : Hid (0 = 0) := rfl; clear b6)
            | (go_at_call 37; refine (ON.out (W5.alloc (.cells zeroS.cells.toArray 42)).drew dz).mono ?_; rintro e w6 ⟨rfl, b6⟩; have HT6 := Lib.hid (dz.trans (b6.mono dz.size)); have HP6 := Lib.hid (HP5.out.next HT6.out); have HO6 := Lib.hid (HO5.out.next HT6.out); have HK6 := Lib.hid (HK5.out.next HT6.out); have HB6 := Lib.hid (HB5.out.trans (HT6.out.mono HB5.out.size)); have hP6 := HP6.out.lt; have hb6 := Nat.lt_of_lt_of_le hb HB6.out.size; have q0 := HP6.out.c0; have q1 := HP6.out.c1; have q2 := (IA.out w6 HB6.out).2.1; have q3 := (IA.out w6 HB6.out).2.2; have HX6 := Lib.hid (HXz.out.next b6); obtain ⟨z0, z1, z2, z3, z4, z5, z6, z7, z8, z9, z10, z11⟩ := SegAt.of_block HX6.out; simp only [Nat.zero_add] at z1 z2 z3 z4 z5 z6 z7 z8 z9 z10 z11; have zz0 := HX6.out.z 0; have zz1 := HX6.out.z 1; have zz2 := HX6.out.z 2; have zz3 := HX6.out.z 3; have zz4 := HX6.out.z 4; have zz5 := HX6.out.z 5; have zz6 := HX6.out.z 6; have zz7 := HX6.out.z 7; have zz8 := HX6.out.z 8; have zz9 := HX6.out.z 9; have zz10 := HX6.out.z 10; have zz11 := HX6.out.z 11; have nbX := Nat.ne_of_lt hbW5; have nXb := Ne.symm nbX; have nPX := Nat.ne_of_lt hPW5; have nXP := Ne.symm nPX; clear b6))
        next =>
          have b7 := (Below.refl w6.heap.size w6).alloc (Nat.le_refl _) (.cells #[.int .i64 gg.kind, .int .i64 gg.tx, .int .i64 gg.ty, .int .i64 gg.ax, .int .i64 gg.ay, .int .i64 gg.cx, .int .i64 gg.cy, .int .i64 gg.rx, .int .i64 gg.ry, .int .i64 gg.turn, .bool gg.lg, .bool gg.sw] 42)
          have HX7 : Hid (BoxS w6.heap.size gg (w6.alloc (.cells #[.int .i64 gg.kind, .int .i64 gg.tx, .int .i64 gg.ty, .int .i64 gg.ax, .int .i64 gg.ay, .int .i64 gg.cx, .int .i64 gg.cy, .int .i64 gg.rx, .int .i64 gg.ry, .int .i64 gg.turn, .bool gg.lg, .bool gg.sw] 42))) := World.alloc_heap_new w6 _
          have HO7 := Lib.hid (HO6.out.next b7)
          have HK7 := Lib.hid (HK6.out.next b7)
          have HB7 := Lib.hid (HB6.out.trans (b7.mono HB6.out.size))
          generalize hX : w6.heap.size = X at *
          generalize hW7 : w6.alloc (.cells #[.int .i64 gg.kind, .int .i64 gg.tx, .int .i64 gg.ty, .int .i64 gg.ax, .int .i64 gg.ay, .int .i64 gg.cx, .int .i64 gg.cy, .int .i64 gg.rx, .int .i64 gg.ry, .int .i64 gg.turn, .bool gg.lg, .bool gg.sw] 42) = W7 at *
          clear b7 hX hW7 p0 p1 q0 q1 q2 q3 r2' r3' ON HP6 HO6 HK6 HB6 HT6 HP5 HO5 HK5 HB5 HXz dw dz hP6 hb6 HKIND
          have N1 := Lib.hid (fun w => rin_any gg.tx gg.ty w)
          have N2 := Lib.hid (fun w => rin_any gg.ax gg.ay w)
          have N3 := Lib.hid (fun w => rin_any gg.cx gg.cy w)
          obtain ⟨_, y1, y2, y3, y4, y5, y6, _⟩ := SegAt.of_block HX7.out
          simp only [Nat.zero_add] at y1 y2 y3 y4 y5 y6
          go_wp2_with fail
          refine (N1.out _).mono ?_
          rintro e w8 ⟨rfl, b8⟩
          have HX8 := Lib.hid (HX7.out.next b8)
          have HO8 := Lib.hid (HO7.out.next b8)
          have HK8 := Lib.hid (HK7.out.next b8)
          have HB8 := Lib.hid (HB7.out.trans (b8.mono HB7.out.size))
          clear b8 y1 y2 y3 y4 y5 y6 HX7 HO7 HK7 HB7 N1
          obtain ⟨_, y1, y2, y3, y4, y5, y6, _⟩ := SegAt.of_block HX8.out
          simp only [Nat.zero_add] at y1 y2 y3 y4 y5 y6
          by_cases c1 : In32 gg.tx ∧ In32 gg.ty
          · rw [decide_eq_true c1]
            go_wp2_with fail
            refine (N2.out _).mono ?_
            rintro e w9 ⟨rfl, b9⟩
            have HX9 := Lib.hid (HX8.out.next b9)
            have HO9 := Lib.hid (HO8.out.next b9)
            have HK9 := Lib.hid (HK8.out.next b9)
            have HB9 := Lib.hid (HB8.out.trans (b9.mono HB8.out.size))
            clear b9 y1 y2 y3 y4 y5 y6 HX8 HO8 HK8 HB8 N2
            obtain ⟨_, y1, y2, y3, y4, y5, y6, _⟩ := SegAt.of_block HX9.out
            simp only [Nat.zero_add] at y1 y2 y3 y4 y5 y6
            by_cases c2 : In32 gg.ax ∧ In32 gg.ay
            · rw [decide_eq_true c2]
              go_wp2_with fail
              refine (N3.out _).mono ?_
              rintro e wA ⟨rfl, bA⟩
              have HXA := Lib.hid (HX9.out.next bA)
              have HOA := Lib.hid (HO9.out.next bA)
              have HKA := Lib.hid (HK9.out.next bA)
              have HBA := Lib.hid (HB9.out.trans (bA.mono HB9.out.size))
              clear bA y1 y2 y3 y4 y5 y6 HX9 HO9 HK9 HB9 N3
              by_cases c3 : In32 gg.cx ∧ In32 gg.cy
              · rw [decide_eq_true c3]
                have hE3 := HE2.out
                rw [if_pos ⟨c1, c2, c3⟩] at hE3
                have HE3 := Lib.hid hE3
                have hgin := HIN.out.2 ⟨c1, c2, c3⟩
                clear hE3 HE2 HE
                go_upto_region 17 with fail
                have hXs := HXA.out.lt
                obtain ⟨g0, g1, g2, g3, g4, g5, g6, g7, g8, g9, g10, g11⟩ := SegAt.of_block HXA.out
                simp only [Nat.zero_add] at g1 g2 g3 g4 g5 g6 g7 g8 g9 g10 g11
                have hRA : w.heap.size ≤ wA.heap.size := HBA.out.size
                have sE : (wA.alloc (.cells #[] 42)).heap.size = wA.heap.size + 1 := by simp
                have sG : (wA.alloc (.cells #[.int .i64 gg.kind, .int .i64 gg.tx, .int .i64 gg.ty, .int .i64 gg.ax, .int .i64 gg.ay, .int .i64 gg.cx, .int .i64 gg.cy, .int .i64 gg.rx, .int .i64 gg.ry, .int .i64 gg.turn, .bool gg.lg, .bool gg.sw] 42)).heap.size = wA.heap.size + 1 := by simp
                have a3 := (Below.refl wA.heap.size wA).alloc (Nat.le_refl _) (.cells #[] 42)
                have t3 : Below wA.heap.size wA (wA.alloc (.cells #[] 42)).drew := a3.drew
                have a2 := (Below.refl (wA.alloc (.cells #[] 42)).heap.size _).alloc (Nat.le_refl _) (.cells #[.int .i64 gg.kind, .int .i64 gg.tx, .int .i64 gg.ty, .int .i64 gg.ax, .int .i64 gg.ay, .int .i64 gg.cx, .int .i64 gg.cy, .int .i64 gg.rx, .int .i64 gg.ry, .int .i64 gg.turn, .bool gg.lg, .bool gg.sw] 42)
                have t2 : Below wA.heap.size wA ((wA.alloc (.cells #[] 42)).alloc (.cells #[.int .i64 gg.kind, .int .i64 gg.tx, .int .i64 gg.ty, .int .i64 gg.ax, .int .i64 gg.ay, .int .i64 gg.cx, .int .i64 gg.cy, .int .i64 gg.rx, .int .i64 gg.ry, .int .i64 gg.turn, .bool gg.lg, .bool gg.sw] 42)).drew := (a3.trans (a2.mono a3.size)).drew
                have a1 := (Below.refl wA.heap.size wA).alloc (Nat.le_refl _) (.cells #[.int .i64 gg.kind, .int .i64 gg.tx, .int .i64 gg.ty, .int .i64 gg.ax, .int .i64 gg.ay, .int .i64 gg.cx, .int .i64 gg.cy, .int .i64 gg.rx, .int .i64 gg.ry, .int .i64 gg.turn, .bool gg.lg, .bool gg.sw] 42)
                have a1' := (Below.refl (wA.alloc (.cells #[.int .i64 gg.kind, .int .i64 gg.tx, .int .i64 gg.ty, .int .i64 gg.ax, .int .i64 gg.ay, .int .i64 gg.cx, .int .i64 gg.cy, .int .i64 gg.rx, .int .i64 gg.ry, .int .i64 gg.turn, .bool gg.lg, .bool gg.sw] 42)).heap.size _).alloc (Nat.le_refl _) (.cells #[] 42)
                have t1 : Below wA.heap.size wA ((wA.alloc (.cells #[.int .i64 gg.kind, .int .i64 gg.tx, .int .i64 gg.ty, .int .i64 gg.ax, .int .i64 gg.ay, .int .i64 gg.cx, .int .i64 gg.cy, .int .i64 gg.rx, .int .i64 gg.ry, .int .i64 gg.turn, .bool gg.lg, .bool gg.sw] 42)).alloc (.cells #[] 42)).drew := (a1.trans (a1'.mono a1.size)).drew
                have E2 : Hid (Segs w.heap.size (.slice (some ⟨wA.heap.size, 0, none⟩) 0 0) [] ((wA.alloc (.cells #[] 42)).alloc (.cells #[.int .i64 gg.kind, .int .i64 gg.tx, .int .i64 gg.ty, .int .i64 gg.ax, .int .i64 gg.ay, .int .i64 gg.cx, .int .i64 gg.cy, .int .i64 gg.rx, .int .i64 gg.ry, .int .i64 gg.turn, .bool gg.lg, .bool gg.sw] 42)).drew) := emptyRow ((a2.block _ (by omega)).trans (World.alloc_heap_new wA _)) hRA
                have E1 : Hid (Segs w.heap.size (.slice (some ⟨wA.heap.size + 1, 0, none⟩) 0 0) [] ((wA.alloc (.cells #[.int .i64 gg.kind, .int .i64 gg.tx, .int .i64 gg.ty, .int .i64 gg.ax, .int .i64 gg.ay, .int .i64 gg.cx, .int .i64 gg.cy, .int .i64 gg.rx, .int .i64 gg.ry, .int .i64 gg.turn, .bool gg.lg, .bool gg.sw] 42)).alloc (.cells #[] 42)).drew) := emptyRow (by have h := World.alloc_heap_new (wA.alloc (.cells #[.int .i64 gg.kind, .int .i64 gg.tx, .int .i64 gg.ty, .int .i64 gg.ax, .int .i64 gg.ay, .int .i64 gg.cx, .int .i64 gg.cy, .int .i64 gg.rx, .int .i64 gg.ry, .int .i64 gg.turn, .bool gg.lg, .bool gg.sw] 42)) (.cells #[] 42); rw [sG] at h; exact h) (by omega)
                have S2 : Hid (BoxS (wA.heap.size + 1) gg ((wA.alloc (.cells #[] 42)).alloc (.cells #[.int .i64 gg.kind, .int .i64 gg.tx, .int .i64 gg.ty, .int .i64 gg.ax, .int .i64 gg.ay, .int .i64 gg.cx, .int .i64 gg.cy, .int .i64 gg.rx, .int .i64 gg.ry, .int .i64 gg.turn, .bool gg.lg, .bool gg.sw] 42)).drew) := by have h := World.alloc_heap_new (wA.alloc (.cells #[] 42)) (.cells #[.int .i64 gg.kind, .int .i64 gg.tx, .int .i64 gg.ty, .int .i64 gg.ax, .int .i64 gg.ay, .int .i64 gg.cx, .int .i64 gg.cy, .int .i64 gg.rx, .int .i64 gg.ry, .int .i64 gg.turn, .bool gg.lg, .bool gg.sw] 42); rw [sE] at h; exact h
                have S1 : Hid (BoxS wA.heap.size gg ((wA.alloc (.cells #[.int .i64 gg.kind, .int .i64 gg.tx, .int .i64 gg.ty, .int .i64 gg.ax, .int .i64 gg.ay, .int .i64 gg.cx, .int .i64 gg.cy, .int .i64 gg.rx, .int .i64 gg.ry, .int .i64 gg.turn, .bool gg.lg, .bool gg.sw] 42)).alloc (.cells #[] 42)).drew) := (a1'.block _ (by omega)).trans (World.alloc_heap_new wA _)
                have X2 := Lib.hid (HXA.out.next t2)
                have X1 := Lib.hid (HXA.out.next t1)
                have B2 := Lib.hid (HBA.out.trans (t2.mono hRA))
                have B1 := Lib.hid (HBA.out.trans (t1.mono hRA))
                have q2 := t2.size
                have q1 := t1.size
                clear a1 a1' a2 a3 t1 t2 t3
                go_region_held3 (fun w' => w'.cell? ⟨X, 0, none⟩ = some (.int .i64 gg.kind) ∧ w'.cell? ⟨X, 1, none⟩ = some (.int .i64 gg.tx) ∧ w'.cell? ⟨X, 2, none⟩ = some (.int .i64 gg.ty) ∧ w'.cell? ⟨X, 3, none⟩ = some (.int .i64 gg.ax) ∧ w'.cell? ⟨X, 4, none⟩ = some (.int .i64 gg.ay) ∧ w'.cell? ⟨X, 5, none⟩ = some (.int .i64 gg.cx) ∧ w'.cell? ⟨X, 6, none⟩ = some (.int .i64 gg.cy) ∧ w'.cell? ⟨X, 7, none⟩ = some (.int .i64 gg.rx) ∧ w'.cell? ⟨X, 8, none⟩ = some (.int .i64 gg.ry) ∧ w'.cell? ⟨X, 9, none⟩ = some (.int .i64 gg.turn) ∧ w'.cell? ⟨X, 10, none⟩ = some (.bool gg.lg) ∧ w'.cell? ⟨X, 11, none⟩ = some (.bool gg.sw)) (first | (simp [go_sem, *]; done) | (exact ⟨by assumption, by assumption, by assumption, by assumption, by assumption, by assumption, by assumption, by assumption, by assumption, by assumption, by assumption, by assumption⟩))
                  (first
                    | (refine step_none (by rfl) (.tmp 80) (.tmp 81) (by rfl) (by rfl) (by rfl) ?_)
                    | ((refine step_seg (by rfl) (.tmp 82) (.tmp 84) (by rfl) gg E2.out (by rfl) S2.out (by rfl) (by decide) B2.out.size _ rfl ?_; intro d2 e2 f2 h2 i2 j2 l2; have R2 := Lib.hid h2; have BG := Lib.hid (B2.out.trans (grown_below7 E2.out B2.out.size i2)); have XG := X2.out.grown i2 (by show some X ≠ some wA.heap.size; simp; omega); obtain ⟨v0, v1, v2, v3, v4, v5, v6, v7, v8, v9, v10, v11⟩ := SegAt.of_block XG; simp only [Nat.zero_add] at v1 v2 v3 v4 v5 v6 v7 v8 v9 v10 v11))
                    | (refine step_seg (by rfl) (.tmp 82) (.tmp 84) (by rfl) gg E1.out (by rfl) S1.out (by rfl) (by decide) B1.out.size _ rfl ?_; intro d2 e2 f2 h2 i2 j2 l2; have R2 := Lib.hid h2; have BG := Lib.hid (B1.out.trans (grown_below7 E1.out B1.out.size i2)); have XG := X1.out.grown i2 (by show some X ≠ some (wA.heap.size + 1); simp; omega); obtain ⟨v0, v1, v2, v3, v4, v5, v6, v7, v8, v9, v10, v11⟩ := SegAt.of_block XG; simp only [Nat.zero_add] at v1 v2 v3 v4 v5 v6 v7 v8 v9 v10 v11))
                all_goals
                  obtain ⟨_, m2, m3⟩ := IA.out f2 BG.out
                  have hbf : b < f2.heap.size := Nat.lt_of_lt_of_le hb BG.out.size
                  clear v0 v1 v2 v3 v4 v5 v6 v7 v8 v9 v10 v11 g0 g1 g2 g3 g4 g5 g6 g7 g8 g9 g10 g11 E1 E2 S1 S2 X1 X2 B1 B2 HXA HOA HKA HBA
                  go_wp2_with fail
                  refine (CA.out _).mono ?_
                  rintro e wc ⟨rfl, rfl⟩
                  go_wp2_with fail
                  go_roundw
                  case rel => exact ⟨i + 1, capL (ltr l i), [gg], (by rw [h77]; rfl), by go_num, by omega, by simp only [List.length_cons, List.length_nil]; omega, fun _ => by simp, R2.out, fun _ => hgin, BG.out, HE3, fun h => absurd h (by omega)⟩
                  case measure => simp [intOf]; omega
              · rw [decide_eq_false c3]
                have hE3 := HE2.out
                rw [if_neg (fun h => c3 h.2.2)] at hE3
                subst hE3
                obtain ⟨a9, c9, e9, hr9, hc9⟩ := HOA.out.reads
                cases e9
                clear HE HE2
                go_wp2_with fail
                go_ret2
                exact ⟨_, _, rfl, hr9, hc9, HBA.out⟩
            · rw [decide_eq_false c2]
              have hE3 := HE2.out
              rw [if_neg (fun h => c2 h.2.1)] at hE3
              subst hE3
              obtain ⟨a9, c9, e9, hr9, hc9⟩ := HO9.out.reads
              cases e9
              clear HE HE2
              go_wp2_with fail
              go_ret2
              exact ⟨_, _, rfl, hr9, hc9, HB9.out⟩
          · rw [decide_eq_false c1]
            have hE3 := HE2.out
            rw [if_neg (fun h => c1 h.1)] at hE3
            subst hE3
            obtain ⟨a9, c9, e9, hr9, hc9⟩ := HO8.out.reads
            cases e9
            clear HE HE2
            go_wp2_with fail
            go_ret2
            exact ⟨_, _, rfl, hr9, hc9, HB8.out⟩
        next =>
          have nO : some W5.heap.size ≠ (Value.slice none 0 0).ownBlock := fun e => by have := (own_type HO5.out _ e.symm).1; omega
          have nK : some W5.heap.size ≠ (Value.slice none 0 0).ownBlock := fun e => by have := (own_type HK5.out _ e.symm).1; omega
          have HX7 := Lib.hid (HX6.out.put gg)
          have HO7 := Lib.hid (HO6.out.put nO gg)
          have HK7 := Lib.hid (HK6.out.put nK gg)
          have HB7 := Lib.hid (below_put HB6.out HB5.out.size gg)
          unfold put12 at HX7 HO7 HK7 HB7
          generalize hX : W5.heap.size = X at *
          generalize hW7 : World.setCell _ _ _ = W7 at *
          clear hX hW7 p0 p1 q0 q1 q2 q3 r2' r3' ON HP6 HO6 HK6 HB6 HT6 HP5 HO5 HK5 HB5 HXz dw dz hP6 hb6 HX6 nO nK z0 z1 z2 z3 z4 z5 z6 z7 z8 z9 z10 z11 zz0 zz1 zz2 zz3 zz4 zz5 zz6 zz7 zz8 zz9 zz10 zz11 nXb nbX nXP nPX
          have N1 := Lib.hid (fun w => rin_any gg.tx gg.ty w)
          have N2 := Lib.hid (fun w => rin_any gg.ax gg.ay w)
          have N3 := Lib.hid (fun w => rin_any gg.cx gg.cy w)
          obtain ⟨_, y1, y2, y3, y4, y5, y6, _⟩ := SegAt.of_block HX7.out
          simp only [Nat.zero_add] at y1 y2 y3 y4 y5 y6
          go_wp2_with fail
          refine (N1.out _).mono ?_
          rintro e w8 ⟨rfl, b8⟩
          have HX8 := Lib.hid (HX7.out.next b8)
          have HO8 := Lib.hid (HO7.out.next b8)
          have HK8 := Lib.hid (HK7.out.next b8)
          have HB8 := Lib.hid (HB7.out.trans (b8.mono HB7.out.size))
          clear b8 y1 y2 y3 y4 y5 y6 HX7 HO7 HK7 HB7 N1
          obtain ⟨_, y1, y2, y3, y4, y5, y6, _⟩ := SegAt.of_block HX8.out
          simp only [Nat.zero_add] at y1 y2 y3 y4 y5 y6
          by_cases c1 : In32 gg.tx ∧ In32 gg.ty
          · rw [decide_eq_true c1]
            go_wp2_with fail
            refine (N2.out _).mono ?_
            rintro e w9 ⟨rfl, b9⟩
            have HX9 := Lib.hid (HX8.out.next b9)
            have HO9 := Lib.hid (HO8.out.next b9)
            have HK9 := Lib.hid (HK8.out.next b9)
            have HB9 := Lib.hid (HB8.out.trans (b9.mono HB8.out.size))
            clear b9 y1 y2 y3 y4 y5 y6 HX8 HO8 HK8 HB8 N2
            obtain ⟨_, y1, y2, y3, y4, y5, y6, _⟩ := SegAt.of_block HX9.out
            simp only [Nat.zero_add] at y1 y2 y3 y4 y5 y6
            by_cases c2 : In32 gg.ax ∧ In32 gg.ay
            · rw [decide_eq_true c2]
              go_wp2_with fail
              refine (N3.out _).mono ?_
              rintro e wA ⟨rfl, bA⟩
              have HXA := Lib.hid (HX9.out.next bA)
              have HOA := Lib.hid (HO9.out.next bA)
              have HKA := Lib.hid (HK9.out.next bA)
              have HBA := Lib.hid (HB9.out.trans (bA.mono HB9.out.size))
              clear bA y1 y2 y3 y4 y5 y6 HX9 HO9 HK9 HB9 N3
              by_cases c3 : In32 gg.cx ∧ In32 gg.cy
              · rw [decide_eq_true c3]
                have hE3 := HE2.out
                rw [if_pos ⟨c1, c2, c3⟩] at hE3
                have HE3 := Lib.hid hE3
                have hgin := HIN.out.2 ⟨c1, c2, c3⟩
                clear hE3 HE2 HE
                go_upto_region 17 with fail
                have hXs := HXA.out.lt
                obtain ⟨g0, g1, g2, g3, g4, g5, g6, g7, g8, g9, g10, g11⟩ := SegAt.of_block HXA.out
                simp only [Nat.zero_add] at g1 g2 g3 g4 g5 g6 g7 g8 g9 g10 g11
                have hRA : w.heap.size ≤ wA.heap.size := HBA.out.size
                have sE : (wA.alloc (.cells #[] 42)).heap.size = wA.heap.size + 1 := by simp
                have sG : (wA.alloc (.cells #[.int .i64 gg.kind, .int .i64 gg.tx, .int .i64 gg.ty, .int .i64 gg.ax, .int .i64 gg.ay, .int .i64 gg.cx, .int .i64 gg.cy, .int .i64 gg.rx, .int .i64 gg.ry, .int .i64 gg.turn, .bool gg.lg, .bool gg.sw] 42)).heap.size = wA.heap.size + 1 := by simp
                have a3 := (Below.refl wA.heap.size wA).alloc (Nat.le_refl _) (.cells #[] 42)
                have t3 : Below wA.heap.size wA (wA.alloc (.cells #[] 42)).drew := a3.drew
                have a2 := (Below.refl (wA.alloc (.cells #[] 42)).heap.size _).alloc (Nat.le_refl _) (.cells #[.int .i64 gg.kind, .int .i64 gg.tx, .int .i64 gg.ty, .int .i64 gg.ax, .int .i64 gg.ay, .int .i64 gg.cx, .int .i64 gg.cy, .int .i64 gg.rx, .int .i64 gg.ry, .int .i64 gg.turn, .bool gg.lg, .bool gg.sw] 42)
                have t2 : Below wA.heap.size wA ((wA.alloc (.cells #[] 42)).alloc (.cells #[.int .i64 gg.kind, .int .i64 gg.tx, .int .i64 gg.ty, .int .i64 gg.ax, .int .i64 gg.ay, .int .i64 gg.cx, .int .i64 gg.cy, .int .i64 gg.rx, .int .i64 gg.ry, .int .i64 gg.turn, .bool gg.lg, .bool gg.sw] 42)).drew := (a3.trans (a2.mono a3.size)).drew
                have a1 := (Below.refl wA.heap.size wA).alloc (Nat.le_refl _) (.cells #[.int .i64 gg.kind, .int .i64 gg.tx, .int .i64 gg.ty, .int .i64 gg.ax, .int .i64 gg.ay, .int .i64 gg.cx, .int .i64 gg.cy, .int .i64 gg.rx, .int .i64 gg.ry, .int .i64 gg.turn, .bool gg.lg, .bool gg.sw] 42)
                have a1' := (Below.refl (wA.alloc (.cells #[.int .i64 gg.kind, .int .i64 gg.tx, .int .i64 gg.ty, .int .i64 gg.ax, .int .i64 gg.ay, .int .i64 gg.cx, .int .i64 gg.cy, .int .i64 gg.rx, .int .i64 gg.ry, .int .i64 gg.turn, .bool gg.lg, .bool gg.sw] 42)).heap.size _).alloc (Nat.le_refl _) (.cells #[] 42)
                have t1 : Below wA.heap.size wA ((wA.alloc (.cells #[.int .i64 gg.kind, .int .i64 gg.tx, .int .i64 gg.ty, .int .i64 gg.ax, .int .i64 gg.ay, .int .i64 gg.cx, .int .i64 gg.cy, .int .i64 gg.rx, .int .i64 gg.ry, .int .i64 gg.turn, .bool gg.lg, .bool gg.sw] 42)).alloc (.cells #[] 42)).drew := (a1.trans (a1'.mono a1.size)).drew
                have E2 : Hid (Segs w.heap.size (.slice (some ⟨wA.heap.size, 0, none⟩) 0 0) [] ((wA.alloc (.cells #[] 42)).alloc (.cells #[.int .i64 gg.kind, .int .i64 gg.tx, .int .i64 gg.ty, .int .i64 gg.ax, .int .i64 gg.ay, .int .i64 gg.cx, .int .i64 gg.cy, .int .i64 gg.rx, .int .i64 gg.ry, .int .i64 gg.turn, .bool gg.lg, .bool gg.sw] 42)).drew) := emptyRow ((a2.block _ (by omega)).trans (World.alloc_heap_new wA _)) hRA
                have E1 : Hid (Segs w.heap.size (.slice (some ⟨wA.heap.size + 1, 0, none⟩) 0 0) [] ((wA.alloc (.cells #[.int .i64 gg.kind, .int .i64 gg.tx, .int .i64 gg.ty, .int .i64 gg.ax, .int .i64 gg.ay, .int .i64 gg.cx, .int .i64 gg.cy, .int .i64 gg.rx, .int .i64 gg.ry, .int .i64 gg.turn, .bool gg.lg, .bool gg.sw] 42)).alloc (.cells #[] 42)).drew) := emptyRow (by have h := World.alloc_heap_new (wA.alloc (.cells #[.int .i64 gg.kind, .int .i64 gg.tx, .int .i64 gg.ty, .int .i64 gg.ax, .int .i64 gg.ay, .int .i64 gg.cx, .int .i64 gg.cy, .int .i64 gg.rx, .int .i64 gg.ry, .int .i64 gg.turn, .bool gg.lg, .bool gg.sw] 42)) (.cells #[] 42); rw [sG] at h; exact h) (by omega)
                have S2 : Hid (BoxS (wA.heap.size + 1) gg ((wA.alloc (.cells #[] 42)).alloc (.cells #[.int .i64 gg.kind, .int .i64 gg.tx, .int .i64 gg.ty, .int .i64 gg.ax, .int .i64 gg.ay, .int .i64 gg.cx, .int .i64 gg.cy, .int .i64 gg.rx, .int .i64 gg.ry, .int .i64 gg.turn, .bool gg.lg, .bool gg.sw] 42)).drew) := by have h := World.alloc_heap_new (wA.alloc (.cells #[] 42)) (.cells #[.int .i64 gg.kind, .int .i64 gg.tx, .int .i64 gg.ty, .int .i64 gg.ax, .int .i64 gg.ay, .int .i64 gg.cx, .int .i64 gg.cy, .int .i64 gg.rx, .int .i64 gg.ry, .int .i64 gg.turn, .bool gg.lg, .bool gg.sw] 42); rw [sE] at h; exact h
                have S1 : Hid (BoxS wA.heap.size gg ((wA.alloc (.cells #[.int .i64 gg.kind, .int .i64 gg.tx, .int .i64 gg.ty, .int .i64 gg.ax, .int .i64 gg.ay, .int .i64 gg.cx, .int .i64 gg.cy, .int .i64 gg.rx, .int .i64 gg.ry, .int .i64 gg.turn, .bool gg.lg, .bool gg.sw] 42)).alloc (.cells #[] 42)).drew) := (a1'.block _ (by omega)).trans (World.alloc_heap_new wA _)
                have X2 := Lib.hid (HXA.out.next t2)
                have X1 := Lib.hid (HXA.out.next t1)
                have B2 := Lib.hid (HBA.out.trans (t2.mono hRA))
                have B1 := Lib.hid (HBA.out.trans (t1.mono hRA))
                have q2 := t2.size
                have q1 := t1.size
                clear a1 a1' a2 a3 t1 t2 t3
                go_region_held3 (fun w' => w'.cell? ⟨X, 0, none⟩ = some (.int .i64 gg.kind) ∧ w'.cell? ⟨X, 1, none⟩ = some (.int .i64 gg.tx) ∧ w'.cell? ⟨X, 2, none⟩ = some (.int .i64 gg.ty) ∧ w'.cell? ⟨X, 3, none⟩ = some (.int .i64 gg.ax) ∧ w'.cell? ⟨X, 4, none⟩ = some (.int .i64 gg.ay) ∧ w'.cell? ⟨X, 5, none⟩ = some (.int .i64 gg.cx) ∧ w'.cell? ⟨X, 6, none⟩ = some (.int .i64 gg.cy) ∧ w'.cell? ⟨X, 7, none⟩ = some (.int .i64 gg.rx) ∧ w'.cell? ⟨X, 8, none⟩ = some (.int .i64 gg.ry) ∧ w'.cell? ⟨X, 9, none⟩ = some (.int .i64 gg.turn) ∧ w'.cell? ⟨X, 10, none⟩ = some (.bool gg.lg) ∧ w'.cell? ⟨X, 11, none⟩ = some (.bool gg.sw)) (first | (simp [go_sem, *]; done) | (exact ⟨by assumption, by assumption, by assumption, by assumption, by assumption, by assumption, by assumption, by assumption, by assumption, by assumption, by assumption, by assumption⟩))
                  (first
                    | (refine step_none (by rfl) (.tmp 80) (.tmp 81) (by rfl) (by rfl) (by rfl) ?_)
                    | ((refine step_seg (by rfl) (.tmp 82) (.tmp 84) (by rfl) gg E2.out (by rfl) S2.out (by rfl) (by decide) B2.out.size _ rfl ?_; intro d2 e2 f2 h2 i2 j2 l2; have R2 := Lib.hid h2; have BG := Lib.hid (B2.out.trans (grown_below7 E2.out B2.out.size i2)); have XG := X2.out.grown i2 (by show some X ≠ some wA.heap.size; simp; omega); obtain ⟨v0, v1, v2, v3, v4, v5, v6, v7, v8, v9, v10, v11⟩ := SegAt.of_block XG; simp only [Nat.zero_add] at v1 v2 v3 v4 v5 v6 v7 v8 v9 v10 v11))
                    | (refine step_seg (by rfl) (.tmp 82) (.tmp 84) (by rfl) gg E1.out (by rfl) S1.out (by rfl) (by decide) B1.out.size _ rfl ?_; intro d2 e2 f2 h2 i2 j2 l2; have R2 := Lib.hid h2; have BG := Lib.hid (B1.out.trans (grown_below7 E1.out B1.out.size i2)); have XG := X1.out.grown i2 (by show some X ≠ some (wA.heap.size + 1); simp; omega); obtain ⟨v0, v1, v2, v3, v4, v5, v6, v7, v8, v9, v10, v11⟩ := SegAt.of_block XG; simp only [Nat.zero_add] at v1 v2 v3 v4 v5 v6 v7 v8 v9 v10 v11))
                all_goals
                  obtain ⟨_, m2, m3⟩ := IA.out f2 BG.out
                  have hbf : b < f2.heap.size := Nat.lt_of_lt_of_le hb BG.out.size
                  clear v0 v1 v2 v3 v4 v5 v6 v7 v8 v9 v10 v11 g0 g1 g2 g3 g4 g5 g6 g7 g8 g9 g10 g11 E1 E2 S1 S2 X1 X2 B1 B2 HXA HOA HKA HBA
                  go_wp2_with fail
                  refine (CA.out _).mono ?_
                  rintro e wc ⟨rfl, rfl⟩
                  go_wp2_with fail
                  go_roundw
                  case rel => exact ⟨i + 1, capL (ltr l i), [gg], (by rw [h77]; rfl), by go_num, by omega, by simp only [List.length_cons, List.length_nil]; omega, fun _ => by simp, R2.out, fun _ => hgin, BG.out, HE3, fun h => absurd h (by omega)⟩
                  case measure => simp [intOf]; omega
              · rw [decide_eq_false c3]
                have hE3 := HE2.out
                rw [if_neg (fun h => c3 h.2.2)] at hE3
                subst hE3
                obtain ⟨a9, c9, e9, hr9, hc9⟩ := HOA.out.reads
                cases e9
                clear HE HE2
                go_wp2_with fail
                go_ret2
                exact ⟨_, _, rfl, hr9, hc9, HBA.out⟩
            · rw [decide_eq_false c2]
              have hE3 := HE2.out
              rw [if_neg (fun h => c2 h.2.1)] at hE3
              subst hE3
              obtain ⟨a9, c9, e9, hr9, hc9⟩ := HO9.out.reads
              cases e9
              clear HE HE2
              go_wp2_with fail
              go_ret2
              exact ⟨_, _, rfl, hr9, hc9, HB9.out⟩
          · rw [decide_eq_false c1]
            have hE3 := HE2.out
            rw [if_neg (fun h => c1 h.1)] at hE3
            subst hE3
            obtain ⟨a9, c9, e9, hr9, hc9⟩ := HO8.out.reads
            cases e9
            clear HE HE2
            go_wp2_with fail
            go_ret2
            exact ⟨_, _, rfl, hr9, hc9, HB8.out⟩
      · by_cases hk : (out.getLastD zeroS).kind = 6
        · by_cases h77 : capL (ltr l i) = 77
          ·
            have hne' : out ≠ [] := hne
            have hpos : 0 < out.length := List.length_pos_iff.2 hne
            obtain ⟨bo, fo, rfl, hbo, hcx⟩ := HRD.out.pos hpos
            have hS := hcx (out.length - 1) (by omega)
            have hlst : out.getD (out.length - 1) zeroS = out.getLastD zeroS := by rw [List.getLastD_eq_getLast?, List.getLast?_eq_getElem?]; rfl
            rw [hlst] at hS
            obtain ⟨k0, k1, k2, _⟩ := hS
            have hp1 : (out.getLastD zeroS).tx = px := congrArg Prod.fst hptl
            have hp2 : (out.getLastD zeroS).ty = py := congrArg Prod.snd hptl
            rw [hp1] at k1
            rw [hp2] at k2
            have e1 : IntKind.i64.wrap ((out.length : Int) - 1) = ((out.length - 1 : Nat) : Int) := by rw [IntWalk.i64_in _ (by omega)]; omega
            have hiI : ((out.length - 1 : Nat) : Int) < (out.length : Int) := by omega
            have hgt : (0 : Int) < (out.length : Int) := by omega
            have hk6 : ((out.getLastD zeroS).kind == 6) = true := by rw [beq_iff_eq]; exact hk
            have hopen : openL out ⟨ltr l i, ars l i⟩ = out := by unfold openL; rw [if_neg]; rintro ⟨_, h2⟩; exact h2 h77
            have hcb : ((capL (ltr l i) : Int) != 77) = false := by rw [h77]; rfl
            have b5 := (Below.refl wr.heap.size wr).alloc (Nat.le_refl _) (.cells #[.int .i64 px, .int .i64 py] 39)
            have HP5 := Lib.hid (PtAt.new wr px py)
            have HO5 := Lib.hid (HSG.out.next b5)
            have HK5 := Lib.hid (HSG.out.next b5)
            have HB5 := Lib.hid (HBL.out.trans (b5.mono HBL.out.size))
            have hKl : out.length ≤ 100000000 := by omega
            have HKIN := Lib.hid hla
            have hKne := hne
            have HK77 := Lib.hid h0
            generalize out.length - 1 = on at *
            generalize hgk : (out.getLastD zeroS).kind = gk at *
            clear hlst hp1 hp2 hcx
            go_upto_region 14 with (go_at_call 36; refine (CA.out _).mono ?_; rintro e wc ⟨rfl, rfl⟩)
            generalize hW5 : wr.alloc (.cells #[.int .i64 px, .int .i64 py] 39) = W5 at *
            clear hW5 b5 k0 k1 k2 hiI hgt
            generalize hP : wr.heap.size = P at *
            have hw' := hw
            obtain ⟨gg, hgg⟩ : ∃ gg, gg = oneS ⟨ltr l i, ars l i⟩ (px, py) out was := ⟨_, rfl⟩
            have HE2 : Hid ((if inR gg then walkR (out ++ [gg]) (capL (ltr l i)) (l.drop (i + 1)) (i + 1) else (out, (i : Int))) = RES) := by have hE4 := HE.out; rw [hopen] at hE4; rw [hgg]; exact hE4
            have HIN := Lib.hid (show inB gg ↔ inR gg by rw [hgg]; exact one_in _ hw _ _ _)
            have dw : Below W5.heap.size W5 W5.drew := (Below.refl _ W5).drew
            have HPd := Lib.hid (HP5.out.next dw)
            have HOd := Lib.hid (HO5.out.next dw)
            have HKd := Lib.hid (HK5.out.next dw)
            have HBd := Lib.hid (HB5.out.trans (dw.mono HB5.out.size))
            obtain ⟨I5, r2', r3'⟩ := IA.out W5 HB5.out
            have hbW5 : b < W5.heap.size := Nat.lt_of_lt_of_le hb HB5.out.size
            have hPW5 : P < W5.heap.size := HP5.out.lt
            have p0 := HP5.out.c0
            have p1 := HP5.out.c1
            have ON := Lib.hid (show ∀ W, Below W5.heap.size W5 W → Calls Tryz.prog 37 #[.agg #[.int .u8 (ltr l i : Int), .slice aa (ars l i).length ac], .agg #[.int .i64 px, .int .i64 py], .slice (some ⟨bo, fo, none⟩) out.length co, .int .u8 (was : Int)] W fun e w' => e = .returned (.agg #[.int .i64 gg.kind, .int .i64 gg.tx, .int .i64 gg.ty, .int .i64 gg.ax, .int .i64 gg.ay, .int .i64 gg.cx, .int .i64 gg.cy, .int .i64 gg.rx, .int .i64 gg.ry, .int .i64 gg.turn, .bool gg.lg, .bool gg.sw]) ∧ Below W.heap.size W w' from fun W t => by
              have h := rone7_any (ltr l i) aa ac (ars l i) px py (some ⟨bo, fo, none⟩) out co was W hw (IA.out W (HB5.out.trans (t.mono HB5.out.size))).1 (by obtain ⟨a1, c1, e1, hr1, _⟩ := (HK5.out.next t).reads; injection e1 with ea _ _; subst ea; exact hr1) hKl hpt HKIN.out HK77.out
              rw [← hgg] at h
              exact h)
            have dz : Below W5.heap.size W5 (W5.alloc (.cells zeroS.cells.toArray 42)).drew := ((Below.refl _ W5).alloc (Nat.le_refl _) _).drew
            have HXz : Hid (BoxS W5.heap.size zeroS (W5.alloc (.cells zeroS.cells.toArray 42)).drew) := World.alloc_heap_new W5 _
            clear hgg I5 r2 r3
            go_region_held3 (fun w' => w'.cell? ⟨b, off + i * 2, none⟩ = some (.int .u8 (ltr l i : Int)) ∧ w'.cell? ⟨b, off + i * 2 + 1, none⟩ = some (.slice aa (ars l i).length ac) ∧ w'.cell? ⟨P, 0, none⟩ = some (.int .i64 px) ∧ w'.cell? ⟨P, 1, none⟩ = some (.int .i64 py)) (first | (simp [go_sem, *]; done) | (exact ⟨by assumption, by assumption, by assumption, by assumption⟩))
              (first
                | (go_at_call 37; refine (ON.out W5.drew dw).mono ?_; rintro e w6 ⟨rfl, b6⟩; have HT6 := Lib.hid (dw.trans (b6.mono dw.size)); have HP6 := Lib.hid (HP5.out.next HT6.out); have HO6 := Lib.hid (HO5.out.next HT6.out); have HK6 := Lib.hid (HK5.out.next HT6.out); have HB6 := Lib.hid (HB5.out.trans (HT6.out.mono HB5.out.size)); have hP6 := HP6.out.lt; have hb6 := Nat.lt_of_lt_of_le hb HB6.out.size; have q0 := HP6.out.c0; have q1 := HP6.out.c1; have q2 := (IA.out w6 HB6.out).2.1; have q3 := (IA.out w6 HB6.out).2.2; have HKIND : Hid (0 = 0) := rfl; clear b6)
                | (go_at_call 37; refine (ON.out (W5.alloc (.cells zeroS.cells.toArray 42)).drew dz).mono ?_; rintro e w6 ⟨rfl, b6⟩; have HT6 := Lib.hid (dz.trans (b6.mono dz.size)); have HP6 := Lib.hid (HP5.out.next HT6.out); have HO6 := Lib.hid (HO5.out.next HT6.out); have HK6 := Lib.hid (HK5.out.next HT6.out); have HB6 := Lib.hid (HB5.out.trans (HT6.out.mono HB5.out.size)); have hP6 := HP6.out.lt; have hb6 := Nat.lt_of_lt_of_le hb HB6.out.size; have q0 := HP6.out.c0; have q1 := HP6.out.c1; have q2 := (IA.out w6 HB6.out).2.1; have q3 := (IA.out w6 HB6.out).2.2; have HX6 := Lib.hid (HXz.out.next b6); obtain ⟨z0, z1, z2, z3, z4, z5, z6, z7, z8, z9, z10, z11⟩ := SegAt.of_block HX6.out; simp only [Nat.zero_add] at z1 z2 z3 z4 z5 z6 z7 z8 z9 z10 z11; have zz0 := HX6.out.z 0; have zz1 := HX6.out.z 1; have zz2 := HX6.out.z 2; have zz3 := HX6.out.z 3; have zz4 := HX6.out.z 4; have zz5 := HX6.out.z 5; have zz6 := HX6.out.z 6; have zz7 := HX6.out.z 7; have zz8 := HX6.out.z 8; have zz9 := HX6.out.z 9; have zz10 := HX6.out.z 10; have zz11 := HX6.out.z 11; have nbX := Nat.ne_of_lt hbW5; have nXb := Ne.symm nbX; have nPX := Nat.ne_of_lt hPW5; have nXP := Ne.symm nPX; clear b6))
            next =>
              have b7 := (Below.refl w6.heap.size w6).alloc (Nat.le_refl _) (.cells #[.int .i64 gg.kind, .int .i64 gg.tx, .int .i64 gg.ty, .int .i64 gg.ax, .int .i64 gg.ay, .int .i64 gg.cx, .int .i64 gg.cy, .int .i64 gg.rx, .int .i64 gg.ry, .int .i64 gg.turn, .bool gg.lg, .bool gg.sw] 42)
              have HX7 : Hid (BoxS w6.heap.size gg (w6.alloc (.cells #[.int .i64 gg.kind, .int .i64 gg.tx, .int .i64 gg.ty, .int .i64 gg.ax, .int .i64 gg.ay, .int .i64 gg.cx, .int .i64 gg.cy, .int .i64 gg.rx, .int .i64 gg.ry, .int .i64 gg.turn, .bool gg.lg, .bool gg.sw] 42))) := World.alloc_heap_new w6 _
              have HO7 := Lib.hid (HO6.out.next b7)
              have HK7 := Lib.hid (HK6.out.next b7)
              have HB7 := Lib.hid (HB6.out.trans (b7.mono HB6.out.size))
              generalize hX : w6.heap.size = X at *
              generalize hW7 : w6.alloc (.cells #[.int .i64 gg.kind, .int .i64 gg.tx, .int .i64 gg.ty, .int .i64 gg.ax, .int .i64 gg.ay, .int .i64 gg.cx, .int .i64 gg.cy, .int .i64 gg.rx, .int .i64 gg.ry, .int .i64 gg.turn, .bool gg.lg, .bool gg.sw] 42) = W7 at *
              clear b7 hX hW7 p0 p1 q0 q1 q2 q3 r2' r3' ON HP6 HO6 HK6 HB6 HT6 HP5 HO5 HK5 HB5 HXz dw dz hP6 hb6 HKIND
              have N1 := Lib.hid (fun w => rin_any gg.tx gg.ty w)
              have N2 := Lib.hid (fun w => rin_any gg.ax gg.ay w)
              have N3 := Lib.hid (fun w => rin_any gg.cx gg.cy w)
              obtain ⟨_, y1, y2, y3, y4, y5, y6, _⟩ := SegAt.of_block HX7.out
              simp only [Nat.zero_add] at y1 y2 y3 y4 y5 y6
              go_wp2_with fail
              refine (N1.out _).mono ?_
              rintro e w8 ⟨rfl, b8⟩
              have HX8 := Lib.hid (HX7.out.next b8)
              have HO8 := Lib.hid (HO7.out.next b8)
              have HK8 := Lib.hid (HK7.out.next b8)
              have HB8 := Lib.hid (HB7.out.trans (b8.mono HB7.out.size))
              clear b8 y1 y2 y3 y4 y5 y6 HX7 HO7 HK7 HB7 N1
              obtain ⟨_, y1, y2, y3, y4, y5, y6, _⟩ := SegAt.of_block HX8.out
              simp only [Nat.zero_add] at y1 y2 y3 y4 y5 y6
              by_cases c1 : In32 gg.tx ∧ In32 gg.ty
              · rw [decide_eq_true c1]
                go_wp2_with fail
                refine (N2.out _).mono ?_
                rintro e w9 ⟨rfl, b9⟩
                have HX9 := Lib.hid (HX8.out.next b9)
                have HO9 := Lib.hid (HO8.out.next b9)
                have HK9 := Lib.hid (HK8.out.next b9)
                have HB9 := Lib.hid (HB8.out.trans (b9.mono HB8.out.size))
                clear b9 y1 y2 y3 y4 y5 y6 HX8 HO8 HK8 HB8 N2
                obtain ⟨_, y1, y2, y3, y4, y5, y6, _⟩ := SegAt.of_block HX9.out
                simp only [Nat.zero_add] at y1 y2 y3 y4 y5 y6
                by_cases c2 : In32 gg.ax ∧ In32 gg.ay
                · rw [decide_eq_true c2]
                  go_wp2_with fail
                  refine (N3.out _).mono ?_
                  rintro e wA ⟨rfl, bA⟩
                  have HXA := Lib.hid (HX9.out.next bA)
                  have HOA := Lib.hid (HO9.out.next bA)
                  have HKA := Lib.hid (HK9.out.next bA)
                  have HBA := Lib.hid (HB9.out.trans (bA.mono HB9.out.size))
                  clear bA y1 y2 y3 y4 y5 y6 HX9 HO9 HK9 HB9 N3
                  by_cases c3 : In32 gg.cx ∧ In32 gg.cy
                  · rw [decide_eq_true c3]
                    have hE3 := HE2.out
                    rw [if_pos ⟨c1, c2, c3⟩] at hE3
                    have HE3 := Lib.hid hE3
                    have hgin := HIN.out.2 ⟨c1, c2, c3⟩
                    clear hE3 HE2 HE
                    go_upto_region 17 with fail
                    have hXs := HXA.out.lt
                    obtain ⟨g0, g1, g2, g3, g4, g5, g6, g7, g8, g9, g10, g11⟩ := SegAt.of_block HXA.out
                    simp only [Nat.zero_add] at g1 g2 g3 g4 g5 g6 g7 g8 g9 g10 g11
                    have hRA : w.heap.size ≤ wA.heap.size := HBA.out.size
                    have sE : (wA.alloc (.cells #[] 42)).heap.size = wA.heap.size + 1 := by simp
                    have sG : (wA.alloc (.cells #[.int .i64 gg.kind, .int .i64 gg.tx, .int .i64 gg.ty, .int .i64 gg.ax, .int .i64 gg.ay, .int .i64 gg.cx, .int .i64 gg.cy, .int .i64 gg.rx, .int .i64 gg.ry, .int .i64 gg.turn, .bool gg.lg, .bool gg.sw] 42)).heap.size = wA.heap.size + 1 := by simp
                    have a3 := (Below.refl wA.heap.size wA).alloc (Nat.le_refl _) (.cells #[] 42)
                    have t3 : Below wA.heap.size wA (wA.alloc (.cells #[] 42)).drew := a3.drew
                    have a2 := (Below.refl (wA.alloc (.cells #[] 42)).heap.size _).alloc (Nat.le_refl _) (.cells #[.int .i64 gg.kind, .int .i64 gg.tx, .int .i64 gg.ty, .int .i64 gg.ax, .int .i64 gg.ay, .int .i64 gg.cx, .int .i64 gg.cy, .int .i64 gg.rx, .int .i64 gg.ry, .int .i64 gg.turn, .bool gg.lg, .bool gg.sw] 42)
                    have t2 : Below wA.heap.size wA ((wA.alloc (.cells #[] 42)).alloc (.cells #[.int .i64 gg.kind, .int .i64 gg.tx, .int .i64 gg.ty, .int .i64 gg.ax, .int .i64 gg.ay, .int .i64 gg.cx, .int .i64 gg.cy, .int .i64 gg.rx, .int .i64 gg.ry, .int .i64 gg.turn, .bool gg.lg, .bool gg.sw] 42)).drew := (a3.trans (a2.mono a3.size)).drew
                    have a1 := (Below.refl wA.heap.size wA).alloc (Nat.le_refl _) (.cells #[.int .i64 gg.kind, .int .i64 gg.tx, .int .i64 gg.ty, .int .i64 gg.ax, .int .i64 gg.ay, .int .i64 gg.cx, .int .i64 gg.cy, .int .i64 gg.rx, .int .i64 gg.ry, .int .i64 gg.turn, .bool gg.lg, .bool gg.sw] 42)
                    have a1' := (Below.refl (wA.alloc (.cells #[.int .i64 gg.kind, .int .i64 gg.tx, .int .i64 gg.ty, .int .i64 gg.ax, .int .i64 gg.ay, .int .i64 gg.cx, .int .i64 gg.cy, .int .i64 gg.rx, .int .i64 gg.ry, .int .i64 gg.turn, .bool gg.lg, .bool gg.sw] 42)).heap.size _).alloc (Nat.le_refl _) (.cells #[] 42)
                    have t1 : Below wA.heap.size wA ((wA.alloc (.cells #[.int .i64 gg.kind, .int .i64 gg.tx, .int .i64 gg.ty, .int .i64 gg.ax, .int .i64 gg.ay, .int .i64 gg.cx, .int .i64 gg.cy, .int .i64 gg.rx, .int .i64 gg.ry, .int .i64 gg.turn, .bool gg.lg, .bool gg.sw] 42)).alloc (.cells #[] 42)).drew := (a1.trans (a1'.mono a1.size)).drew
                    have E3 : Hid (Segs w.heap.size (.slice (some ⟨wA.heap.size, 0, none⟩) 0 0) [] (wA.alloc (.cells #[] 42)).drew) := emptyRow (World.alloc_heap_new wA _) hRA
                    have E2 : Hid (Segs w.heap.size (.slice (some ⟨wA.heap.size, 0, none⟩) 0 0) [] ((wA.alloc (.cells #[] 42)).alloc (.cells #[.int .i64 gg.kind, .int .i64 gg.tx, .int .i64 gg.ty, .int .i64 gg.ax, .int .i64 gg.ay, .int .i64 gg.cx, .int .i64 gg.cy, .int .i64 gg.rx, .int .i64 gg.ry, .int .i64 gg.turn, .bool gg.lg, .bool gg.sw] 42)).drew) := emptyRow ((a2.block _ (by omega)).trans (World.alloc_heap_new wA _)) hRA
                    have E1 : Hid (Segs w.heap.size (.slice (some ⟨wA.heap.size + 1, 0, none⟩) 0 0) [] ((wA.alloc (.cells #[.int .i64 gg.kind, .int .i64 gg.tx, .int .i64 gg.ty, .int .i64 gg.ax, .int .i64 gg.ay, .int .i64 gg.cx, .int .i64 gg.cy, .int .i64 gg.rx, .int .i64 gg.ry, .int .i64 gg.turn, .bool gg.lg, .bool gg.sw] 42)).alloc (.cells #[] 42)).drew) := emptyRow (by have h := World.alloc_heap_new (wA.alloc (.cells #[.int .i64 gg.kind, .int .i64 gg.tx, .int .i64 gg.ty, .int .i64 gg.ax, .int .i64 gg.ay, .int .i64 gg.cx, .int .i64 gg.cy, .int .i64 gg.rx, .int .i64 gg.ry, .int .i64 gg.turn, .bool gg.lg, .bool gg.sw] 42)) (.cells #[] 42); rw [sG] at h; exact h) (by omega)
                    have S2 : Hid (BoxS (wA.heap.size + 1) gg ((wA.alloc (.cells #[] 42)).alloc (.cells #[.int .i64 gg.kind, .int .i64 gg.tx, .int .i64 gg.ty, .int .i64 gg.ax, .int .i64 gg.ay, .int .i64 gg.cx, .int .i64 gg.cy, .int .i64 gg.rx, .int .i64 gg.ry, .int .i64 gg.turn, .bool gg.lg, .bool gg.sw] 42)).drew) := by have h := World.alloc_heap_new (wA.alloc (.cells #[] 42)) (.cells #[.int .i64 gg.kind, .int .i64 gg.tx, .int .i64 gg.ty, .int .i64 gg.ax, .int .i64 gg.ay, .int .i64 gg.cx, .int .i64 gg.cy, .int .i64 gg.rx, .int .i64 gg.ry, .int .i64 gg.turn, .bool gg.lg, .bool gg.sw] 42); rw [sE] at h; exact h
                    have S1 : Hid (BoxS wA.heap.size gg ((wA.alloc (.cells #[.int .i64 gg.kind, .int .i64 gg.tx, .int .i64 gg.ty, .int .i64 gg.ax, .int .i64 gg.ay, .int .i64 gg.cx, .int .i64 gg.cy, .int .i64 gg.rx, .int .i64 gg.ry, .int .i64 gg.turn, .bool gg.lg, .bool gg.sw] 42)).alloc (.cells #[] 42)).drew) := (a1'.block _ (by omega)).trans (World.alloc_heap_new wA _)
                    have K3 := Lib.hid (HKA.out.next t3)
                    have K2 := Lib.hid (HKA.out.next t2)
                    have K1 := Lib.hid (HKA.out.next t1)
                    have X3 := Lib.hid (HXA.out.next t3)
                    have X2 := Lib.hid (HXA.out.next t2)
                    have X1 := Lib.hid (HXA.out.next t1)
                    have B3 := Lib.hid (HBA.out.trans (t3.mono hRA))
                    have B2 := Lib.hid (HBA.out.trans (t2.mono hRA))
                    have B1 := Lib.hid (HBA.out.trans (t1.mono hRA))
                    have hKp : 0 < out.length := List.length_pos_iff.2 hKne
                    have q3 := t3.size
                    have q2 := t2.size
                    have q1 := t1.size
                    clear a1 a1' a2 a3 t1 t2 t3
                    go_region_held3 (fun w' => w'.cell? ⟨X, 0, none⟩ = some (.int .i64 gg.kind) ∧ w'.cell? ⟨X, 1, none⟩ = some (.int .i64 gg.tx) ∧ w'.cell? ⟨X, 2, none⟩ = some (.int .i64 gg.ty) ∧ w'.cell? ⟨X, 3, none⟩ = some (.int .i64 gg.ax) ∧ w'.cell? ⟨X, 4, none⟩ = some (.int .i64 gg.ay) ∧ w'.cell? ⟨X, 5, none⟩ = some (.int .i64 gg.cx) ∧ w'.cell? ⟨X, 6, none⟩ = some (.int .i64 gg.cy) ∧ w'.cell? ⟨X, 7, none⟩ = some (.int .i64 gg.rx) ∧ w'.cell? ⟨X, 8, none⟩ = some (.int .i64 gg.ry) ∧ w'.cell? ⟨X, 9, none⟩ = some (.int .i64 gg.turn) ∧ w'.cell? ⟨X, 10, none⟩ = some (.bool gg.lg) ∧ w'.cell? ⟨X, 11, none⟩ = some (.bool gg.sw)) (first | (simp [go_sem, *]; done) | (exact ⟨by assumption, by assumption, by assumption, by assumption, by assumption, by assumption, by assumption, by assumption, by assumption, by assumption, by assumption, by assumption⟩))
                      (first
                        | (refine step_segs0 (by rfl) (.tmp 80) (.tmp 81) (by rfl) E3.out (by rfl) K3.out (by rfl) hKp hKl B3.out.size _ rfl ?_; intro d1 e1 f1 h1 i1 j1 l1; have hXd : X ≠ d1 := xd_ne j1 (by omega) (by have := q3; omega); have XF0 := (X3.out.grown i1 (by show some X ≠ some (wA.heap.size); simp; omega)); have BF0 := B3.out.trans (grown_below7 E3.out B3.out.size i1); have hR1 := Nat.le_trans B3.out.size i1.size; have gA := (Below.refl f1.heap.size f1).alloc (Nat.le_refl _) (.cells #[.int .i64 gg.kind, .int .i64 gg.tx, .int .i64 gg.ty, .int .i64 gg.ax, .int .i64 gg.ay, .int .i64 gg.cx, .int .i64 gg.cy, .int .i64 gg.rx, .int .i64 gg.ry, .int .i64 gg.turn, .bool gg.lg, .bool gg.sw] 42); have R1 := Lib.hid (h1.next gA); have N1 : Hid (BoxS f1.heap.size gg (f1.alloc (.cells #[.int .i64 gg.kind, .int .i64 gg.tx, .int .i64 gg.ty, .int .i64 gg.ax, .int .i64 gg.ay, .int .i64 gg.cx, .int .i64 gg.cy, .int .i64 gg.rx, .int .i64 gg.ry, .int .i64 gg.turn, .bool gg.lg, .bool gg.sw] 42))) := World.alloc_heap_new f1 _; have BF := Lib.hid (BF0.trans (gA.mono hR1)); have XF := Lib.hid (XF0.next gA); have hXf : X < f1.heap.size := XF0.lt; obtain ⟨x0, x1, x2, x3, x4, x5, x6, x7, x8, x9, x10, x11⟩ := SegAt.of_block XF0; simp only [Nat.zero_add] at x1 x2 x3 x4 x5 x6 x7 x8 x9 x10 x11; clear XF0 BF0)
                        | (refine step_segs0 (by rfl) (.tmp 80) (.tmp 81) (by rfl) E2.out (by rfl) K2.out (by rfl) hKp hKl B2.out.size _ rfl ?_; intro d1 e1 f1 h1 i1 j1 l1; have hXd : X ≠ d1 := xd_ne j1 (by omega) (by have := q2; omega); have XF0 := (X2.out.grown i1 (by show some X ≠ some (wA.heap.size); simp; omega)); have BF0 := B2.out.trans (grown_below7 E2.out B2.out.size i1); have hR1 := Nat.le_trans B2.out.size i1.size; have R1 := Lib.hid h1; have N1 := Lib.hid (S2.out.grown i1 (by show some _ ≠ some (wA.heap.size); simp)); have BF := Lib.hid BF0; have XF := Lib.hid XF0; have hXf : X < f1.heap.size := XF0.lt; obtain ⟨x0, x1, x2, x3, x4, x5, x6, x7, x8, x9, x10, x11⟩ := SegAt.of_block XF0; simp only [Nat.zero_add] at x1 x2 x3 x4 x5 x6 x7 x8 x9 x10 x11; clear XF0 BF0)
                        | (refine step_segs0 (by rfl) (.tmp 80) (.tmp 81) (by rfl) E1.out (by rfl) K1.out (by rfl) hKp hKl B1.out.size _ rfl ?_; intro d1 e1 f1 h1 i1 j1 l1; have hXd : X ≠ d1 := xd_ne j1 (by omega) (by have := q1; omega); have XF0 := (X1.out.grown i1 (by show some X ≠ some (wA.heap.size + 1); simp; omega)); have BF0 := B1.out.trans (grown_below7 E1.out B1.out.size i1); have hR1 := Nat.le_trans B1.out.size i1.size; have R1 := Lib.hid h1; have N1 := Lib.hid (S1.out.grown i1 (by show some _ ≠ some (wA.heap.size + 1); simp)); have BF := Lib.hid BF0; have XF := Lib.hid XF0; have hXf : X < f1.heap.size := XF0.lt; obtain ⟨x0, x1, x2, x3, x4, x5, x6, x7, x8, x9, x10, x11⟩ := SegAt.of_block XF0; simp only [Nat.zero_add] at x1 x2 x3 x4 x5 x6 x7 x8 x9 x10 x11; clear XF0 BF0)
                        | (refine step_seg (by rfl) (.tmp 82) (.tmp 84) (by rfl) gg R1.out (by rfl) N1.out (by rfl) hKl BF.out.size _ rfl ?_; intro d2 e2 f2 h2 i2 j2 l2; have R2 := Lib.hid h2; have BG := Lib.hid (BF.out.trans (grown_below7 R1.out BF.out.size i2)); have XG := XF.out.grown i2 (by show some X ≠ some d1; simp; exact hXd); obtain ⟨v0, v1, v2, v3, v4, v5, v6, v7, v8, v9, v10, v11⟩ := SegAt.of_block XG; simp only [Nat.zero_add] at v1 v2 v3 v4 v5 v6 v7 v8 v9 v10 v11))
                    all_goals
                      obtain ⟨_, m2, m3⟩ := IA.out f2 BG.out
                      have hbf : b < f2.heap.size := Nat.lt_of_lt_of_le hb BG.out.size
                      clear v0 v1 v2 v3 v4 v5 v6 v7 v8 v9 v10 v11 g0 g1 g2 g3 g4 g5 g6 g7 g8 g9 g10 g11 E1 E2 E3 S1 S2 K1 K2 K3 X1 X2 X3 B1 B2 B3 HXA HOA HKA HBA
                      go_wp2_with fail
                      refine (CA.out _).mono ?_
                      rintro e wc ⟨rfl, rfl⟩
                      go_wp2_with fail
                      go_roundw
                      case rel => exact ⟨i + 1, capL (ltr l i), out ++ [gg], (by first | rfl | (rw [h77]; rfl)), by go_num, by omega, by simp only [List.length_append, List.length_cons, List.length_nil]; omega, fun _ => by simp, R2.out, fun _ => by rw [last_snoc]; exact hgin, BG.out, HE3, fun h => absurd h (by omega)⟩
                      case measure => simp [intOf]; omega
                  · rw [decide_eq_false c3]
                    have hE3 := HE2.out
                    rw [if_neg (fun h => c3 h.2.2)] at hE3
                    subst hE3
                    obtain ⟨a9, c9, e9, hr9, hc9⟩ := HOA.out.reads
                    cases e9
                    clear HE HE2
                    go_wp2_with fail
                    go_ret2
                    exact ⟨_, _, rfl, hr9, hc9, HBA.out⟩
                · rw [decide_eq_false c2]
                  have hE3 := HE2.out
                  rw [if_neg (fun h => c2 h.2.1)] at hE3
                  subst hE3
                  obtain ⟨a9, c9, e9, hr9, hc9⟩ := HO9.out.reads
                  cases e9
                  clear HE HE2
                  go_wp2_with fail
                  go_ret2
                  exact ⟨_, _, rfl, hr9, hc9, HB9.out⟩
              · rw [decide_eq_false c1]
                have hE3 := HE2.out
                rw [if_neg (fun h => c1 h.1)] at hE3
                subst hE3
                obtain ⟨a9, c9, e9, hr9, hc9⟩ := HO8.out.reads
                cases e9
                clear HE HE2
                go_wp2_with fail
                go_ret2
                exact ⟨_, _, rfl, hr9, hc9, HB8.out⟩
            next =>
              have nO : some W5.heap.size ≠ (Value.slice (some ⟨bo, fo, none⟩) out.length co).ownBlock := fun e => by have := (own_type HO5.out _ e.symm).1; omega
              have nK : some W5.heap.size ≠ (Value.slice (some ⟨bo, fo, none⟩) out.length co).ownBlock := fun e => by have := (own_type HK5.out _ e.symm).1; omega
              have HX7 := Lib.hid (HX6.out.put gg)
              have HO7 := Lib.hid (HO6.out.put nO gg)
              have HK7 := Lib.hid (HK6.out.put nK gg)
              have HB7 := Lib.hid (below_put HB6.out HB5.out.size gg)
              unfold put12 at HX7 HO7 HK7 HB7
              generalize hX : W5.heap.size = X at *
              generalize hW7 : World.setCell _ _ _ = W7 at *
              clear hX hW7 p0 p1 q0 q1 q2 q3 r2' r3' ON HP6 HO6 HK6 HB6 HT6 HP5 HO5 HK5 HB5 HXz dw dz hP6 hb6 HX6 nO nK z0 z1 z2 z3 z4 z5 z6 z7 z8 z9 z10 z11 zz0 zz1 zz2 zz3 zz4 zz5 zz6 zz7 zz8 zz9 zz10 zz11 nXb nbX nXP nPX
              have N1 := Lib.hid (fun w => rin_any gg.tx gg.ty w)
              have N2 := Lib.hid (fun w => rin_any gg.ax gg.ay w)
              have N3 := Lib.hid (fun w => rin_any gg.cx gg.cy w)
              obtain ⟨_, y1, y2, y3, y4, y5, y6, _⟩ := SegAt.of_block HX7.out
              simp only [Nat.zero_add] at y1 y2 y3 y4 y5 y6
              go_wp2_with fail
              refine (N1.out _).mono ?_
              rintro e w8 ⟨rfl, b8⟩
              have HX8 := Lib.hid (HX7.out.next b8)
              have HO8 := Lib.hid (HO7.out.next b8)
              have HK8 := Lib.hid (HK7.out.next b8)
              have HB8 := Lib.hid (HB7.out.trans (b8.mono HB7.out.size))
              clear b8 y1 y2 y3 y4 y5 y6 HX7 HO7 HK7 HB7 N1
              obtain ⟨_, y1, y2, y3, y4, y5, y6, _⟩ := SegAt.of_block HX8.out
              simp only [Nat.zero_add] at y1 y2 y3 y4 y5 y6
              by_cases c1 : In32 gg.tx ∧ In32 gg.ty
              · rw [decide_eq_true c1]
                go_wp2_with fail
                refine (N2.out _).mono ?_
                rintro e w9 ⟨rfl, b9⟩
                have HX9 := Lib.hid (HX8.out.next b9)
                have HO9 := Lib.hid (HO8.out.next b9)
                have HK9 := Lib.hid (HK8.out.next b9)
                have HB9 := Lib.hid (HB8.out.trans (b9.mono HB8.out.size))
                clear b9 y1 y2 y3 y4 y5 y6 HX8 HO8 HK8 HB8 N2
                obtain ⟨_, y1, y2, y3, y4, y5, y6, _⟩ := SegAt.of_block HX9.out
                simp only [Nat.zero_add] at y1 y2 y3 y4 y5 y6
                by_cases c2 : In32 gg.ax ∧ In32 gg.ay
                · rw [decide_eq_true c2]
                  go_wp2_with fail
                  refine (N3.out _).mono ?_
                  rintro e wA ⟨rfl, bA⟩
                  have HXA := Lib.hid (HX9.out.next bA)
                  have HOA := Lib.hid (HO9.out.next bA)
                  have HKA := Lib.hid (HK9.out.next bA)
                  have HBA := Lib.hid (HB9.out.trans (bA.mono HB9.out.size))
                  clear bA y1 y2 y3 y4 y5 y6 HX9 HO9 HK9 HB9 N3
                  by_cases c3 : In32 gg.cx ∧ In32 gg.cy
                  · rw [decide_eq_true c3]
                    have hE3 := HE2.out
                    rw [if_pos ⟨c1, c2, c3⟩] at hE3
                    have HE3 := Lib.hid hE3
                    have hgin := HIN.out.2 ⟨c1, c2, c3⟩
                    clear hE3 HE2 HE
                    go_upto_region 17 with fail
                    have hXs := HXA.out.lt
                    obtain ⟨g0, g1, g2, g3, g4, g5, g6, g7, g8, g9, g10, g11⟩ := SegAt.of_block HXA.out
                    simp only [Nat.zero_add] at g1 g2 g3 g4 g5 g6 g7 g8 g9 g10 g11
                    have hRA : w.heap.size ≤ wA.heap.size := HBA.out.size
                    have sE : (wA.alloc (.cells #[] 42)).heap.size = wA.heap.size + 1 := by simp
                    have sG : (wA.alloc (.cells #[.int .i64 gg.kind, .int .i64 gg.tx, .int .i64 gg.ty, .int .i64 gg.ax, .int .i64 gg.ay, .int .i64 gg.cx, .int .i64 gg.cy, .int .i64 gg.rx, .int .i64 gg.ry, .int .i64 gg.turn, .bool gg.lg, .bool gg.sw] 42)).heap.size = wA.heap.size + 1 := by simp
                    have a3 := (Below.refl wA.heap.size wA).alloc (Nat.le_refl _) (.cells #[] 42)
                    have t3 : Below wA.heap.size wA (wA.alloc (.cells #[] 42)).drew := a3.drew
                    have a2 := (Below.refl (wA.alloc (.cells #[] 42)).heap.size _).alloc (Nat.le_refl _) (.cells #[.int .i64 gg.kind, .int .i64 gg.tx, .int .i64 gg.ty, .int .i64 gg.ax, .int .i64 gg.ay, .int .i64 gg.cx, .int .i64 gg.cy, .int .i64 gg.rx, .int .i64 gg.ry, .int .i64 gg.turn, .bool gg.lg, .bool gg.sw] 42)
                    have t2 : Below wA.heap.size wA ((wA.alloc (.cells #[] 42)).alloc (.cells #[.int .i64 gg.kind, .int .i64 gg.tx, .int .i64 gg.ty, .int .i64 gg.ax, .int .i64 gg.ay, .int .i64 gg.cx, .int .i64 gg.cy, .int .i64 gg.rx, .int .i64 gg.ry, .int .i64 gg.turn, .bool gg.lg, .bool gg.sw] 42)).drew := (a3.trans (a2.mono a3.size)).drew
                    have a1 := (Below.refl wA.heap.size wA).alloc (Nat.le_refl _) (.cells #[.int .i64 gg.kind, .int .i64 gg.tx, .int .i64 gg.ty, .int .i64 gg.ax, .int .i64 gg.ay, .int .i64 gg.cx, .int .i64 gg.cy, .int .i64 gg.rx, .int .i64 gg.ry, .int .i64 gg.turn, .bool gg.lg, .bool gg.sw] 42)
                    have a1' := (Below.refl (wA.alloc (.cells #[.int .i64 gg.kind, .int .i64 gg.tx, .int .i64 gg.ty, .int .i64 gg.ax, .int .i64 gg.ay, .int .i64 gg.cx, .int .i64 gg.cy, .int .i64 gg.rx, .int .i64 gg.ry, .int .i64 gg.turn, .bool gg.lg, .bool gg.sw] 42)).heap.size _).alloc (Nat.le_refl _) (.cells #[] 42)
                    have t1 : Below wA.heap.size wA ((wA.alloc (.cells #[.int .i64 gg.kind, .int .i64 gg.tx, .int .i64 gg.ty, .int .i64 gg.ax, .int .i64 gg.ay, .int .i64 gg.cx, .int .i64 gg.cy, .int .i64 gg.rx, .int .i64 gg.ry, .int .i64 gg.turn, .bool gg.lg, .bool gg.sw] 42)).alloc (.cells #[] 42)).drew := (a1.trans (a1'.mono a1.size)).drew
                    have E3 : Hid (Segs w.heap.size (.slice (some ⟨wA.heap.size, 0, none⟩) 0 0) [] (wA.alloc (.cells #[] 42)).drew) := emptyRow (World.alloc_heap_new wA _) hRA
                    have E2 : Hid (Segs w.heap.size (.slice (some ⟨wA.heap.size, 0, none⟩) 0 0) [] ((wA.alloc (.cells #[] 42)).alloc (.cells #[.int .i64 gg.kind, .int .i64 gg.tx, .int .i64 gg.ty, .int .i64 gg.ax, .int .i64 gg.ay, .int .i64 gg.cx, .int .i64 gg.cy, .int .i64 gg.rx, .int .i64 gg.ry, .int .i64 gg.turn, .bool gg.lg, .bool gg.sw] 42)).drew) := emptyRow ((a2.block _ (by omega)).trans (World.alloc_heap_new wA _)) hRA
                    have E1 : Hid (Segs w.heap.size (.slice (some ⟨wA.heap.size + 1, 0, none⟩) 0 0) [] ((wA.alloc (.cells #[.int .i64 gg.kind, .int .i64 gg.tx, .int .i64 gg.ty, .int .i64 gg.ax, .int .i64 gg.ay, .int .i64 gg.cx, .int .i64 gg.cy, .int .i64 gg.rx, .int .i64 gg.ry, .int .i64 gg.turn, .bool gg.lg, .bool gg.sw] 42)).alloc (.cells #[] 42)).drew) := emptyRow (by have h := World.alloc_heap_new (wA.alloc (.cells #[.int .i64 gg.kind, .int .i64 gg.tx, .int .i64 gg.ty, .int .i64 gg.ax, .int .i64 gg.ay, .int .i64 gg.cx, .int .i64 gg.cy, .int .i64 gg.rx, .int .i64 gg.ry, .int .i64 gg.turn, .bool gg.lg, .bool gg.sw] 42)) (.cells #[] 42); rw [sG] at h; exact h) (by omega)
                    have S2 : Hid (BoxS (wA.heap.size + 1) gg ((wA.alloc (.cells #[] 42)).alloc (.cells #[.int .i64 gg.kind, .int .i64 gg.tx, .int .i64 gg.ty, .int .i64 gg.ax, .int .i64 gg.ay, .int .i64 gg.cx, .int .i64 gg.cy, .int .i64 gg.rx, .int .i64 gg.ry, .int .i64 gg.turn, .bool gg.lg, .bool gg.sw] 42)).drew) := by have h := World.alloc_heap_new (wA.alloc (.cells #[] 42)) (.cells #[.int .i64 gg.kind, .int .i64 gg.tx, .int .i64 gg.ty, .int .i64 gg.ax, .int .i64 gg.ay, .int .i64 gg.cx, .int .i64 gg.cy, .int .i64 gg.rx, .int .i64 gg.ry, .int .i64 gg.turn, .bool gg.lg, .bool gg.sw] 42); rw [sE] at h; exact h
                    have S1 : Hid (BoxS wA.heap.size gg ((wA.alloc (.cells #[.int .i64 gg.kind, .int .i64 gg.tx, .int .i64 gg.ty, .int .i64 gg.ax, .int .i64 gg.ay, .int .i64 gg.cx, .int .i64 gg.cy, .int .i64 gg.rx, .int .i64 gg.ry, .int .i64 gg.turn, .bool gg.lg, .bool gg.sw] 42)).alloc (.cells #[] 42)).drew) := (a1'.block _ (by omega)).trans (World.alloc_heap_new wA _)
                    have K3 := Lib.hid (HKA.out.next t3)
                    have K2 := Lib.hid (HKA.out.next t2)
                    have K1 := Lib.hid (HKA.out.next t1)
                    have X3 := Lib.hid (HXA.out.next t3)
                    have X2 := Lib.hid (HXA.out.next t2)
                    have X1 := Lib.hid (HXA.out.next t1)
                    have B3 := Lib.hid (HBA.out.trans (t3.mono hRA))
                    have B2 := Lib.hid (HBA.out.trans (t2.mono hRA))
                    have B1 := Lib.hid (HBA.out.trans (t1.mono hRA))
                    have hKp : 0 < out.length := List.length_pos_iff.2 hKne
                    have q3 := t3.size
                    have q2 := t2.size
                    have q1 := t1.size
                    clear a1 a1' a2 a3 t1 t2 t3
                    go_region_held3 (fun w' => w'.cell? ⟨X, 0, none⟩ = some (.int .i64 gg.kind) ∧ w'.cell? ⟨X, 1, none⟩ = some (.int .i64 gg.tx) ∧ w'.cell? ⟨X, 2, none⟩ = some (.int .i64 gg.ty) ∧ w'.cell? ⟨X, 3, none⟩ = some (.int .i64 gg.ax) ∧ w'.cell? ⟨X, 4, none⟩ = some (.int .i64 gg.ay) ∧ w'.cell? ⟨X, 5, none⟩ = some (.int .i64 gg.cx) ∧ w'.cell? ⟨X, 6, none⟩ = some (.int .i64 gg.cy) ∧ w'.cell? ⟨X, 7, none⟩ = some (.int .i64 gg.rx) ∧ w'.cell? ⟨X, 8, none⟩ = some (.int .i64 gg.ry) ∧ w'.cell? ⟨X, 9, none⟩ = some (.int .i64 gg.turn) ∧ w'.cell? ⟨X, 10, none⟩ = some (.bool gg.lg) ∧ w'.cell? ⟨X, 11, none⟩ = some (.bool gg.sw)) (first | (simp [go_sem, *]; done) | (exact ⟨by assumption, by assumption, by assumption, by assumption, by assumption, by assumption, by assumption, by assumption, by assumption, by assumption, by assumption, by assumption⟩))
                      (first
                        | (refine step_segs0 (by rfl) (.tmp 80) (.tmp 81) (by rfl) E3.out (by rfl) K3.out (by rfl) hKp hKl B3.out.size _ rfl ?_; intro d1 e1 f1 h1 i1 j1 l1; have hXd : X ≠ d1 := xd_ne j1 (by omega) (by have := q3; omega); have XF0 := (X3.out.grown i1 (by show some X ≠ some (wA.heap.size); simp; omega)); have BF0 := B3.out.trans (grown_below7 E3.out B3.out.size i1); have hR1 := Nat.le_trans B3.out.size i1.size; have gA := (Below.refl f1.heap.size f1).alloc (Nat.le_refl _) (.cells #[.int .i64 gg.kind, .int .i64 gg.tx, .int .i64 gg.ty, .int .i64 gg.ax, .int .i64 gg.ay, .int .i64 gg.cx, .int .i64 gg.cy, .int .i64 gg.rx, .int .i64 gg.ry, .int .i64 gg.turn, .bool gg.lg, .bool gg.sw] 42); have R1 := Lib.hid (h1.next gA); have N1 : Hid (BoxS f1.heap.size gg (f1.alloc (.cells #[.int .i64 gg.kind, .int .i64 gg.tx, .int .i64 gg.ty, .int .i64 gg.ax, .int .i64 gg.ay, .int .i64 gg.cx, .int .i64 gg.cy, .int .i64 gg.rx, .int .i64 gg.ry, .int .i64 gg.turn, .bool gg.lg, .bool gg.sw] 42))) := World.alloc_heap_new f1 _; have BF := Lib.hid (BF0.trans (gA.mono hR1)); have XF := Lib.hid (XF0.next gA); have hXf : X < f1.heap.size := XF0.lt; obtain ⟨x0, x1, x2, x3, x4, x5, x6, x7, x8, x9, x10, x11⟩ := SegAt.of_block XF0; simp only [Nat.zero_add] at x1 x2 x3 x4 x5 x6 x7 x8 x9 x10 x11; clear XF0 BF0)
                        | (refine step_segs0 (by rfl) (.tmp 80) (.tmp 81) (by rfl) E2.out (by rfl) K2.out (by rfl) hKp hKl B2.out.size _ rfl ?_; intro d1 e1 f1 h1 i1 j1 l1; have hXd : X ≠ d1 := xd_ne j1 (by omega) (by have := q2; omega); have XF0 := (X2.out.grown i1 (by show some X ≠ some (wA.heap.size); simp; omega)); have BF0 := B2.out.trans (grown_below7 E2.out B2.out.size i1); have hR1 := Nat.le_trans B2.out.size i1.size; have R1 := Lib.hid h1; have N1 := Lib.hid (S2.out.grown i1 (by show some _ ≠ some (wA.heap.size); simp)); have BF := Lib.hid BF0; have XF := Lib.hid XF0; have hXf : X < f1.heap.size := XF0.lt; obtain ⟨x0, x1, x2, x3, x4, x5, x6, x7, x8, x9, x10, x11⟩ := SegAt.of_block XF0; simp only [Nat.zero_add] at x1 x2 x3 x4 x5 x6 x7 x8 x9 x10 x11; clear XF0 BF0)
                        | (refine step_segs0 (by rfl) (.tmp 80) (.tmp 81) (by rfl) E1.out (by rfl) K1.out (by rfl) hKp hKl B1.out.size _ rfl ?_; intro d1 e1 f1 h1 i1 j1 l1; have hXd : X ≠ d1 := xd_ne j1 (by omega) (by have := q1; omega); have XF0 := (X1.out.grown i1 (by show some X ≠ some (wA.heap.size + 1); simp; omega)); have BF0 := B1.out.trans (grown_below7 E1.out B1.out.size i1); have hR1 := Nat.le_trans B1.out.size i1.size; have R1 := Lib.hid h1; have N1 := Lib.hid (S1.out.grown i1 (by show some _ ≠ some (wA.heap.size + 1); simp)); have BF := Lib.hid BF0; have XF := Lib.hid XF0; have hXf : X < f1.heap.size := XF0.lt; obtain ⟨x0, x1, x2, x3, x4, x5, x6, x7, x8, x9, x10, x11⟩ := SegAt.of_block XF0; simp only [Nat.zero_add] at x1 x2 x3 x4 x5 x6 x7 x8 x9 x10 x11; clear XF0 BF0)
                        | (refine step_seg (by rfl) (.tmp 82) (.tmp 84) (by rfl) gg R1.out (by rfl) N1.out (by rfl) hKl BF.out.size _ rfl ?_; intro d2 e2 f2 h2 i2 j2 l2; have R2 := Lib.hid h2; have BG := Lib.hid (BF.out.trans (grown_below7 R1.out BF.out.size i2)); have XG := XF.out.grown i2 (by show some X ≠ some d1; simp; exact hXd); obtain ⟨v0, v1, v2, v3, v4, v5, v6, v7, v8, v9, v10, v11⟩ := SegAt.of_block XG; simp only [Nat.zero_add] at v1 v2 v3 v4 v5 v6 v7 v8 v9 v10 v11))
                    all_goals
                      obtain ⟨_, m2, m3⟩ := IA.out f2 BG.out
                      have hbf : b < f2.heap.size := Nat.lt_of_lt_of_le hb BG.out.size
                      clear v0 v1 v2 v3 v4 v5 v6 v7 v8 v9 v10 v11 g0 g1 g2 g3 g4 g5 g6 g7 g8 g9 g10 g11 E1 E2 E3 S1 S2 K1 K2 K3 X1 X2 X3 B1 B2 B3 HXA HOA HKA HBA
                      go_wp2_with fail
                      refine (CA.out _).mono ?_
                      rintro e wc ⟨rfl, rfl⟩
                      go_wp2_with fail
                      go_roundw
                      case rel => exact ⟨i + 1, capL (ltr l i), out ++ [gg], (by first | rfl | (rw [h77]; rfl)), by go_num, by omega, by simp only [List.length_append, List.length_cons, List.length_nil]; omega, fun _ => by simp, R2.out, fun _ => by rw [last_snoc]; exact hgin, BG.out, HE3, fun h => absurd h (by omega)⟩
                      case measure => simp [intOf]; omega
                  · rw [decide_eq_false c3]
                    have hE3 := HE2.out
                    rw [if_neg (fun h => c3 h.2.2)] at hE3
                    subst hE3
                    obtain ⟨a9, c9, e9, hr9, hc9⟩ := HOA.out.reads
                    cases e9
                    clear HE HE2
                    go_wp2_with fail
                    go_ret2
                    exact ⟨_, _, rfl, hr9, hc9, HBA.out⟩
                · rw [decide_eq_false c2]
                  have hE3 := HE2.out
                  rw [if_neg (fun h => c2 h.2.1)] at hE3
                  subst hE3
                  obtain ⟨a9, c9, e9, hr9, hc9⟩ := HO9.out.reads
                  cases e9
                  clear HE HE2
                  go_wp2_with fail
                  go_ret2
                  exact ⟨_, _, rfl, hr9, hc9, HB9.out⟩
              · rw [decide_eq_false c1]
                have hE3 := HE2.out
                rw [if_neg (fun h => c1 h.1)] at hE3
                subst hE3
                obtain ⟨a9, c9, e9, hr9, hc9⟩ := HO8.out.reads
                cases e9
                clear HE HE2
                go_wp2_with fail
                go_ret2
                exact ⟨_, _, rfl, hr9, hc9, HB8.out⟩
          ·
            have hne' : out ≠ [] := hne
            have hpos : 0 < out.length := List.length_pos_iff.2 hne
            obtain ⟨bo, fo, rfl, hbo, hcx⟩ := HRD.out.pos hpos
            have hS := hcx (out.length - 1) (by omega)
            have hlst : out.getD (out.length - 1) zeroS = out.getLastD zeroS := by rw [List.getLastD_eq_getLast?, List.getLast?_eq_getElem?]; rfl
            rw [hlst] at hS
            obtain ⟨k0, k1, k2, _⟩ := hS
            have hp1 : (out.getLastD zeroS).tx = px := congrArg Prod.fst hptl
            have hp2 : (out.getLastD zeroS).ty = py := congrArg Prod.snd hptl
            rw [hp1] at k1
            rw [hp2] at k2
            have e1 : IntKind.i64.wrap ((out.length : Int) - 1) = ((out.length - 1 : Nat) : Int) := by rw [IntWalk.i64_in _ (by omega)]; omega
            have hiI : ((out.length - 1 : Nat) : Int) < (out.length : Int) := by omega
            have hgt : (0 : Int) < (out.length : Int) := by omega
            have hk6 : ((out.getLastD zeroS).kind == 6) = true := by rw [beq_iff_eq]; exact hk
            have hopen : openL out ⟨ltr l i, ars l i⟩ = out ++ [(segS 1 px py 0 0 0 0)] := by unfold openL; rw [if_pos ⟨Or.inr hk, h77⟩, hptl]
            have hcb : ((capL (ltr l i) : Int) != 77) = true := by rw [bne_iff_ne]; omega
            have b5 := (Below.refl wr.heap.size wr).alloc (Nat.le_refl _) (.cells #[.int .i64 px, .int .i64 py] 39)
            have HP5 := Lib.hid (PtAt.new wr px py)
            have HO5 := Lib.hid (HSG.out.next b5)
            have HK5 := Lib.hid (HSG.out.next b5)
            have HB5 := Lib.hid (HBL.out.trans (b5.mono HBL.out.size))
            have hKl : out.length ≤ 100000000 := by omega
            generalize out.length - 1 = on at *
            generalize hgk : (out.getLastD zeroS).kind = gk at *
            clear hlst hp1 hp2 hcx
            go_upto_region 13 with (go_at_call 36; refine (CA.out _).mono ?_; rintro e wc ⟨rfl, rfl⟩)
            generalize hW5 : wr.alloc (.cells #[.int .i64 px, .int .i64 py] 39) = W5 at *
            clear hW5 b5 k0 k1 k2 hiI hgt
            generalize hP : wr.heap.size = P at *
            have hPs := HP5.out.lt
            have p0 := HP5.out.c0
            have p1 := HP5.out.c1
            have hR5 : w.heap.size ≤ W5.heap.size := HB5.out.size
            have sE : (W5.alloc (.cells #[] 42)).heap.size = W5.heap.size + 1 := by simp
            have sG : (W5.alloc (.cells #[.int .i64 1, .int .i64 px, .int .i64 py, .int .i64 0, .int .i64 0, .int .i64 0, .int .i64 0, .int .i64 0, .int .i64 0, .int .i64 0, .bool false, .bool false] 42)).heap.size = W5.heap.size + 1 := by simp
            have a3 := (Below.refl W5.heap.size W5).alloc (Nat.le_refl _) (.cells #[] 42)
            have t3 : Below W5.heap.size W5 (W5.alloc (.cells #[] 42)).drew := a3.drew
            have a2 := (Below.refl (W5.alloc (.cells #[] 42)).heap.size _).alloc (Nat.le_refl _) (.cells #[.int .i64 1, .int .i64 px, .int .i64 py, .int .i64 0, .int .i64 0, .int .i64 0, .int .i64 0, .int .i64 0, .int .i64 0, .int .i64 0, .bool false, .bool false] 42)
            have t2 : Below W5.heap.size W5 ((W5.alloc (.cells #[] 42)).alloc (.cells #[.int .i64 1, .int .i64 px, .int .i64 py, .int .i64 0, .int .i64 0, .int .i64 0, .int .i64 0, .int .i64 0, .int .i64 0, .int .i64 0, .bool false, .bool false] 42)).drew := (a3.trans (a2.mono a3.size)).drew
            have a1 := (Below.refl W5.heap.size W5).alloc (Nat.le_refl _) (.cells #[.int .i64 1, .int .i64 px, .int .i64 py, .int .i64 0, .int .i64 0, .int .i64 0, .int .i64 0, .int .i64 0, .int .i64 0, .int .i64 0, .bool false, .bool false] 42)
            have a1' := (Below.refl (W5.alloc (.cells #[.int .i64 1, .int .i64 px, .int .i64 py, .int .i64 0, .int .i64 0, .int .i64 0, .int .i64 0, .int .i64 0, .int .i64 0, .int .i64 0, .bool false, .bool false] 42)).heap.size _).alloc (Nat.le_refl _) (.cells #[] 42)
            have t1 : Below W5.heap.size W5 ((W5.alloc (.cells #[.int .i64 1, .int .i64 px, .int .i64 py, .int .i64 0, .int .i64 0, .int .i64 0, .int .i64 0, .int .i64 0, .int .i64 0, .int .i64 0, .bool false, .bool false] 42)).alloc (.cells #[] 42)).drew := (a1.trans (a1'.mono a1.size)).drew
            have E3 : Hid (Segs w.heap.size (.slice (some ⟨W5.heap.size, 0, none⟩) 0 0) [] (W5.alloc (.cells #[] 42)).drew) := emptyRow (World.alloc_heap_new W5 _) hR5
            have E2 : Hid (Segs w.heap.size (.slice (some ⟨W5.heap.size, 0, none⟩) 0 0) [] ((W5.alloc (.cells #[] 42)).alloc (.cells #[.int .i64 1, .int .i64 px, .int .i64 py, .int .i64 0, .int .i64 0, .int .i64 0, .int .i64 0, .int .i64 0, .int .i64 0, .int .i64 0, .bool false, .bool false] 42)).drew) := emptyRow ((a2.block _ (by omega)).trans (World.alloc_heap_new W5 _)) hR5
            have E1 : Hid (Segs w.heap.size (.slice (some ⟨W5.heap.size + 1, 0, none⟩) 0 0) [] ((W5.alloc (.cells #[.int .i64 1, .int .i64 px, .int .i64 py, .int .i64 0, .int .i64 0, .int .i64 0, .int .i64 0, .int .i64 0, .int .i64 0, .int .i64 0, .bool false, .bool false] 42)).alloc (.cells #[] 42)).drew) := emptyRow (by have h := World.alloc_heap_new (W5.alloc (.cells #[.int .i64 1, .int .i64 px, .int .i64 py, .int .i64 0, .int .i64 0, .int .i64 0, .int .i64 0, .int .i64 0, .int .i64 0, .int .i64 0, .bool false, .bool false] 42)) (.cells #[] 42); rw [sG] at h; exact h) (by omega)
            have S2 : Hid (BoxS (W5.heap.size + 1) (segS 1 px py 0 0 0 0) ((W5.alloc (.cells #[] 42)).alloc (.cells #[.int .i64 1, .int .i64 px, .int .i64 py, .int .i64 0, .int .i64 0, .int .i64 0, .int .i64 0, .int .i64 0, .int .i64 0, .int .i64 0, .bool false, .bool false] 42)).drew) := by have h := World.alloc_heap_new (W5.alloc (.cells #[] 42)) (.cells #[.int .i64 1, .int .i64 px, .int .i64 py, .int .i64 0, .int .i64 0, .int .i64 0, .int .i64 0, .int .i64 0, .int .i64 0, .int .i64 0, .bool false, .bool false] 42); rw [sE] at h; exact h
            have S1 : Hid (BoxS W5.heap.size (segS 1 px py 0 0 0 0) ((W5.alloc (.cells #[.int .i64 1, .int .i64 px, .int .i64 py, .int .i64 0, .int .i64 0, .int .i64 0, .int .i64 0, .int .i64 0, .int .i64 0, .int .i64 0, .bool false, .bool false] 42)).alloc (.cells #[] 42)).drew) := (a1'.block _ (by omega)).trans (World.alloc_heap_new W5 _)
            have K3 := Lib.hid (HK5.out.next t3)
            have K2 := Lib.hid (HK5.out.next t2)
            have K1 := Lib.hid (HK5.out.next t1)
            have X3 := Lib.hid (HP5.out.next t3)
            have X2 := Lib.hid (HP5.out.next t2)
            have X1 := Lib.hid (HP5.out.next t1)
            have B3 := Lib.hid (HB5.out.trans (t3.mono hR5))
            have B2 := Lib.hid (HB5.out.trans (t2.mono hR5))
            have B1 := Lib.hid (HB5.out.trans (t1.mono hR5))
            have hKp : 0 < out.length := hpos
            have q3 := t3.size
            have q2 := t2.size
            have q1 := t1.size
            clear a1 a1' a2 a3 t1 t2 t3
            go_region_held3 (fun w' => w'.cell? ⟨P, 0, none⟩ = some (.int .i64 px) ∧ w'.cell? ⟨P, 1, none⟩ = some (.int .i64 py)) (first | (simp [go_sem, *]; done) | (exact ⟨by assumption, by assumption⟩))
              (first
                | (refine step_segs0 (by rfl) (.tmp 47) (.tmp 48) (by rfl) E3.out (by rfl) K3.out (by rfl) hKp hKl B3.out.size _ rfl ?_; intro d1 e1 f1 h1 i1 j1 l1; have hd1 : W5.heap.size ≤ d1 := xd_ge j1 (by omega) (by have := q3; omega); have XF0 := (X3.out.grown i1 E3.out rfl); have OF0 := K3.out.grown7 i1 (fun k hk hkl => by have hk5 := (own_type HO5.out k hk).1; show some k ≠ some (W5.heap.size); simp; omega); have BF0 := B3.out.trans (grown_below7 E3.out B3.out.size i1); have hR1 := Nat.le_trans B3.out.size i1.size; have gA := (Below.refl f1.heap.size f1).alloc (Nat.le_refl _) (.cells #[.int .i64 1, .int .i64 px, .int .i64 py, .int .i64 0, .int .i64 0, .int .i64 0, .int .i64 0, .int .i64 0, .int .i64 0, .int .i64 0, .bool false, .bool false] 42); have R1 := Lib.hid (h1.next gA); have N1 : Hid (BoxS f1.heap.size (segS 1 px py 0 0 0 0) (f1.alloc (.cells #[.int .i64 1, .int .i64 px, .int .i64 py, .int .i64 0, .int .i64 0, .int .i64 0, .int .i64 0, .int .i64 0, .int .i64 0, .int .i64 0, .bool false, .bool false] 42))) := World.alloc_heap_new f1 _; have BF := Lib.hid (BF0.trans (gA.mono hR1)); have XF := Lib.hid (XF0.next gA); have OF := Lib.hid (OF0.next gA); have hPf : P < f1.heap.size := XF0.lt; have x0 := XF0.c0; have x1 := XF0.c1; clear XF0 BF0 OF0)
                | (refine step_segs0 (by rfl) (.tmp 47) (.tmp 48) (by rfl) E2.out (by rfl) K2.out (by rfl) hKp hKl B2.out.size _ rfl ?_; intro d1 e1 f1 h1 i1 j1 l1; have hd1 : W5.heap.size ≤ d1 := xd_ge j1 (by omega) (by have := q2; omega); have XF0 := (X2.out.grown i1 E2.out rfl); have OF0 := K2.out.grown7 i1 (fun k hk hkl => by have hk5 := (own_type HO5.out k hk).1; show some k ≠ some (W5.heap.size); simp; omega); have BF0 := B2.out.trans (grown_below7 E2.out B2.out.size i1); have hR1 := Nat.le_trans B2.out.size i1.size; have R1 := Lib.hid h1; have N1 := Lib.hid (S2.out.grown i1 (by show some _ ≠ some (W5.heap.size); simp)); have BF := Lib.hid BF0; have XF := Lib.hid XF0; have OF := Lib.hid OF0; have hPf : P < f1.heap.size := XF0.lt; have x0 := XF0.c0; have x1 := XF0.c1; clear XF0 BF0 OF0)
                | (refine step_segs0 (by rfl) (.tmp 47) (.tmp 48) (by rfl) E1.out (by rfl) K1.out (by rfl) hKp hKl B1.out.size _ rfl ?_; intro d1 e1 f1 h1 i1 j1 l1; have hd1 : W5.heap.size ≤ d1 := xd_ge j1 (by omega) (by have := q1; omega); have XF0 := (X1.out.grown i1 E1.out rfl); have OF0 := K1.out.grown7 i1 (fun k hk hkl => by have hk5 := (own_type HO5.out k hk).1; show some k ≠ some (W5.heap.size + 1); simp; omega); have BF0 := B1.out.trans (grown_below7 E1.out B1.out.size i1); have hR1 := Nat.le_trans B1.out.size i1.size; have R1 := Lib.hid h1; have N1 := Lib.hid (S1.out.grown i1 (by show some _ ≠ some (W5.heap.size + 1); simp)); have BF := Lib.hid BF0; have XF := Lib.hid XF0; have OF := Lib.hid OF0; have hPf : P < f1.heap.size := XF0.lt; have x0 := XF0.c0; have x1 := XF0.c1; clear XF0 BF0 OF0)
                | (refine step_seg (by rfl) (.tmp 49) (.tmp 52) (by rfl) (segS 1 px py 0 0 0 0) R1.out (by rfl) N1.out (by rfl) hKl BF.out.size _ rfl ?_; intro d2 e2 f2 h2 i2 j2 l2; have R2 := Lib.hid h2; have BG := Lib.hid (BF.out.trans (grown_below7 R1.out BF.out.size i2)); have XG := XF.out.grown i2 R1.out rfl; have OG := Lib.hid (OF.out.grown7 i2 (fun k hk hkl => by have hk5 := (own_type HO5.out k hk).1; show some k ≠ some d1; simp; omega)); have x2 := XG.c0; have x3 := XG.c1))
            all_goals
              clear HP5 HK5 HB5 E1 E2 E3 S1 S2 K1 K2 K3 X1 X2 X3 B1 B2 B3 x0 x1 x2 x3 p0 p1 R1 N1 BF XF OF
              have HP5 := Lib.hid XG
              have HO5' := Lib.hid OG.out
              clear HO5 OG XG
              have HO5 := Lib.hid HO5'.out
              have HB5 := Lib.hid BG.out
              obtain ⟨K, hKd⟩ : ∃ K, K = out ++ [(segS 1 px py 0 0 0 0)] := ⟨_, rfl⟩
              have HK5' := R2.out
              rw [← hKd] at HK5' hopen
              have eK : out.length + 1 = K.length := by rw [hKd]; simp
              rw [eK] at HK5' ⊢
              have HK5 := Lib.hid HK5'
              have hKne : K ≠ [] := by rw [hKd]; simp
              have HKIN := Lib.hid (show K ≠ [] → inB (K.getLastD zeroS) from fun _ => by rw [hKd, last_snoc]; exact mv_in hpt)
              have HK77 := Lib.hid (show K = [] → capL (ltr l i) = 77 from fun h => absurd h hKne)
              have hKl' := hKl
              clear hKl HK5' HO5' R2 BG hKd hKp sE sG q1 q2 q3
              have hKl : K.length ≤ 100000000 := by omega
              clear hKl'
              go_upto_region 14 with fail
              have hw' := hw
              obtain ⟨gg, hgg⟩ : ∃ gg, gg = oneS ⟨ltr l i, ars l i⟩ (px, py) K was := ⟨_, rfl⟩
              have HE2 : Hid ((if inR gg then walkR (K ++ [gg]) (capL (ltr l i)) (l.drop (i + 1)) (i + 1) else (out, (i : Int))) = RES) := by have hE4 := HE.out; rw [hopen] at hE4; rw [hgg]; exact hE4
              have HIN := Lib.hid (show inB gg ↔ inR gg by rw [hgg]; exact one_in _ hw _ _ _)
              have dw : Below f2.heap.size f2 f2.drew := (Below.refl _ f2).drew
              have HPd := Lib.hid (HP5.out.next dw)
              have HOd := Lib.hid (HO5.out.next dw)
              have HKd := Lib.hid (HK5.out.next dw)
              have HBd := Lib.hid (HB5.out.trans (dw.mono HB5.out.size))
              obtain ⟨I5, r2', r3'⟩ := IA.out f2 HB5.out
              have hbW5 : b < f2.heap.size := Nat.lt_of_lt_of_le hb HB5.out.size
              have hPW5 : P < f2.heap.size := HP5.out.lt
              have p0 := HP5.out.c0
              have p1 := HP5.out.c1
              have ON := Lib.hid (show ∀ W, Below f2.heap.size f2 W → Calls Tryz.prog 37 #[.agg #[.int .u8 (ltr l i : Int), .slice aa (ars l i).length ac], .agg #[.int .i64 px, .int .i64 py], .slice (some ⟨d2, 0, none⟩) K.length e2, .int .u8 (was : Int)] W fun e w' => e = .returned (.agg #[.int .i64 gg.kind, .int .i64 gg.tx, .int .i64 gg.ty, .int .i64 gg.ax, .int .i64 gg.ay, .int .i64 gg.cx, .int .i64 gg.cy, .int .i64 gg.rx, .int .i64 gg.ry, .int .i64 gg.turn, .bool gg.lg, .bool gg.sw]) ∧ Below W.heap.size W w' from fun W t => by
                have h := rone7_any (ltr l i) aa ac (ars l i) px py (some ⟨d2, 0, none⟩) K e2 was W hw (IA.out W (HB5.out.trans (t.mono HB5.out.size))).1 (by obtain ⟨a1, c1, e1, hr1, _⟩ := (HK5.out.next t).reads; injection e1 with ea _ _; subst ea; exact hr1) hKl hpt HKIN.out HK77.out
                rw [← hgg] at h
                exact h)
              have dz : Below f2.heap.size f2 (f2.alloc (.cells zeroS.cells.toArray 42)).drew := ((Below.refl _ f2).alloc (Nat.le_refl _) _).drew
              have HXz : Hid (BoxS f2.heap.size zeroS (f2.alloc (.cells zeroS.cells.toArray 42)).drew) := World.alloc_heap_new f2 _
              clear hgg I5 r2 r3
              go_region_held3 (fun w' => w'.cell? ⟨b, off + i * 2, none⟩ = some (.int .u8 (ltr l i : Int)) ∧ w'.cell? ⟨b, off + i * 2 + 1, none⟩ = some (.slice aa (ars l i).length ac) ∧ w'.cell? ⟨P, 0, none⟩ = some (.int .i64 px) ∧ w'.cell? ⟨P, 1, none⟩ = some (.int .i64 py)) (first | (simp [go_sem, *]; done) | (exact ⟨by assumption, by assumption, by assumption, by assumption⟩))
                (first
                  | (go_at_call 37; refine (ON.out f2.drew dw).mono ?_; rintro e w6 ⟨rfl, b6⟩; have HT6 := Lib.hid (dw.trans (b6.mono dw.size)); have HP6 := Lib.hid (HP5.out.next HT6.out); have HO6 := Lib.hid (HO5.out.next HT6.out); have HK6 := Lib.hid (HK5.out.next HT6.out); have HB6 := Lib.hid (HB5.out.trans (HT6.out.mono HB5.out.size)); have hP6 := HP6.out.lt; have hb6 := Nat.lt_of_lt_of_le hb HB6.out.size; have q0 := HP6.out.c0; have q1 := HP6.out.c1; have q2 := (IA.out w6 HB6.out).2.1; have q3 := (IA.out w6 HB6.out).2.2; have HKIND : Hid (0 = 0) := rfl; clear b6)
                  | (go_at_call 37; refine (ON.out (f2.alloc (.cells zeroS.cells.toArray 42)).drew dz).mono ?_; rintro e w6 ⟨rfl, b6⟩; have HT6 := Lib.hid (dz.trans (b6.mono dz.size)); have HP6 := Lib.hid (HP5.out.next HT6.out); have HO6 := Lib.hid (HO5.out.next HT6.out); have HK6 := Lib.hid (HK5.out.next HT6.out); have HB6 := Lib.hid (HB5.out.trans (HT6.out.mono HB5.out.size)); have hP6 := HP6.out.lt; have hb6 := Nat.lt_of_lt_of_le hb HB6.out.size; have q0 := HP6.out.c0; have q1 := HP6.out.c1; have q2 := (IA.out w6 HB6.out).2.1; have q3 := (IA.out w6 HB6.out).2.2; have HX6 := Lib.hid (HXz.out.next b6); obtain ⟨z0, z1, z2, z3, z4, z5, z6, z7, z8, z9, z10, z11⟩ := SegAt.of_block HX6.out; simp only [Nat.zero_add] at z1 z2 z3 z4 z5 z6 z7 z8 z9 z10 z11; have zz0 := HX6.out.z 0; have zz1 := HX6.out.z 1; have zz2 := HX6.out.z 2; have zz3 := HX6.out.z 3; have zz4 := HX6.out.z 4; have zz5 := HX6.out.z 5; have zz6 := HX6.out.z 6; have zz7 := HX6.out.z 7; have zz8 := HX6.out.z 8; have zz9 := HX6.out.z 9; have zz10 := HX6.out.z 10; have zz11 := HX6.out.z 11; have nbX := Nat.ne_of_lt hbW5; have nXb := Ne.symm nbX; have nPX := Nat.ne_of_lt hPW5; have nXP := Ne.symm nPX; clear b6))
              next =>
                have b7 := (Below.refl w6.heap.size w6).alloc (Nat.le_refl _) (.cells #[.int .i64 gg.kind, .int .i64 gg.tx, .int .i64 gg.ty, .int .i64 gg.ax, .int .i64 gg.ay, .int .i64 gg.cx, .int .i64 gg.cy, .int .i64 gg.rx, .int .i64 gg.ry, .int .i64 gg.turn, .bool gg.lg, .bool gg.sw] 42)
                have HX7 : Hid (BoxS w6.heap.size gg (w6.alloc (.cells #[.int .i64 gg.kind, .int .i64 gg.tx, .int .i64 gg.ty, .int .i64 gg.ax, .int .i64 gg.ay, .int .i64 gg.cx, .int .i64 gg.cy, .int .i64 gg.rx, .int .i64 gg.ry, .int .i64 gg.turn, .bool gg.lg, .bool gg.sw] 42))) := World.alloc_heap_new w6 _
                have HO7 := Lib.hid (HO6.out.next b7)
                have HK7 := Lib.hid (HK6.out.next b7)
                have HB7 := Lib.hid (HB6.out.trans (b7.mono HB6.out.size))
                generalize hX : w6.heap.size = X at *
                generalize hW7 : w6.alloc (.cells #[.int .i64 gg.kind, .int .i64 gg.tx, .int .i64 gg.ty, .int .i64 gg.ax, .int .i64 gg.ay, .int .i64 gg.cx, .int .i64 gg.cy, .int .i64 gg.rx, .int .i64 gg.ry, .int .i64 gg.turn, .bool gg.lg, .bool gg.sw] 42) = W7 at *
                clear b7 hX hW7 p0 p1 q0 q1 q2 q3 r2' r3' ON HP6 HO6 HK6 HB6 HT6 HP5 HO5 HK5 HB5 HXz dw dz hP6 hb6 HKIND
                have N1 := Lib.hid (fun w => rin_any gg.tx gg.ty w)
                have N2 := Lib.hid (fun w => rin_any gg.ax gg.ay w)
                have N3 := Lib.hid (fun w => rin_any gg.cx gg.cy w)
                obtain ⟨_, y1, y2, y3, y4, y5, y6, _⟩ := SegAt.of_block HX7.out
                simp only [Nat.zero_add] at y1 y2 y3 y4 y5 y6
                go_wp2_with fail
                refine (N1.out _).mono ?_
                rintro e w8 ⟨rfl, b8⟩
                have HX8 := Lib.hid (HX7.out.next b8)
                have HO8 := Lib.hid (HO7.out.next b8)
                have HK8 := Lib.hid (HK7.out.next b8)
                have HB8 := Lib.hid (HB7.out.trans (b8.mono HB7.out.size))
                clear b8 y1 y2 y3 y4 y5 y6 HX7 HO7 HK7 HB7 N1
                obtain ⟨_, y1, y2, y3, y4, y5, y6, _⟩ := SegAt.of_block HX8.out
                simp only [Nat.zero_add] at y1 y2 y3 y4 y5 y6
                by_cases c1 : In32 gg.tx ∧ In32 gg.ty
                · rw [decide_eq_true c1]
                  go_wp2_with fail
                  refine (N2.out _).mono ?_
                  rintro e w9 ⟨rfl, b9⟩
                  have HX9 := Lib.hid (HX8.out.next b9)
                  have HO9 := Lib.hid (HO8.out.next b9)
                  have HK9 := Lib.hid (HK8.out.next b9)
                  have HB9 := Lib.hid (HB8.out.trans (b9.mono HB8.out.size))
                  clear b9 y1 y2 y3 y4 y5 y6 HX8 HO8 HK8 HB8 N2
                  obtain ⟨_, y1, y2, y3, y4, y5, y6, _⟩ := SegAt.of_block HX9.out
                  simp only [Nat.zero_add] at y1 y2 y3 y4 y5 y6
                  by_cases c2 : In32 gg.ax ∧ In32 gg.ay
                  · rw [decide_eq_true c2]
                    go_wp2_with fail
                    refine (N3.out _).mono ?_
                    rintro e wA ⟨rfl, bA⟩
                    have HXA := Lib.hid (HX9.out.next bA)
                    have HOA := Lib.hid (HO9.out.next bA)
                    have HKA := Lib.hid (HK9.out.next bA)
                    have HBA := Lib.hid (HB9.out.trans (bA.mono HB9.out.size))
                    clear bA y1 y2 y3 y4 y5 y6 HX9 HO9 HK9 HB9 N3
                    by_cases c3 : In32 gg.cx ∧ In32 gg.cy
                    · rw [decide_eq_true c3]
                      have hE3 := HE2.out
                      rw [if_pos ⟨c1, c2, c3⟩] at hE3
                      have HE3 := Lib.hid hE3
                      have hgin := HIN.out.2 ⟨c1, c2, c3⟩
                      clear hE3 HE2 HE
                      go_upto_region 17 with fail
                      have hXs := HXA.out.lt
                      obtain ⟨g0, g1, g2, g3, g4, g5, g6, g7, g8, g9, g10, g11⟩ := SegAt.of_block HXA.out
                      simp only [Nat.zero_add] at g1 g2 g3 g4 g5 g6 g7 g8 g9 g10 g11
                      have hRA : w.heap.size ≤ wA.heap.size := HBA.out.size
                      have sE : (wA.alloc (.cells #[] 42)).heap.size = wA.heap.size + 1 := by simp
                      have sG : (wA.alloc (.cells #[.int .i64 gg.kind, .int .i64 gg.tx, .int .i64 gg.ty, .int .i64 gg.ax, .int .i64 gg.ay, .int .i64 gg.cx, .int .i64 gg.cy, .int .i64 gg.rx, .int .i64 gg.ry, .int .i64 gg.turn, .bool gg.lg, .bool gg.sw] 42)).heap.size = wA.heap.size + 1 := by simp
                      have a3 := (Below.refl wA.heap.size wA).alloc (Nat.le_refl _) (.cells #[] 42)
                      have t3 : Below wA.heap.size wA (wA.alloc (.cells #[] 42)).drew := a3.drew
                      have a2 := (Below.refl (wA.alloc (.cells #[] 42)).heap.size _).alloc (Nat.le_refl _) (.cells #[.int .i64 gg.kind, .int .i64 gg.tx, .int .i64 gg.ty, .int .i64 gg.ax, .int .i64 gg.ay, .int .i64 gg.cx, .int .i64 gg.cy, .int .i64 gg.rx, .int .i64 gg.ry, .int .i64 gg.turn, .bool gg.lg, .bool gg.sw] 42)
                      have t2 : Below wA.heap.size wA ((wA.alloc (.cells #[] 42)).alloc (.cells #[.int .i64 gg.kind, .int .i64 gg.tx, .int .i64 gg.ty, .int .i64 gg.ax, .int .i64 gg.ay, .int .i64 gg.cx, .int .i64 gg.cy, .int .i64 gg.rx, .int .i64 gg.ry, .int .i64 gg.turn, .bool gg.lg, .bool gg.sw] 42)).drew := (a3.trans (a2.mono a3.size)).drew
                      have a1 := (Below.refl wA.heap.size wA).alloc (Nat.le_refl _) (.cells #[.int .i64 gg.kind, .int .i64 gg.tx, .int .i64 gg.ty, .int .i64 gg.ax, .int .i64 gg.ay, .int .i64 gg.cx, .int .i64 gg.cy, .int .i64 gg.rx, .int .i64 gg.ry, .int .i64 gg.turn, .bool gg.lg, .bool gg.sw] 42)
                      have a1' := (Below.refl (wA.alloc (.cells #[.int .i64 gg.kind, .int .i64 gg.tx, .int .i64 gg.ty, .int .i64 gg.ax, .int .i64 gg.ay, .int .i64 gg.cx, .int .i64 gg.cy, .int .i64 gg.rx, .int .i64 gg.ry, .int .i64 gg.turn, .bool gg.lg, .bool gg.sw] 42)).heap.size _).alloc (Nat.le_refl _) (.cells #[] 42)
                      have t1 : Below wA.heap.size wA ((wA.alloc (.cells #[.int .i64 gg.kind, .int .i64 gg.tx, .int .i64 gg.ty, .int .i64 gg.ax, .int .i64 gg.ay, .int .i64 gg.cx, .int .i64 gg.cy, .int .i64 gg.rx, .int .i64 gg.ry, .int .i64 gg.turn, .bool gg.lg, .bool gg.sw] 42)).alloc (.cells #[] 42)).drew := (a1.trans (a1'.mono a1.size)).drew
                      have E3 : Hid (Segs w.heap.size (.slice (some ⟨wA.heap.size, 0, none⟩) 0 0) [] (wA.alloc (.cells #[] 42)).drew) := emptyRow (World.alloc_heap_new wA _) hRA
                      have E2 : Hid (Segs w.heap.size (.slice (some ⟨wA.heap.size, 0, none⟩) 0 0) [] ((wA.alloc (.cells #[] 42)).alloc (.cells #[.int .i64 gg.kind, .int .i64 gg.tx, .int .i64 gg.ty, .int .i64 gg.ax, .int .i64 gg.ay, .int .i64 gg.cx, .int .i64 gg.cy, .int .i64 gg.rx, .int .i64 gg.ry, .int .i64 gg.turn, .bool gg.lg, .bool gg.sw] 42)).drew) := emptyRow ((a2.block _ (by omega)).trans (World.alloc_heap_new wA _)) hRA
                      have E1 : Hid (Segs w.heap.size (.slice (some ⟨wA.heap.size + 1, 0, none⟩) 0 0) [] ((wA.alloc (.cells #[.int .i64 gg.kind, .int .i64 gg.tx, .int .i64 gg.ty, .int .i64 gg.ax, .int .i64 gg.ay, .int .i64 gg.cx, .int .i64 gg.cy, .int .i64 gg.rx, .int .i64 gg.ry, .int .i64 gg.turn, .bool gg.lg, .bool gg.sw] 42)).alloc (.cells #[] 42)).drew) := emptyRow (by have h := World.alloc_heap_new (wA.alloc (.cells #[.int .i64 gg.kind, .int .i64 gg.tx, .int .i64 gg.ty, .int .i64 gg.ax, .int .i64 gg.ay, .int .i64 gg.cx, .int .i64 gg.cy, .int .i64 gg.rx, .int .i64 gg.ry, .int .i64 gg.turn, .bool gg.lg, .bool gg.sw] 42)) (.cells #[] 42); rw [sG] at h; exact h) (by omega)
                      have S2 : Hid (BoxS (wA.heap.size + 1) gg ((wA.alloc (.cells #[] 42)).alloc (.cells #[.int .i64 gg.kind, .int .i64 gg.tx, .int .i64 gg.ty, .int .i64 gg.ax, .int .i64 gg.ay, .int .i64 gg.cx, .int .i64 gg.cy, .int .i64 gg.rx, .int .i64 gg.ry, .int .i64 gg.turn, .bool gg.lg, .bool gg.sw] 42)).drew) := by have h := World.alloc_heap_new (wA.alloc (.cells #[] 42)) (.cells #[.int .i64 gg.kind, .int .i64 gg.tx, .int .i64 gg.ty, .int .i64 gg.ax, .int .i64 gg.ay, .int .i64 gg.cx, .int .i64 gg.cy, .int .i64 gg.rx, .int .i64 gg.ry, .int .i64 gg.turn, .bool gg.lg, .bool gg.sw] 42); rw [sE] at h; exact h
                      have S1 : Hid (BoxS wA.heap.size gg ((wA.alloc (.cells #[.int .i64 gg.kind, .int .i64 gg.tx, .int .i64 gg.ty, .int .i64 gg.ax, .int .i64 gg.ay, .int .i64 gg.cx, .int .i64 gg.cy, .int .i64 gg.rx, .int .i64 gg.ry, .int .i64 gg.turn, .bool gg.lg, .bool gg.sw] 42)).alloc (.cells #[] 42)).drew) := (a1'.block _ (by omega)).trans (World.alloc_heap_new wA _)
                      have K3 := Lib.hid (HKA.out.next t3)
                      have K2 := Lib.hid (HKA.out.next t2)
                      have K1 := Lib.hid (HKA.out.next t1)
                      have X3 := Lib.hid (HXA.out.next t3)
                      have X2 := Lib.hid (HXA.out.next t2)
                      have X1 := Lib.hid (HXA.out.next t1)
                      have B3 := Lib.hid (HBA.out.trans (t3.mono hRA))
                      have B2 := Lib.hid (HBA.out.trans (t2.mono hRA))
                      have B1 := Lib.hid (HBA.out.trans (t1.mono hRA))
                      have hKp : 0 < K.length := List.length_pos_iff.2 hKne
                      have q3 := t3.size
                      have q2 := t2.size
                      have q1 := t1.size
                      clear a1 a1' a2 a3 t1 t2 t3
                      go_region_held3 (fun w' => w'.cell? ⟨X, 0, none⟩ = some (.int .i64 gg.kind) ∧ w'.cell? ⟨X, 1, none⟩ = some (.int .i64 gg.tx) ∧ w'.cell? ⟨X, 2, none⟩ = some (.int .i64 gg.ty) ∧ w'.cell? ⟨X, 3, none⟩ = some (.int .i64 gg.ax) ∧ w'.cell? ⟨X, 4, none⟩ = some (.int .i64 gg.ay) ∧ w'.cell? ⟨X, 5, none⟩ = some (.int .i64 gg.cx) ∧ w'.cell? ⟨X, 6, none⟩ = some (.int .i64 gg.cy) ∧ w'.cell? ⟨X, 7, none⟩ = some (.int .i64 gg.rx) ∧ w'.cell? ⟨X, 8, none⟩ = some (.int .i64 gg.ry) ∧ w'.cell? ⟨X, 9, none⟩ = some (.int .i64 gg.turn) ∧ w'.cell? ⟨X, 10, none⟩ = some (.bool gg.lg) ∧ w'.cell? ⟨X, 11, none⟩ = some (.bool gg.sw)) (first | (simp [go_sem, *]; done) | (exact ⟨by assumption, by assumption, by assumption, by assumption, by assumption, by assumption, by assumption, by assumption, by assumption, by assumption, by assumption, by assumption⟩))
                        (first
                          | (refine step_segs0 (by rfl) (.tmp 80) (.tmp 81) (by rfl) E3.out (by rfl) K3.out (by rfl) hKp hKl B3.out.size _ rfl ?_; intro d1 e1 f1 h1 i1 j1 l1; have hXd : X ≠ d1 := xd_ne j1 (by omega) (by have := q3; omega); have XF0 := (X3.out.grown i1 (by show some X ≠ some (wA.heap.size); simp; omega)); have BF0 := B3.out.trans (grown_below7 E3.out B3.out.size i1); have hR1 := Nat.le_trans B3.out.size i1.size; have gA := (Below.refl f1.heap.size f1).alloc (Nat.le_refl _) (.cells #[.int .i64 gg.kind, .int .i64 gg.tx, .int .i64 gg.ty, .int .i64 gg.ax, .int .i64 gg.ay, .int .i64 gg.cx, .int .i64 gg.cy, .int .i64 gg.rx, .int .i64 gg.ry, .int .i64 gg.turn, .bool gg.lg, .bool gg.sw] 42); have R1 := Lib.hid (h1.next gA); have N1 : Hid (BoxS f1.heap.size gg (f1.alloc (.cells #[.int .i64 gg.kind, .int .i64 gg.tx, .int .i64 gg.ty, .int .i64 gg.ax, .int .i64 gg.ay, .int .i64 gg.cx, .int .i64 gg.cy, .int .i64 gg.rx, .int .i64 gg.ry, .int .i64 gg.turn, .bool gg.lg, .bool gg.sw] 42))) := World.alloc_heap_new f1 _; have BF := Lib.hid (BF0.trans (gA.mono hR1)); have XF := Lib.hid (XF0.next gA); have hXf : X < f1.heap.size := XF0.lt; obtain ⟨x0, x1, x2, x3, x4, x5, x6, x7, x8, x9, x10, x11⟩ := SegAt.of_block XF0; simp only [Nat.zero_add] at x1 x2 x3 x4 x5 x6 x7 x8 x9 x10 x11; clear XF0 BF0)
                          | (refine step_segs0 (by rfl) (.tmp 80) (.tmp 81) (by rfl) E2.out (by rfl) K2.out (by rfl) hKp hKl B2.out.size _ rfl ?_; intro d1 e1 f1 h1 i1 j1 l1; have hXd : X ≠ d1 := xd_ne j1 (by omega) (by have := q2; omega); have XF0 := (X2.out.grown i1 (by show some X ≠ some (wA.heap.size); simp; omega)); have BF0 := B2.out.trans (grown_below7 E2.out B2.out.size i1); have hR1 := Nat.le_trans B2.out.size i1.size; have R1 := Lib.hid h1; have N1 := Lib.hid (S2.out.grown i1 (by show some _ ≠ some (wA.heap.size); simp)); have BF := Lib.hid BF0; have XF := Lib.hid XF0; have hXf : X < f1.heap.size := XF0.lt; obtain ⟨x0, x1, x2, x3, x4, x5, x6, x7, x8, x9, x10, x11⟩ := SegAt.of_block XF0; simp only [Nat.zero_add] at x1 x2 x3 x4 x5 x6 x7 x8 x9 x10 x11; clear XF0 BF0)
                          | (refine step_segs0 (by rfl) (.tmp 80) (.tmp 81) (by rfl) E1.out (by rfl) K1.out (by rfl) hKp hKl B1.out.size _ rfl ?_; intro d1 e1 f1 h1 i1 j1 l1; have hXd : X ≠ d1 := xd_ne j1 (by omega) (by have := q1; omega); have XF0 := (X1.out.grown i1 (by show some X ≠ some (wA.heap.size + 1); simp; omega)); have BF0 := B1.out.trans (grown_below7 E1.out B1.out.size i1); have hR1 := Nat.le_trans B1.out.size i1.size; have R1 := Lib.hid h1; have N1 := Lib.hid (S1.out.grown i1 (by show some _ ≠ some (wA.heap.size + 1); simp)); have BF := Lib.hid BF0; have XF := Lib.hid XF0; have hXf : X < f1.heap.size := XF0.lt; obtain ⟨x0, x1, x2, x3, x4, x5, x6, x7, x8, x9, x10, x11⟩ := SegAt.of_block XF0; simp only [Nat.zero_add] at x1 x2 x3 x4 x5 x6 x7 x8 x9 x10 x11; clear XF0 BF0)
                          | (refine step_seg (by rfl) (.tmp 82) (.tmp 84) (by rfl) gg R1.out (by rfl) N1.out (by rfl) hKl BF.out.size _ rfl ?_; intro dd2 ee2 ff2 h2 i2 j2 l2; have R2 := Lib.hid h2; have BG := Lib.hid (BF.out.trans (grown_below7 R1.out BF.out.size i2)); have XG := XF.out.grown i2 (by show some X ≠ some d1; simp; exact hXd); obtain ⟨v0, v1, v2, v3, v4, v5, v6, v7, v8, v9, v10, v11⟩ := SegAt.of_block XG; simp only [Nat.zero_add] at v1 v2 v3 v4 v5 v6 v7 v8 v9 v10 v11))
                      all_goals
                        obtain ⟨_, m2, m3⟩ := IA.out ff2 BG.out
                        have hbf : b < ff2.heap.size := Nat.lt_of_lt_of_le hb BG.out.size
                        clear v0 v1 v2 v3 v4 v5 v6 v7 v8 v9 v10 v11 g0 g1 g2 g3 g4 g5 g6 g7 g8 g9 g10 g11 E1 E2 E3 S1 S2 K1 K2 K3 X1 X2 X3 B1 B2 B3 HXA HOA HKA HBA
                        go_wp2_with fail
                        refine (CA.out _).mono ?_
                        rintro e wc ⟨rfl, rfl⟩
                        go_wp2_with fail
                        go_roundw
                        case rel => exact ⟨i + 1, capL (ltr l i), K ++ [gg], (by first | rfl | (rw [h77]; rfl)), by go_num, by omega, by simp only [List.length_append, List.length_cons, List.length_nil]; omega, fun _ => by simp, R2.out, fun _ => by rw [last_snoc]; exact hgin, BG.out, HE3, fun h => absurd h (by omega)⟩
                        case measure => simp [intOf]; omega
                    · rw [decide_eq_false c3]
                      have hE3 := HE2.out
                      rw [if_neg (fun h => c3 h.2.2)] at hE3
                      subst hE3
                      obtain ⟨a9, c9, e9, hr9, hc9⟩ := HOA.out.reads
                      cases e9
                      clear HE HE2
                      go_wp2_with fail
                      go_ret2
                      exact ⟨_, _, rfl, hr9, hc9, HBA.out⟩
                  · rw [decide_eq_false c2]
                    have hE3 := HE2.out
                    rw [if_neg (fun h => c2 h.2.1)] at hE3
                    subst hE3
                    obtain ⟨a9, c9, e9, hr9, hc9⟩ := HO9.out.reads
                    cases e9
                    clear HE HE2
                    go_wp2_with fail
                    go_ret2
                    exact ⟨_, _, rfl, hr9, hc9, HB9.out⟩
                · rw [decide_eq_false c1]
                  have hE3 := HE2.out
                  rw [if_neg (fun h => c1 h.1)] at hE3
                  subst hE3
                  obtain ⟨a9, c9, e9, hr9, hc9⟩ := HO8.out.reads
                  cases e9
                  clear HE HE2
                  go_wp2_with fail
                  go_ret2
                  exact ⟨_, _, rfl, hr9, hc9, HB8.out⟩
              next =>
                have nO : some f2.heap.size ≠ (Value.slice (some ⟨bo, fo, none⟩) out.length co).ownBlock := fun e => by have := (own_type HO5.out _ e.symm).1; omega
                have nK : some f2.heap.size ≠ (Value.slice (some ⟨d2, 0, none⟩) K.length e2).ownBlock := fun e => by have := (own_type HK5.out _ e.symm).1; omega
                have HX7 := Lib.hid (HX6.out.put gg)
                have HO7 := Lib.hid (HO6.out.put nO gg)
                have HK7 := Lib.hid (HK6.out.put nK gg)
                have HB7 := Lib.hid (below_put HB6.out HB5.out.size gg)
                unfold put12 at HX7 HO7 HK7 HB7
                generalize hX : f2.heap.size = X at *
                generalize hW7 : World.setCell _ _ _ = W7 at *
                clear hX hW7 p0 p1 q0 q1 q2 q3 r2' r3' ON HP6 HO6 HK6 HB6 HT6 HP5 HO5 HK5 HB5 HXz dw dz hP6 hb6 HX6 nO nK z0 z1 z2 z3 z4 z5 z6 z7 z8 z9 z10 z11 zz0 zz1 zz2 zz3 zz4 zz5 zz6 zz7 zz8 zz9 zz10 zz11 nXb nbX nXP nPX
                have N1 := Lib.hid (fun w => rin_any gg.tx gg.ty w)
                have N2 := Lib.hid (fun w => rin_any gg.ax gg.ay w)
                have N3 := Lib.hid (fun w => rin_any gg.cx gg.cy w)
                obtain ⟨_, y1, y2, y3, y4, y5, y6, _⟩ := SegAt.of_block HX7.out
                simp only [Nat.zero_add] at y1 y2 y3 y4 y5 y6
                go_wp2_with fail
                refine (N1.out _).mono ?_
                rintro e w8 ⟨rfl, b8⟩
                have HX8 := Lib.hid (HX7.out.next b8)
                have HO8 := Lib.hid (HO7.out.next b8)
                have HK8 := Lib.hid (HK7.out.next b8)
                have HB8 := Lib.hid (HB7.out.trans (b8.mono HB7.out.size))
                clear b8 y1 y2 y3 y4 y5 y6 HX7 HO7 HK7 HB7 N1
                obtain ⟨_, y1, y2, y3, y4, y5, y6, _⟩ := SegAt.of_block HX8.out
                simp only [Nat.zero_add] at y1 y2 y3 y4 y5 y6
                by_cases c1 : In32 gg.tx ∧ In32 gg.ty
                · rw [decide_eq_true c1]
                  go_wp2_with fail
                  refine (N2.out _).mono ?_
                  rintro e w9 ⟨rfl, b9⟩
                  have HX9 := Lib.hid (HX8.out.next b9)
                  have HO9 := Lib.hid (HO8.out.next b9)
                  have HK9 := Lib.hid (HK8.out.next b9)
                  have HB9 := Lib.hid (HB8.out.trans (b9.mono HB8.out.size))
                  clear b9 y1 y2 y3 y4 y5 y6 HX8 HO8 HK8 HB8 N2
                  obtain ⟨_, y1, y2, y3, y4, y5, y6, _⟩ := SegAt.of_block HX9.out
                  simp only [Nat.zero_add] at y1 y2 y3 y4 y5 y6
                  by_cases c2 : In32 gg.ax ∧ In32 gg.ay
                  · rw [decide_eq_true c2]
                    go_wp2_with fail
                    refine (N3.out _).mono ?_
                    rintro e wA ⟨rfl, bA⟩
                    have HXA := Lib.hid (HX9.out.next bA)
                    have HOA := Lib.hid (HO9.out.next bA)
                    have HKA := Lib.hid (HK9.out.next bA)
                    have HBA := Lib.hid (HB9.out.trans (bA.mono HB9.out.size))
                    clear bA y1 y2 y3 y4 y5 y6 HX9 HO9 HK9 HB9 N3
                    by_cases c3 : In32 gg.cx ∧ In32 gg.cy
                    · rw [decide_eq_true c3]
                      have hE3 := HE2.out
                      rw [if_pos ⟨c1, c2, c3⟩] at hE3
                      have HE3 := Lib.hid hE3
                      have hgin := HIN.out.2 ⟨c1, c2, c3⟩
                      clear hE3 HE2 HE
                      go_upto_region 17 with fail
                      have hXs := HXA.out.lt
                      obtain ⟨g0, g1, g2, g3, g4, g5, g6, g7, g8, g9, g10, g11⟩ := SegAt.of_block HXA.out
                      simp only [Nat.zero_add] at g1 g2 g3 g4 g5 g6 g7 g8 g9 g10 g11
                      have hRA : w.heap.size ≤ wA.heap.size := HBA.out.size
                      have sE : (wA.alloc (.cells #[] 42)).heap.size = wA.heap.size + 1 := by simp
                      have sG : (wA.alloc (.cells #[.int .i64 gg.kind, .int .i64 gg.tx, .int .i64 gg.ty, .int .i64 gg.ax, .int .i64 gg.ay, .int .i64 gg.cx, .int .i64 gg.cy, .int .i64 gg.rx, .int .i64 gg.ry, .int .i64 gg.turn, .bool gg.lg, .bool gg.sw] 42)).heap.size = wA.heap.size + 1 := by simp
                      have a3 := (Below.refl wA.heap.size wA).alloc (Nat.le_refl _) (.cells #[] 42)
                      have t3 : Below wA.heap.size wA (wA.alloc (.cells #[] 42)).drew := a3.drew
                      have a2 := (Below.refl (wA.alloc (.cells #[] 42)).heap.size _).alloc (Nat.le_refl _) (.cells #[.int .i64 gg.kind, .int .i64 gg.tx, .int .i64 gg.ty, .int .i64 gg.ax, .int .i64 gg.ay, .int .i64 gg.cx, .int .i64 gg.cy, .int .i64 gg.rx, .int .i64 gg.ry, .int .i64 gg.turn, .bool gg.lg, .bool gg.sw] 42)
                      have t2 : Below wA.heap.size wA ((wA.alloc (.cells #[] 42)).alloc (.cells #[.int .i64 gg.kind, .int .i64 gg.tx, .int .i64 gg.ty, .int .i64 gg.ax, .int .i64 gg.ay, .int .i64 gg.cx, .int .i64 gg.cy, .int .i64 gg.rx, .int .i64 gg.ry, .int .i64 gg.turn, .bool gg.lg, .bool gg.sw] 42)).drew := (a3.trans (a2.mono a3.size)).drew
                      have a1 := (Below.refl wA.heap.size wA).alloc (Nat.le_refl _) (.cells #[.int .i64 gg.kind, .int .i64 gg.tx, .int .i64 gg.ty, .int .i64 gg.ax, .int .i64 gg.ay, .int .i64 gg.cx, .int .i64 gg.cy, .int .i64 gg.rx, .int .i64 gg.ry, .int .i64 gg.turn, .bool gg.lg, .bool gg.sw] 42)
                      have a1' := (Below.refl (wA.alloc (.cells #[.int .i64 gg.kind, .int .i64 gg.tx, .int .i64 gg.ty, .int .i64 gg.ax, .int .i64 gg.ay, .int .i64 gg.cx, .int .i64 gg.cy, .int .i64 gg.rx, .int .i64 gg.ry, .int .i64 gg.turn, .bool gg.lg, .bool gg.sw] 42)).heap.size _).alloc (Nat.le_refl _) (.cells #[] 42)
                      have t1 : Below wA.heap.size wA ((wA.alloc (.cells #[.int .i64 gg.kind, .int .i64 gg.tx, .int .i64 gg.ty, .int .i64 gg.ax, .int .i64 gg.ay, .int .i64 gg.cx, .int .i64 gg.cy, .int .i64 gg.rx, .int .i64 gg.ry, .int .i64 gg.turn, .bool gg.lg, .bool gg.sw] 42)).alloc (.cells #[] 42)).drew := (a1.trans (a1'.mono a1.size)).drew
                      have E3 : Hid (Segs w.heap.size (.slice (some ⟨wA.heap.size, 0, none⟩) 0 0) [] (wA.alloc (.cells #[] 42)).drew) := emptyRow (World.alloc_heap_new wA _) hRA
                      have E2 : Hid (Segs w.heap.size (.slice (some ⟨wA.heap.size, 0, none⟩) 0 0) [] ((wA.alloc (.cells #[] 42)).alloc (.cells #[.int .i64 gg.kind, .int .i64 gg.tx, .int .i64 gg.ty, .int .i64 gg.ax, .int .i64 gg.ay, .int .i64 gg.cx, .int .i64 gg.cy, .int .i64 gg.rx, .int .i64 gg.ry, .int .i64 gg.turn, .bool gg.lg, .bool gg.sw] 42)).drew) := emptyRow ((a2.block _ (by omega)).trans (World.alloc_heap_new wA _)) hRA
                      have E1 : Hid (Segs w.heap.size (.slice (some ⟨wA.heap.size + 1, 0, none⟩) 0 0) [] ((wA.alloc (.cells #[.int .i64 gg.kind, .int .i64 gg.tx, .int .i64 gg.ty, .int .i64 gg.ax, .int .i64 gg.ay, .int .i64 gg.cx, .int .i64 gg.cy, .int .i64 gg.rx, .int .i64 gg.ry, .int .i64 gg.turn, .bool gg.lg, .bool gg.sw] 42)).alloc (.cells #[] 42)).drew) := emptyRow (by have h := World.alloc_heap_new (wA.alloc (.cells #[.int .i64 gg.kind, .int .i64 gg.tx, .int .i64 gg.ty, .int .i64 gg.ax, .int .i64 gg.ay, .int .i64 gg.cx, .int .i64 gg.cy, .int .i64 gg.rx, .int .i64 gg.ry, .int .i64 gg.turn, .bool gg.lg, .bool gg.sw] 42)) (.cells #[] 42); rw [sG] at h; exact h) (by omega)
                      have S2 : Hid (BoxS (wA.heap.size + 1) gg ((wA.alloc (.cells #[] 42)).alloc (.cells #[.int .i64 gg.kind, .int .i64 gg.tx, .int .i64 gg.ty, .int .i64 gg.ax, .int .i64 gg.ay, .int .i64 gg.cx, .int .i64 gg.cy, .int .i64 gg.rx, .int .i64 gg.ry, .int .i64 gg.turn, .bool gg.lg, .bool gg.sw] 42)).drew) := by have h := World.alloc_heap_new (wA.alloc (.cells #[] 42)) (.cells #[.int .i64 gg.kind, .int .i64 gg.tx, .int .i64 gg.ty, .int .i64 gg.ax, .int .i64 gg.ay, .int .i64 gg.cx, .int .i64 gg.cy, .int .i64 gg.rx, .int .i64 gg.ry, .int .i64 gg.turn, .bool gg.lg, .bool gg.sw] 42); rw [sE] at h; exact h
                      have S1 : Hid (BoxS wA.heap.size gg ((wA.alloc (.cells #[.int .i64 gg.kind, .int .i64 gg.tx, .int .i64 gg.ty, .int .i64 gg.ax, .int .i64 gg.ay, .int .i64 gg.cx, .int .i64 gg.cy, .int .i64 gg.rx, .int .i64 gg.ry, .int .i64 gg.turn, .bool gg.lg, .bool gg.sw] 42)).alloc (.cells #[] 42)).drew) := (a1'.block _ (by omega)).trans (World.alloc_heap_new wA _)
                      have K3 := Lib.hid (HKA.out.next t3)
                      have K2 := Lib.hid (HKA.out.next t2)
                      have K1 := Lib.hid (HKA.out.next t1)
                      have X3 := Lib.hid (HXA.out.next t3)
                      have X2 := Lib.hid (HXA.out.next t2)
                      have X1 := Lib.hid (HXA.out.next t1)
                      have B3 := Lib.hid (HBA.out.trans (t3.mono hRA))
                      have B2 := Lib.hid (HBA.out.trans (t2.mono hRA))
                      have B1 := Lib.hid (HBA.out.trans (t1.mono hRA))
                      have hKp : 0 < K.length := List.length_pos_iff.2 hKne
                      have q3 := t3.size
                      have q2 := t2.size
                      have q1 := t1.size
                      clear a1 a1' a2 a3 t1 t2 t3
                      go_region_held3 (fun w' => w'.cell? ⟨X, 0, none⟩ = some (.int .i64 gg.kind) ∧ w'.cell? ⟨X, 1, none⟩ = some (.int .i64 gg.tx) ∧ w'.cell? ⟨X, 2, none⟩ = some (.int .i64 gg.ty) ∧ w'.cell? ⟨X, 3, none⟩ = some (.int .i64 gg.ax) ∧ w'.cell? ⟨X, 4, none⟩ = some (.int .i64 gg.ay) ∧ w'.cell? ⟨X, 5, none⟩ = some (.int .i64 gg.cx) ∧ w'.cell? ⟨X, 6, none⟩ = some (.int .i64 gg.cy) ∧ w'.cell? ⟨X, 7, none⟩ = some (.int .i64 gg.rx) ∧ w'.cell? ⟨X, 8, none⟩ = some (.int .i64 gg.ry) ∧ w'.cell? ⟨X, 9, none⟩ = some (.int .i64 gg.turn) ∧ w'.cell? ⟨X, 10, none⟩ = some (.bool gg.lg) ∧ w'.cell? ⟨X, 11, none⟩ = some (.bool gg.sw)) (first | (simp [go_sem, *]; done) | (exact ⟨by assumption, by assumption, by assumption, by assumption, by assumption, by assumption, by assumption, by assumption, by assumption, by assumption, by assumption, by assumption⟩))
                        (first
                          | (refine step_segs0 (by rfl) (.tmp 80) (.tmp 81) (by rfl) E3.out (by rfl) K3.out (by rfl) hKp hKl B3.out.size _ rfl ?_; intro d1 e1 f1 h1 i1 j1 l1; have hXd : X ≠ d1 := xd_ne j1 (by omega) (by have := q3; omega); have XF0 := (X3.out.grown i1 (by show some X ≠ some (wA.heap.size); simp; omega)); have BF0 := B3.out.trans (grown_below7 E3.out B3.out.size i1); have hR1 := Nat.le_trans B3.out.size i1.size; have gA := (Below.refl f1.heap.size f1).alloc (Nat.le_refl _) (.cells #[.int .i64 gg.kind, .int .i64 gg.tx, .int .i64 gg.ty, .int .i64 gg.ax, .int .i64 gg.ay, .int .i64 gg.cx, .int .i64 gg.cy, .int .i64 gg.rx, .int .i64 gg.ry, .int .i64 gg.turn, .bool gg.lg, .bool gg.sw] 42); have R1 := Lib.hid (h1.next gA); have N1 : Hid (BoxS f1.heap.size gg (f1.alloc (.cells #[.int .i64 gg.kind, .int .i64 gg.tx, .int .i64 gg.ty, .int .i64 gg.ax, .int .i64 gg.ay, .int .i64 gg.cx, .int .i64 gg.cy, .int .i64 gg.rx, .int .i64 gg.ry, .int .i64 gg.turn, .bool gg.lg, .bool gg.sw] 42))) := World.alloc_heap_new f1 _; have BF := Lib.hid (BF0.trans (gA.mono hR1)); have XF := Lib.hid (XF0.next gA); have hXf : X < f1.heap.size := XF0.lt; obtain ⟨x0, x1, x2, x3, x4, x5, x6, x7, x8, x9, x10, x11⟩ := SegAt.of_block XF0; simp only [Nat.zero_add] at x1 x2 x3 x4 x5 x6 x7 x8 x9 x10 x11; clear XF0 BF0)
                          | (refine step_segs0 (by rfl) (.tmp 80) (.tmp 81) (by rfl) E2.out (by rfl) K2.out (by rfl) hKp hKl B2.out.size _ rfl ?_; intro d1 e1 f1 h1 i1 j1 l1; have hXd : X ≠ d1 := xd_ne j1 (by omega) (by have := q2; omega); have XF0 := (X2.out.grown i1 (by show some X ≠ some (wA.heap.size); simp; omega)); have BF0 := B2.out.trans (grown_below7 E2.out B2.out.size i1); have hR1 := Nat.le_trans B2.out.size i1.size; have R1 := Lib.hid h1; have N1 := Lib.hid (S2.out.grown i1 (by show some _ ≠ some (wA.heap.size); simp)); have BF := Lib.hid BF0; have XF := Lib.hid XF0; have hXf : X < f1.heap.size := XF0.lt; obtain ⟨x0, x1, x2, x3, x4, x5, x6, x7, x8, x9, x10, x11⟩ := SegAt.of_block XF0; simp only [Nat.zero_add] at x1 x2 x3 x4 x5 x6 x7 x8 x9 x10 x11; clear XF0 BF0)
                          | (refine step_segs0 (by rfl) (.tmp 80) (.tmp 81) (by rfl) E1.out (by rfl) K1.out (by rfl) hKp hKl B1.out.size _ rfl ?_; intro d1 e1 f1 h1 i1 j1 l1; have hXd : X ≠ d1 := xd_ne j1 (by omega) (by have := q1; omega); have XF0 := (X1.out.grown i1 (by show some X ≠ some (wA.heap.size + 1); simp; omega)); have BF0 := B1.out.trans (grown_below7 E1.out B1.out.size i1); have hR1 := Nat.le_trans B1.out.size i1.size; have R1 := Lib.hid h1; have N1 := Lib.hid (S1.out.grown i1 (by show some _ ≠ some (wA.heap.size + 1); simp)); have BF := Lib.hid BF0; have XF := Lib.hid XF0; have hXf : X < f1.heap.size := XF0.lt; obtain ⟨x0, x1, x2, x3, x4, x5, x6, x7, x8, x9, x10, x11⟩ := SegAt.of_block XF0; simp only [Nat.zero_add] at x1 x2 x3 x4 x5 x6 x7 x8 x9 x10 x11; clear XF0 BF0)
                          | (refine step_seg (by rfl) (.tmp 82) (.tmp 84) (by rfl) gg R1.out (by rfl) N1.out (by rfl) hKl BF.out.size _ rfl ?_; intro dd2 ee2 ff2 h2 i2 j2 l2; have R2 := Lib.hid h2; have BG := Lib.hid (BF.out.trans (grown_below7 R1.out BF.out.size i2)); have XG := XF.out.grown i2 (by show some X ≠ some d1; simp; exact hXd); obtain ⟨v0, v1, v2, v3, v4, v5, v6, v7, v8, v9, v10, v11⟩ := SegAt.of_block XG; simp only [Nat.zero_add] at v1 v2 v3 v4 v5 v6 v7 v8 v9 v10 v11))
                      all_goals
                        obtain ⟨_, m2, m3⟩ := IA.out ff2 BG.out
                        have hbf : b < ff2.heap.size := Nat.lt_of_lt_of_le hb BG.out.size
                        clear v0 v1 v2 v3 v4 v5 v6 v7 v8 v9 v10 v11 g0 g1 g2 g3 g4 g5 g6 g7 g8 g9 g10 g11 E1 E2 E3 S1 S2 K1 K2 K3 X1 X2 X3 B1 B2 B3 HXA HOA HKA HBA
                        go_wp2_with fail
                        refine (CA.out _).mono ?_
                        rintro e wc ⟨rfl, rfl⟩
                        go_wp2_with fail
                        go_roundw
                        case rel => exact ⟨i + 1, capL (ltr l i), K ++ [gg], (by first | rfl | (rw [h77]; rfl)), by go_num, by omega, by simp only [List.length_append, List.length_cons, List.length_nil]; omega, fun _ => by simp, R2.out, fun _ => by rw [last_snoc]; exact hgin, BG.out, HE3, fun h => absurd h (by omega)⟩
                        case measure => simp [intOf]; omega
                    · rw [decide_eq_false c3]
                      have hE3 := HE2.out
                      rw [if_neg (fun h => c3 h.2.2)] at hE3
                      subst hE3
                      obtain ⟨a9, c9, e9, hr9, hc9⟩ := HOA.out.reads
                      cases e9
                      clear HE HE2
                      go_wp2_with fail
                      go_ret2
                      exact ⟨_, _, rfl, hr9, hc9, HBA.out⟩
                  · rw [decide_eq_false c2]
                    have hE3 := HE2.out
                    rw [if_neg (fun h => c2 h.2.1)] at hE3
                    subst hE3
                    obtain ⟨a9, c9, e9, hr9, hc9⟩ := HO9.out.reads
                    cases e9
                    clear HE HE2
                    go_wp2_with fail
                    go_ret2
                    exact ⟨_, _, rfl, hr9, hc9, HB9.out⟩
                · rw [decide_eq_false c1]
                  have hE3 := HE2.out
                  rw [if_neg (fun h => c1 h.1)] at hE3
                  subst hE3
                  obtain ⟨a9, c9, e9, hr9, hc9⟩ := HO8.out.reads
                  cases e9
                  clear HE HE2
                  go_wp2_with fail
                  go_ret2
                  exact ⟨_, _, rfl, hr9, hc9, HB8.out⟩

        ·
          have hne' : out ≠ [] := hne
          have hpos : 0 < out.length := List.length_pos_iff.2 hne
          obtain ⟨bo, fo, rfl, hbo, hcx⟩ := HRD.out.pos hpos
          have hS := hcx (out.length - 1) (by omega)
          have hlst : out.getD (out.length - 1) zeroS = out.getLastD zeroS := by rw [List.getLastD_eq_getLast?, List.getLast?_eq_getElem?]; rfl
          rw [hlst] at hS
          obtain ⟨k0, k1, k2, _⟩ := hS
          have hp1 : (out.getLastD zeroS).tx = px := congrArg Prod.fst hptl
          have hp2 : (out.getLastD zeroS).ty = py := congrArg Prod.snd hptl
          rw [hp1] at k1
          rw [hp2] at k2
          have e1 : IntKind.i64.wrap ((out.length : Int) - 1) = ((out.length - 1 : Nat) : Int) := by rw [IntWalk.i64_in _ (by omega)]; omega
          have hiI : ((out.length - 1 : Nat) : Int) < (out.length : Int) := by omega
          have hgt : (0 : Int) < (out.length : Int) := by omega
          have hk6 : ((out.getLastD zeroS).kind == 6) = false := by rw [beq_eq_false_iff_ne]; exact hk
          have hopen : openL out ⟨ltr l i, ars l i⟩ = out := by unfold openL; rw [if_neg]; rintro ⟨h1, _⟩; rcases h1 with h1 | h1; exact hne h1; exact hk h1
          have b5 := (Below.refl wr.heap.size wr).alloc (Nat.le_refl _) (.cells #[.int .i64 px, .int .i64 py] 39)
          have HP5 := Lib.hid (PtAt.new wr px py)
          have HO5 := Lib.hid (HSG.out.next b5)
          have HK5 := Lib.hid (HSG.out.next b5)
          have HB5 := Lib.hid (HBL.out.trans (b5.mono HBL.out.size))
          have hKl : out.length ≤ 100000000 := by omega
          have HKIN := Lib.hid hla
          have hKne := hne
          have HK77 := Lib.hid h0
          generalize out.length - 1 = on at *
          generalize hgk : (out.getLastD zeroS).kind = gk at *
          clear hlst hp1 hp2 hcx
          go_upto_region 14 with (go_at_call 36; refine (CA.out _).mono ?_; rintro e wc ⟨rfl, rfl⟩)
          generalize hW5 : wr.alloc (.cells #[.int .i64 px, .int .i64 py] 39) = W5 at *
          clear hW5 b5 k0 k1 k2 hiI hgt
          generalize hP : wr.heap.size = P at *
          have hw' := hw
          obtain ⟨gg, hgg⟩ : ∃ gg, gg = oneS ⟨ltr l i, ars l i⟩ (px, py) out was := ⟨_, rfl⟩
          have HE2 : Hid ((if inR gg then walkR (out ++ [gg]) (capL (ltr l i)) (l.drop (i + 1)) (i + 1) else (out, (i : Int))) = RES) := by have hE4 := HE.out; rw [hopen] at hE4; rw [hgg]; exact hE4
          have HIN := Lib.hid (show inB gg ↔ inR gg by rw [hgg]; exact one_in _ hw _ _ _)
          have dw : Below W5.heap.size W5 W5.drew := (Below.refl _ W5).drew
          have HPd := Lib.hid (HP5.out.next dw)
          have HOd := Lib.hid (HO5.out.next dw)
          have HKd := Lib.hid (HK5.out.next dw)
          have HBd := Lib.hid (HB5.out.trans (dw.mono HB5.out.size))
          obtain ⟨I5, r2', r3'⟩ := IA.out W5 HB5.out
          have hbW5 : b < W5.heap.size := Nat.lt_of_lt_of_le hb HB5.out.size
          have hPW5 : P < W5.heap.size := HP5.out.lt
          have p0 := HP5.out.c0
          have p1 := HP5.out.c1
          have ON := Lib.hid (show ∀ W, Below W5.heap.size W5 W → Calls Tryz.prog 37 #[.agg #[.int .u8 (ltr l i : Int), .slice aa (ars l i).length ac], .agg #[.int .i64 px, .int .i64 py], .slice (some ⟨bo, fo, none⟩) out.length co, .int .u8 (was : Int)] W fun e w' => e = .returned (.agg #[.int .i64 gg.kind, .int .i64 gg.tx, .int .i64 gg.ty, .int .i64 gg.ax, .int .i64 gg.ay, .int .i64 gg.cx, .int .i64 gg.cy, .int .i64 gg.rx, .int .i64 gg.ry, .int .i64 gg.turn, .bool gg.lg, .bool gg.sw]) ∧ Below W.heap.size W w' from fun W t => by
            have h := rone7_any (ltr l i) aa ac (ars l i) px py (some ⟨bo, fo, none⟩) out co was W hw (IA.out W (HB5.out.trans (t.mono HB5.out.size))).1 (by obtain ⟨a1, c1, e1, hr1, _⟩ := (HK5.out.next t).reads; injection e1 with ea _ _; subst ea; exact hr1) hKl hpt HKIN.out HK77.out
            rw [← hgg] at h
            exact h)
          have dz : Below W5.heap.size W5 (W5.alloc (.cells zeroS.cells.toArray 42)).drew := ((Below.refl _ W5).alloc (Nat.le_refl _) _).drew
          have HXz : Hid (BoxS W5.heap.size zeroS (W5.alloc (.cells zeroS.cells.toArray 42)).drew) := World.alloc_heap_new W5 _
          clear hgg I5 r2 r3
          go_region_held3 (fun w' => w'.cell? ⟨b, off + i * 2, none⟩ = some (.int .u8 (ltr l i : Int)) ∧ w'.cell? ⟨b, off + i * 2 + 1, none⟩ = some (.slice aa (ars l i).length ac) ∧ w'.cell? ⟨P, 0, none⟩ = some (.int .i64 px) ∧ w'.cell? ⟨P, 1, none⟩ = some (.int .i64 py)) (first | (simp [go_sem, *]; done) | (exact ⟨by assumption, by assumption, by assumption, by assumption⟩))
            (first
              | (go_at_call 37; refine (ON.out W5.drew dw).mono ?_; rintro e w6 ⟨rfl, b6⟩; have HT6 := Lib.hid (dw.trans (b6.mono dw.size)); have HP6 := Lib.hid (HP5.out.next HT6.out); have HO6 := Lib.hid (HO5.out.next HT6.out); have HK6 := Lib.hid (HK5.out.next HT6.out); have HB6 := Lib.hid (HB5.out.trans (HT6.out.mono HB5.out.size)); have hP6 := HP6.out.lt; have hb6 := Nat.lt_of_lt_of_le hb HB6.out.size; have q0 := HP6.out.c0; have q1 := HP6.out.c1; have q2 := (IA.out w6 HB6.out).2.1; have q3 := (IA.out w6 HB6.out).2.2; have HKIND : Hid (0 = 0) := rfl; clear b6)
              | (go_at_call 37; refine (ON.out (W5.alloc (.cells zeroS.cells.toArray 42)).drew dz).mono ?_; rintro e w6 ⟨rfl, b6⟩; have HT6 := Lib.hid (dz.trans (b6.mono dz.size)); have HP6 := Lib.hid (HP5.out.next HT6.out); have HO6 := Lib.hid (HO5.out.next HT6.out); have HK6 := Lib.hid (HK5.out.next HT6.out); have HB6 := Lib.hid (HB5.out.trans (HT6.out.mono HB5.out.size)); have hP6 := HP6.out.lt; have hb6 := Nat.lt_of_lt_of_le hb HB6.out.size; have q0 := HP6.out.c0; have q1 := HP6.out.c1; have q2 := (IA.out w6 HB6.out).2.1; have q3 := (IA.out w6 HB6.out).2.2; have HX6 := Lib.hid (HXz.out.next b6); obtain ⟨z0, z1, z2, z3, z4, z5, z6, z7, z8, z9, z10, z11⟩ := SegAt.of_block HX6.out; simp only [Nat.zero_add] at z1 z2 z3 z4 z5 z6 z7 z8 z9 z10 z11; have zz0 := HX6.out.z 0; have zz1 := HX6.out.z 1; have zz2 := HX6.out.z 2; have zz3 := HX6.out.z 3; have zz4 := HX6.out.z 4; have zz5 := HX6.out.z 5; have zz6 := HX6.out.z 6; have zz7 := HX6.out.z 7; have zz8 := HX6.out.z 8; have zz9 := HX6.out.z 9; have zz10 := HX6.out.z 10; have zz11 := HX6.out.z 11; have nbX := Nat.ne_of_lt hbW5; have nXb := Ne.symm nbX; have nPX := Nat.ne_of_lt hPW5; have nXP := Ne.symm nPX; clear b6))
          next =>
            have b7 := (Below.refl w6.heap.size w6).alloc (Nat.le_refl _) (.cells #[.int .i64 gg.kind, .int .i64 gg.tx, .int .i64 gg.ty, .int .i64 gg.ax, .int .i64 gg.ay, .int .i64 gg.cx, .int .i64 gg.cy, .int .i64 gg.rx, .int .i64 gg.ry, .int .i64 gg.turn, .bool gg.lg, .bool gg.sw] 42)
            have HX7 : Hid (BoxS w6.heap.size gg (w6.alloc (.cells #[.int .i64 gg.kind, .int .i64 gg.tx, .int .i64 gg.ty, .int .i64 gg.ax, .int .i64 gg.ay, .int .i64 gg.cx, .int .i64 gg.cy, .int .i64 gg.rx, .int .i64 gg.ry, .int .i64 gg.turn, .bool gg.lg, .bool gg.sw] 42))) := World.alloc_heap_new w6 _
            have HO7 := Lib.hid (HO6.out.next b7)
            have HK7 := Lib.hid (HK6.out.next b7)
            have HB7 := Lib.hid (HB6.out.trans (b7.mono HB6.out.size))
            generalize hX : w6.heap.size = X at *
            generalize hW7 : w6.alloc (.cells #[.int .i64 gg.kind, .int .i64 gg.tx, .int .i64 gg.ty, .int .i64 gg.ax, .int .i64 gg.ay, .int .i64 gg.cx, .int .i64 gg.cy, .int .i64 gg.rx, .int .i64 gg.ry, .int .i64 gg.turn, .bool gg.lg, .bool gg.sw] 42) = W7 at *
            clear b7 hX hW7 p0 p1 q0 q1 q2 q3 r2' r3' ON HP6 HO6 HK6 HB6 HT6 HP5 HO5 HK5 HB5 HXz dw dz hP6 hb6 HKIND
            have N1 := Lib.hid (fun w => rin_any gg.tx gg.ty w)
            have N2 := Lib.hid (fun w => rin_any gg.ax gg.ay w)
            have N3 := Lib.hid (fun w => rin_any gg.cx gg.cy w)
            obtain ⟨_, y1, y2, y3, y4, y5, y6, _⟩ := SegAt.of_block HX7.out
            simp only [Nat.zero_add] at y1 y2 y3 y4 y5 y6
            go_wp2_with fail
            refine (N1.out _).mono ?_
            rintro e w8 ⟨rfl, b8⟩
            have HX8 := Lib.hid (HX7.out.next b8)
            have HO8 := Lib.hid (HO7.out.next b8)
            have HK8 := Lib.hid (HK7.out.next b8)
            have HB8 := Lib.hid (HB7.out.trans (b8.mono HB7.out.size))
            clear b8 y1 y2 y3 y4 y5 y6 HX7 HO7 HK7 HB7 N1
            obtain ⟨_, y1, y2, y3, y4, y5, y6, _⟩ := SegAt.of_block HX8.out
            simp only [Nat.zero_add] at y1 y2 y3 y4 y5 y6
            by_cases c1 : In32 gg.tx ∧ In32 gg.ty
            · rw [decide_eq_true c1]
              go_wp2_with fail
              refine (N2.out _).mono ?_
              rintro e w9 ⟨rfl, b9⟩
              have HX9 := Lib.hid (HX8.out.next b9)
              have HO9 := Lib.hid (HO8.out.next b9)
              have HK9 := Lib.hid (HK8.out.next b9)
              have HB9 := Lib.hid (HB8.out.trans (b9.mono HB8.out.size))
              clear b9 y1 y2 y3 y4 y5 y6 HX8 HO8 HK8 HB8 N2
              obtain ⟨_, y1, y2, y3, y4, y5, y6, _⟩ := SegAt.of_block HX9.out
              simp only [Nat.zero_add] at y1 y2 y3 y4 y5 y6
              by_cases c2 : In32 gg.ax ∧ In32 gg.ay
              · rw [decide_eq_true c2]
                go_wp2_with fail
                refine (N3.out _).mono ?_
                rintro e wA ⟨rfl, bA⟩
                have HXA := Lib.hid (HX9.out.next bA)
                have HOA := Lib.hid (HO9.out.next bA)
                have HKA := Lib.hid (HK9.out.next bA)
                have HBA := Lib.hid (HB9.out.trans (bA.mono HB9.out.size))
                clear bA y1 y2 y3 y4 y5 y6 HX9 HO9 HK9 HB9 N3
                by_cases c3 : In32 gg.cx ∧ In32 gg.cy
                · rw [decide_eq_true c3]
                  have hE3 := HE2.out
                  rw [if_pos ⟨c1, c2, c3⟩] at hE3
                  have HE3 := Lib.hid hE3
                  have hgin := HIN.out.2 ⟨c1, c2, c3⟩
                  clear hE3 HE2 HE
                  go_upto_region 17 with fail
                  have hXs := HXA.out.lt
                  obtain ⟨g0, g1, g2, g3, g4, g5, g6, g7, g8, g9, g10, g11⟩ := SegAt.of_block HXA.out
                  simp only [Nat.zero_add] at g1 g2 g3 g4 g5 g6 g7 g8 g9 g10 g11
                  have hRA : w.heap.size ≤ wA.heap.size := HBA.out.size
                  have sE : (wA.alloc (.cells #[] 42)).heap.size = wA.heap.size + 1 := by simp
                  have sG : (wA.alloc (.cells #[.int .i64 gg.kind, .int .i64 gg.tx, .int .i64 gg.ty, .int .i64 gg.ax, .int .i64 gg.ay, .int .i64 gg.cx, .int .i64 gg.cy, .int .i64 gg.rx, .int .i64 gg.ry, .int .i64 gg.turn, .bool gg.lg, .bool gg.sw] 42)).heap.size = wA.heap.size + 1 := by simp
                  have a3 := (Below.refl wA.heap.size wA).alloc (Nat.le_refl _) (.cells #[] 42)
                  have t3 : Below wA.heap.size wA (wA.alloc (.cells #[] 42)).drew := a3.drew
                  have a2 := (Below.refl (wA.alloc (.cells #[] 42)).heap.size _).alloc (Nat.le_refl _) (.cells #[.int .i64 gg.kind, .int .i64 gg.tx, .int .i64 gg.ty, .int .i64 gg.ax, .int .i64 gg.ay, .int .i64 gg.cx, .int .i64 gg.cy, .int .i64 gg.rx, .int .i64 gg.ry, .int .i64 gg.turn, .bool gg.lg, .bool gg.sw] 42)
                  have t2 : Below wA.heap.size wA ((wA.alloc (.cells #[] 42)).alloc (.cells #[.int .i64 gg.kind, .int .i64 gg.tx, .int .i64 gg.ty, .int .i64 gg.ax, .int .i64 gg.ay, .int .i64 gg.cx, .int .i64 gg.cy, .int .i64 gg.rx, .int .i64 gg.ry, .int .i64 gg.turn, .bool gg.lg, .bool gg.sw] 42)).drew := (a3.trans (a2.mono a3.size)).drew
                  have a1 := (Below.refl wA.heap.size wA).alloc (Nat.le_refl _) (.cells #[.int .i64 gg.kind, .int .i64 gg.tx, .int .i64 gg.ty, .int .i64 gg.ax, .int .i64 gg.ay, .int .i64 gg.cx, .int .i64 gg.cy, .int .i64 gg.rx, .int .i64 gg.ry, .int .i64 gg.turn, .bool gg.lg, .bool gg.sw] 42)
                  have a1' := (Below.refl (wA.alloc (.cells #[.int .i64 gg.kind, .int .i64 gg.tx, .int .i64 gg.ty, .int .i64 gg.ax, .int .i64 gg.ay, .int .i64 gg.cx, .int .i64 gg.cy, .int .i64 gg.rx, .int .i64 gg.ry, .int .i64 gg.turn, .bool gg.lg, .bool gg.sw] 42)).heap.size _).alloc (Nat.le_refl _) (.cells #[] 42)
                  have t1 : Below wA.heap.size wA ((wA.alloc (.cells #[.int .i64 gg.kind, .int .i64 gg.tx, .int .i64 gg.ty, .int .i64 gg.ax, .int .i64 gg.ay, .int .i64 gg.cx, .int .i64 gg.cy, .int .i64 gg.rx, .int .i64 gg.ry, .int .i64 gg.turn, .bool gg.lg, .bool gg.sw] 42)).alloc (.cells #[] 42)).drew := (a1.trans (a1'.mono a1.size)).drew
                  have E3 : Hid (Segs w.heap.size (.slice (some ⟨wA.heap.size, 0, none⟩) 0 0) [] (wA.alloc (.cells #[] 42)).drew) := emptyRow (World.alloc_heap_new wA _) hRA
                  have E2 : Hid (Segs w.heap.size (.slice (some ⟨wA.heap.size, 0, none⟩) 0 0) [] ((wA.alloc (.cells #[] 42)).alloc (.cells #[.int .i64 gg.kind, .int .i64 gg.tx, .int .i64 gg.ty, .int .i64 gg.ax, .int .i64 gg.ay, .int .i64 gg.cx, .int .i64 gg.cy, .int .i64 gg.rx, .int .i64 gg.ry, .int .i64 gg.turn, .bool gg.lg, .bool gg.sw] 42)).drew) := emptyRow ((a2.block _ (by omega)).trans (World.alloc_heap_new wA _)) hRA
                  have E1 : Hid (Segs w.heap.size (.slice (some ⟨wA.heap.size + 1, 0, none⟩) 0 0) [] ((wA.alloc (.cells #[.int .i64 gg.kind, .int .i64 gg.tx, .int .i64 gg.ty, .int .i64 gg.ax, .int .i64 gg.ay, .int .i64 gg.cx, .int .i64 gg.cy, .int .i64 gg.rx, .int .i64 gg.ry, .int .i64 gg.turn, .bool gg.lg, .bool gg.sw] 42)).alloc (.cells #[] 42)).drew) := emptyRow (by have h := World.alloc_heap_new (wA.alloc (.cells #[.int .i64 gg.kind, .int .i64 gg.tx, .int .i64 gg.ty, .int .i64 gg.ax, .int .i64 gg.ay, .int .i64 gg.cx, .int .i64 gg.cy, .int .i64 gg.rx, .int .i64 gg.ry, .int .i64 gg.turn, .bool gg.lg, .bool gg.sw] 42)) (.cells #[] 42); rw [sG] at h; exact h) (by omega)
                  have S2 : Hid (BoxS (wA.heap.size + 1) gg ((wA.alloc (.cells #[] 42)).alloc (.cells #[.int .i64 gg.kind, .int .i64 gg.tx, .int .i64 gg.ty, .int .i64 gg.ax, .int .i64 gg.ay, .int .i64 gg.cx, .int .i64 gg.cy, .int .i64 gg.rx, .int .i64 gg.ry, .int .i64 gg.turn, .bool gg.lg, .bool gg.sw] 42)).drew) := by have h := World.alloc_heap_new (wA.alloc (.cells #[] 42)) (.cells #[.int .i64 gg.kind, .int .i64 gg.tx, .int .i64 gg.ty, .int .i64 gg.ax, .int .i64 gg.ay, .int .i64 gg.cx, .int .i64 gg.cy, .int .i64 gg.rx, .int .i64 gg.ry, .int .i64 gg.turn, .bool gg.lg, .bool gg.sw] 42); rw [sE] at h; exact h
                  have S1 : Hid (BoxS wA.heap.size gg ((wA.alloc (.cells #[.int .i64 gg.kind, .int .i64 gg.tx, .int .i64 gg.ty, .int .i64 gg.ax, .int .i64 gg.ay, .int .i64 gg.cx, .int .i64 gg.cy, .int .i64 gg.rx, .int .i64 gg.ry, .int .i64 gg.turn, .bool gg.lg, .bool gg.sw] 42)).alloc (.cells #[] 42)).drew) := (a1'.block _ (by omega)).trans (World.alloc_heap_new wA _)
                  have K3 := Lib.hid (HKA.out.next t3)
                  have K2 := Lib.hid (HKA.out.next t2)
                  have K1 := Lib.hid (HKA.out.next t1)
                  have X3 := Lib.hid (HXA.out.next t3)
                  have X2 := Lib.hid (HXA.out.next t2)
                  have X1 := Lib.hid (HXA.out.next t1)
                  have B3 := Lib.hid (HBA.out.trans (t3.mono hRA))
                  have B2 := Lib.hid (HBA.out.trans (t2.mono hRA))
                  have B1 := Lib.hid (HBA.out.trans (t1.mono hRA))
                  have hKp : 0 < out.length := List.length_pos_iff.2 hKne
                  have q3 := t3.size
                  have q2 := t2.size
                  have q1 := t1.size
                  clear a1 a1' a2 a3 t1 t2 t3
                  go_region_held3 (fun w' => w'.cell? ⟨X, 0, none⟩ = some (.int .i64 gg.kind) ∧ w'.cell? ⟨X, 1, none⟩ = some (.int .i64 gg.tx) ∧ w'.cell? ⟨X, 2, none⟩ = some (.int .i64 gg.ty) ∧ w'.cell? ⟨X, 3, none⟩ = some (.int .i64 gg.ax) ∧ w'.cell? ⟨X, 4, none⟩ = some (.int .i64 gg.ay) ∧ w'.cell? ⟨X, 5, none⟩ = some (.int .i64 gg.cx) ∧ w'.cell? ⟨X, 6, none⟩ = some (.int .i64 gg.cy) ∧ w'.cell? ⟨X, 7, none⟩ = some (.int .i64 gg.rx) ∧ w'.cell? ⟨X, 8, none⟩ = some (.int .i64 gg.ry) ∧ w'.cell? ⟨X, 9, none⟩ = some (.int .i64 gg.turn) ∧ w'.cell? ⟨X, 10, none⟩ = some (.bool gg.lg) ∧ w'.cell? ⟨X, 11, none⟩ = some (.bool gg.sw)) (first | (simp [go_sem, *]; done) | (exact ⟨by assumption, by assumption, by assumption, by assumption, by assumption, by assumption, by assumption, by assumption, by assumption, by assumption, by assumption, by assumption⟩))
                    (first
                      | (refine step_segs0 (by rfl) (.tmp 80) (.tmp 81) (by rfl) E3.out (by rfl) K3.out (by rfl) hKp hKl B3.out.size _ rfl ?_; intro d1 e1 f1 h1 i1 j1 l1; have hXd : X ≠ d1 := xd_ne j1 (by omega) (by have := q3; omega); have XF0 := (X3.out.grown i1 (by show some X ≠ some (wA.heap.size); simp; omega)); have BF0 := B3.out.trans (grown_below7 E3.out B3.out.size i1); have hR1 := Nat.le_trans B3.out.size i1.size; have gA := (Below.refl f1.heap.size f1).alloc (Nat.le_refl _) (.cells #[.int .i64 gg.kind, .int .i64 gg.tx, .int .i64 gg.ty, .int .i64 gg.ax, .int .i64 gg.ay, .int .i64 gg.cx, .int .i64 gg.cy, .int .i64 gg.rx, .int .i64 gg.ry, .int .i64 gg.turn, .bool gg.lg, .bool gg.sw] 42); have R1 := Lib.hid (h1.next gA); have N1 : Hid (BoxS f1.heap.size gg (f1.alloc (.cells #[.int .i64 gg.kind, .int .i64 gg.tx, .int .i64 gg.ty, .int .i64 gg.ax, .int .i64 gg.ay, .int .i64 gg.cx, .int .i64 gg.cy, .int .i64 gg.rx, .int .i64 gg.ry, .int .i64 gg.turn, .bool gg.lg, .bool gg.sw] 42))) := World.alloc_heap_new f1 _; have BF := Lib.hid (BF0.trans (gA.mono hR1)); have XF := Lib.hid (XF0.next gA); have hXf : X < f1.heap.size := XF0.lt; obtain ⟨x0, x1, x2, x3, x4, x5, x6, x7, x8, x9, x10, x11⟩ := SegAt.of_block XF0; simp only [Nat.zero_add] at x1 x2 x3 x4 x5 x6 x7 x8 x9 x10 x11; clear XF0 BF0)
                      | (refine step_segs0 (by rfl) (.tmp 80) (.tmp 81) (by rfl) E2.out (by rfl) K2.out (by rfl) hKp hKl B2.out.size _ rfl ?_; intro d1 e1 f1 h1 i1 j1 l1; have hXd : X ≠ d1 := xd_ne j1 (by omega) (by have := q2; omega); have XF0 := (X2.out.grown i1 (by show some X ≠ some (wA.heap.size); simp; omega)); have BF0 := B2.out.trans (grown_below7 E2.out B2.out.size i1); have hR1 := Nat.le_trans B2.out.size i1.size; have R1 := Lib.hid h1; have N1 := Lib.hid (S2.out.grown i1 (by show some _ ≠ some (wA.heap.size); simp)); have BF := Lib.hid BF0; have XF := Lib.hid XF0; have hXf : X < f1.heap.size := XF0.lt; obtain ⟨x0, x1, x2, x3, x4, x5, x6, x7, x8, x9, x10, x11⟩ := SegAt.of_block XF0; simp only [Nat.zero_add] at x1 x2 x3 x4 x5 x6 x7 x8 x9 x10 x11; clear XF0 BF0)
                      | (refine step_segs0 (by rfl) (.tmp 80) (.tmp 81) (by rfl) E1.out (by rfl) K1.out (by rfl) hKp hKl B1.out.size _ rfl ?_; intro d1 e1 f1 h1 i1 j1 l1; have hXd : X ≠ d1 := xd_ne j1 (by omega) (by have := q1; omega); have XF0 := (X1.out.grown i1 (by show some X ≠ some (wA.heap.size + 1); simp; omega)); have BF0 := B1.out.trans (grown_below7 E1.out B1.out.size i1); have hR1 := Nat.le_trans B1.out.size i1.size; have R1 := Lib.hid h1; have N1 := Lib.hid (S1.out.grown i1 (by show some _ ≠ some (wA.heap.size + 1); simp)); have BF := Lib.hid BF0; have XF := Lib.hid XF0; have hXf : X < f1.heap.size := XF0.lt; obtain ⟨x0, x1, x2, x3, x4, x5, x6, x7, x8, x9, x10, x11⟩ := SegAt.of_block XF0; simp only [Nat.zero_add] at x1 x2 x3 x4 x5 x6 x7 x8 x9 x10 x11; clear XF0 BF0)
                      | (refine step_seg (by rfl) (.tmp 82) (.tmp 84) (by rfl) gg R1.out (by rfl) N1.out (by rfl) hKl BF.out.size _ rfl ?_; intro d2 e2 f2 h2 i2 j2 l2; have R2 := Lib.hid h2; have BG := Lib.hid (BF.out.trans (grown_below7 R1.out BF.out.size i2)); have XG := XF.out.grown i2 (by show some X ≠ some d1; simp; exact hXd); obtain ⟨v0, v1, v2, v3, v4, v5, v6, v7, v8, v9, v10, v11⟩ := SegAt.of_block XG; simp only [Nat.zero_add] at v1 v2 v3 v4 v5 v6 v7 v8 v9 v10 v11))
                  all_goals
                    obtain ⟨_, m2, m3⟩ := IA.out f2 BG.out
                    have hbf : b < f2.heap.size := Nat.lt_of_lt_of_le hb BG.out.size
                    clear v0 v1 v2 v3 v4 v5 v6 v7 v8 v9 v10 v11 g0 g1 g2 g3 g4 g5 g6 g7 g8 g9 g10 g11 E1 E2 E3 S1 S2 K1 K2 K3 X1 X2 X3 B1 B2 B3 HXA HOA HKA HBA
                    go_wp2_with fail
                    refine (CA.out _).mono ?_
                    rintro e wc ⟨rfl, rfl⟩
                    go_wp2_with fail
                    go_roundw
                    case rel => exact ⟨i + 1, capL (ltr l i), out ++ [gg], (by first | rfl | (rw [h77]; rfl)), by go_num, by omega, by simp only [List.length_append, List.length_cons, List.length_nil]; omega, fun _ => by simp, R2.out, fun _ => by rw [last_snoc]; exact hgin, BG.out, HE3, fun h => absurd h (by omega)⟩
                    case measure => simp [intOf]; omega
                · rw [decide_eq_false c3]
                  have hE3 := HE2.out
                  rw [if_neg (fun h => c3 h.2.2)] at hE3
                  subst hE3
                  obtain ⟨a9, c9, e9, hr9, hc9⟩ := HOA.out.reads
                  cases e9
                  clear HE HE2
                  go_wp2_with fail
                  go_ret2
                  exact ⟨_, _, rfl, hr9, hc9, HBA.out⟩
              · rw [decide_eq_false c2]
                have hE3 := HE2.out
                rw [if_neg (fun h => c2 h.2.1)] at hE3
                subst hE3
                obtain ⟨a9, c9, e9, hr9, hc9⟩ := HO9.out.reads
                cases e9
                clear HE HE2
                go_wp2_with fail
                go_ret2
                exact ⟨_, _, rfl, hr9, hc9, HB9.out⟩
            · rw [decide_eq_false c1]
              have hE3 := HE2.out
              rw [if_neg (fun h => c1 h.1)] at hE3
              subst hE3
              obtain ⟨a9, c9, e9, hr9, hc9⟩ := HO8.out.reads
              cases e9
              clear HE HE2
              go_wp2_with fail
              go_ret2
              exact ⟨_, _, rfl, hr9, hc9, HB8.out⟩
          next =>
            have nO : some W5.heap.size ≠ (Value.slice (some ⟨bo, fo, none⟩) out.length co).ownBlock := fun e => by have := (own_type HO5.out _ e.symm).1; omega
            have nK : some W5.heap.size ≠ (Value.slice (some ⟨bo, fo, none⟩) out.length co).ownBlock := fun e => by have := (own_type HK5.out _ e.symm).1; omega
            have HX7 := Lib.hid (HX6.out.put gg)
            have HO7 := Lib.hid (HO6.out.put nO gg)
            have HK7 := Lib.hid (HK6.out.put nK gg)
            have HB7 := Lib.hid (below_put HB6.out HB5.out.size gg)
            unfold put12 at HX7 HO7 HK7 HB7
            generalize hX : W5.heap.size = X at *
            generalize hW7 : World.setCell _ _ _ = W7 at *
            clear hX hW7 p0 p1 q0 q1 q2 q3 r2' r3' ON HP6 HO6 HK6 HB6 HT6 HP5 HO5 HK5 HB5 HXz dw dz hP6 hb6 HX6 nO nK z0 z1 z2 z3 z4 z5 z6 z7 z8 z9 z10 z11 zz0 zz1 zz2 zz3 zz4 zz5 zz6 zz7 zz8 zz9 zz10 zz11 nXb nbX nXP nPX
            have N1 := Lib.hid (fun w => rin_any gg.tx gg.ty w)
            have N2 := Lib.hid (fun w => rin_any gg.ax gg.ay w)
            have N3 := Lib.hid (fun w => rin_any gg.cx gg.cy w)
            obtain ⟨_, y1, y2, y3, y4, y5, y6, _⟩ := SegAt.of_block HX7.out
            simp only [Nat.zero_add] at y1 y2 y3 y4 y5 y6
            go_wp2_with fail
            refine (N1.out _).mono ?_
            rintro e w8 ⟨rfl, b8⟩
            have HX8 := Lib.hid (HX7.out.next b8)
            have HO8 := Lib.hid (HO7.out.next b8)
            have HK8 := Lib.hid (HK7.out.next b8)
            have HB8 := Lib.hid (HB7.out.trans (b8.mono HB7.out.size))
            clear b8 y1 y2 y3 y4 y5 y6 HX7 HO7 HK7 HB7 N1
            obtain ⟨_, y1, y2, y3, y4, y5, y6, _⟩ := SegAt.of_block HX8.out
            simp only [Nat.zero_add] at y1 y2 y3 y4 y5 y6
            by_cases c1 : In32 gg.tx ∧ In32 gg.ty
            · rw [decide_eq_true c1]
              go_wp2_with fail
              refine (N2.out _).mono ?_
              rintro e w9 ⟨rfl, b9⟩
              have HX9 := Lib.hid (HX8.out.next b9)
              have HO9 := Lib.hid (HO8.out.next b9)
              have HK9 := Lib.hid (HK8.out.next b9)
              have HB9 := Lib.hid (HB8.out.trans (b9.mono HB8.out.size))
              clear b9 y1 y2 y3 y4 y5 y6 HX8 HO8 HK8 HB8 N2
              obtain ⟨_, y1, y2, y3, y4, y5, y6, _⟩ := SegAt.of_block HX9.out
              simp only [Nat.zero_add] at y1 y2 y3 y4 y5 y6
              by_cases c2 : In32 gg.ax ∧ In32 gg.ay
              · rw [decide_eq_true c2]
                go_wp2_with fail
                refine (N3.out _).mono ?_
                rintro e wA ⟨rfl, bA⟩
                have HXA := Lib.hid (HX9.out.next bA)
                have HOA := Lib.hid (HO9.out.next bA)
                have HKA := Lib.hid (HK9.out.next bA)
                have HBA := Lib.hid (HB9.out.trans (bA.mono HB9.out.size))
                clear bA y1 y2 y3 y4 y5 y6 HX9 HO9 HK9 HB9 N3
                by_cases c3 : In32 gg.cx ∧ In32 gg.cy
                · rw [decide_eq_true c3]
                  have hE3 := HE2.out
                  rw [if_pos ⟨c1, c2, c3⟩] at hE3
                  have HE3 := Lib.hid hE3
                  have hgin := HIN.out.2 ⟨c1, c2, c3⟩
                  clear hE3 HE2 HE
                  go_upto_region 17 with fail
                  have hXs := HXA.out.lt
                  obtain ⟨g0, g1, g2, g3, g4, g5, g6, g7, g8, g9, g10, g11⟩ := SegAt.of_block HXA.out
                  simp only [Nat.zero_add] at g1 g2 g3 g4 g5 g6 g7 g8 g9 g10 g11
                  have hRA : w.heap.size ≤ wA.heap.size := HBA.out.size
                  have sE : (wA.alloc (.cells #[] 42)).heap.size = wA.heap.size + 1 := by simp
                  have sG : (wA.alloc (.cells #[.int .i64 gg.kind, .int .i64 gg.tx, .int .i64 gg.ty, .int .i64 gg.ax, .int .i64 gg.ay, .int .i64 gg.cx, .int .i64 gg.cy, .int .i64 gg.rx, .int .i64 gg.ry, .int .i64 gg.turn, .bool gg.lg, .bool gg.sw] 42)).heap.size = wA.heap.size + 1 := by simp
                  have a3 := (Below.refl wA.heap.size wA).alloc (Nat.le_refl _) (.cells #[] 42)
                  have t3 : Below wA.heap.size wA (wA.alloc (.cells #[] 42)).drew := a3.drew
                  have a2 := (Below.refl (wA.alloc (.cells #[] 42)).heap.size _).alloc (Nat.le_refl _) (.cells #[.int .i64 gg.kind, .int .i64 gg.tx, .int .i64 gg.ty, .int .i64 gg.ax, .int .i64 gg.ay, .int .i64 gg.cx, .int .i64 gg.cy, .int .i64 gg.rx, .int .i64 gg.ry, .int .i64 gg.turn, .bool gg.lg, .bool gg.sw] 42)
                  have t2 : Below wA.heap.size wA ((wA.alloc (.cells #[] 42)).alloc (.cells #[.int .i64 gg.kind, .int .i64 gg.tx, .int .i64 gg.ty, .int .i64 gg.ax, .int .i64 gg.ay, .int .i64 gg.cx, .int .i64 gg.cy, .int .i64 gg.rx, .int .i64 gg.ry, .int .i64 gg.turn, .bool gg.lg, .bool gg.sw] 42)).drew := (a3.trans (a2.mono a3.size)).drew
                  have a1 := (Below.refl wA.heap.size wA).alloc (Nat.le_refl _) (.cells #[.int .i64 gg.kind, .int .i64 gg.tx, .int .i64 gg.ty, .int .i64 gg.ax, .int .i64 gg.ay, .int .i64 gg.cx, .int .i64 gg.cy, .int .i64 gg.rx, .int .i64 gg.ry, .int .i64 gg.turn, .bool gg.lg, .bool gg.sw] 42)
                  have a1' := (Below.refl (wA.alloc (.cells #[.int .i64 gg.kind, .int .i64 gg.tx, .int .i64 gg.ty, .int .i64 gg.ax, .int .i64 gg.ay, .int .i64 gg.cx, .int .i64 gg.cy, .int .i64 gg.rx, .int .i64 gg.ry, .int .i64 gg.turn, .bool gg.lg, .bool gg.sw] 42)).heap.size _).alloc (Nat.le_refl _) (.cells #[] 42)
                  have t1 : Below wA.heap.size wA ((wA.alloc (.cells #[.int .i64 gg.kind, .int .i64 gg.tx, .int .i64 gg.ty, .int .i64 gg.ax, .int .i64 gg.ay, .int .i64 gg.cx, .int .i64 gg.cy, .int .i64 gg.rx, .int .i64 gg.ry, .int .i64 gg.turn, .bool gg.lg, .bool gg.sw] 42)).alloc (.cells #[] 42)).drew := (a1.trans (a1'.mono a1.size)).drew
                  have E3 : Hid (Segs w.heap.size (.slice (some ⟨wA.heap.size, 0, none⟩) 0 0) [] (wA.alloc (.cells #[] 42)).drew) := emptyRow (World.alloc_heap_new wA _) hRA
                  have E2 : Hid (Segs w.heap.size (.slice (some ⟨wA.heap.size, 0, none⟩) 0 0) [] ((wA.alloc (.cells #[] 42)).alloc (.cells #[.int .i64 gg.kind, .int .i64 gg.tx, .int .i64 gg.ty, .int .i64 gg.ax, .int .i64 gg.ay, .int .i64 gg.cx, .int .i64 gg.cy, .int .i64 gg.rx, .int .i64 gg.ry, .int .i64 gg.turn, .bool gg.lg, .bool gg.sw] 42)).drew) := emptyRow ((a2.block _ (by omega)).trans (World.alloc_heap_new wA _)) hRA
                  have E1 : Hid (Segs w.heap.size (.slice (some ⟨wA.heap.size + 1, 0, none⟩) 0 0) [] ((wA.alloc (.cells #[.int .i64 gg.kind, .int .i64 gg.tx, .int .i64 gg.ty, .int .i64 gg.ax, .int .i64 gg.ay, .int .i64 gg.cx, .int .i64 gg.cy, .int .i64 gg.rx, .int .i64 gg.ry, .int .i64 gg.turn, .bool gg.lg, .bool gg.sw] 42)).alloc (.cells #[] 42)).drew) := emptyRow (by have h := World.alloc_heap_new (wA.alloc (.cells #[.int .i64 gg.kind, .int .i64 gg.tx, .int .i64 gg.ty, .int .i64 gg.ax, .int .i64 gg.ay, .int .i64 gg.cx, .int .i64 gg.cy, .int .i64 gg.rx, .int .i64 gg.ry, .int .i64 gg.turn, .bool gg.lg, .bool gg.sw] 42)) (.cells #[] 42); rw [sG] at h; exact h) (by omega)
                  have S2 : Hid (BoxS (wA.heap.size + 1) gg ((wA.alloc (.cells #[] 42)).alloc (.cells #[.int .i64 gg.kind, .int .i64 gg.tx, .int .i64 gg.ty, .int .i64 gg.ax, .int .i64 gg.ay, .int .i64 gg.cx, .int .i64 gg.cy, .int .i64 gg.rx, .int .i64 gg.ry, .int .i64 gg.turn, .bool gg.lg, .bool gg.sw] 42)).drew) := by have h := World.alloc_heap_new (wA.alloc (.cells #[] 42)) (.cells #[.int .i64 gg.kind, .int .i64 gg.tx, .int .i64 gg.ty, .int .i64 gg.ax, .int .i64 gg.ay, .int .i64 gg.cx, .int .i64 gg.cy, .int .i64 gg.rx, .int .i64 gg.ry, .int .i64 gg.turn, .bool gg.lg, .bool gg.sw] 42); rw [sE] at h; exact h
                  have S1 : Hid (BoxS wA.heap.size gg ((wA.alloc (.cells #[.int .i64 gg.kind, .int .i64 gg.tx, .int .i64 gg.ty, .int .i64 gg.ax, .int .i64 gg.ay, .int .i64 gg.cx, .int .i64 gg.cy, .int .i64 gg.rx, .int .i64 gg.ry, .int .i64 gg.turn, .bool gg.lg, .bool gg.sw] 42)).alloc (.cells #[] 42)).drew) := (a1'.block _ (by omega)).trans (World.alloc_heap_new wA _)
                  have K3 := Lib.hid (HKA.out.next t3)
                  have K2 := Lib.hid (HKA.out.next t2)
                  have K1 := Lib.hid (HKA.out.next t1)
                  have X3 := Lib.hid (HXA.out.next t3)
                  have X2 := Lib.hid (HXA.out.next t2)
                  have X1 := Lib.hid (HXA.out.next t1)
                  have B3 := Lib.hid (HBA.out.trans (t3.mono hRA))
                  have B2 := Lib.hid (HBA.out.trans (t2.mono hRA))
                  have B1 := Lib.hid (HBA.out.trans (t1.mono hRA))
                  have hKp : 0 < out.length := List.length_pos_iff.2 hKne
                  have q3 := t3.size
                  have q2 := t2.size
                  have q1 := t1.size
                  clear a1 a1' a2 a3 t1 t2 t3
                  go_region_held3 (fun w' => w'.cell? ⟨X, 0, none⟩ = some (.int .i64 gg.kind) ∧ w'.cell? ⟨X, 1, none⟩ = some (.int .i64 gg.tx) ∧ w'.cell? ⟨X, 2, none⟩ = some (.int .i64 gg.ty) ∧ w'.cell? ⟨X, 3, none⟩ = some (.int .i64 gg.ax) ∧ w'.cell? ⟨X, 4, none⟩ = some (.int .i64 gg.ay) ∧ w'.cell? ⟨X, 5, none⟩ = some (.int .i64 gg.cx) ∧ w'.cell? ⟨X, 6, none⟩ = some (.int .i64 gg.cy) ∧ w'.cell? ⟨X, 7, none⟩ = some (.int .i64 gg.rx) ∧ w'.cell? ⟨X, 8, none⟩ = some (.int .i64 gg.ry) ∧ w'.cell? ⟨X, 9, none⟩ = some (.int .i64 gg.turn) ∧ w'.cell? ⟨X, 10, none⟩ = some (.bool gg.lg) ∧ w'.cell? ⟨X, 11, none⟩ = some (.bool gg.sw)) (first | (simp [go_sem, *]; done) | (exact ⟨by assumption, by assumption, by assumption, by assumption, by assumption, by assumption, by assumption, by assumption, by assumption, by assumption, by assumption, by assumption⟩))
                    (first
                      | (refine step_segs0 (by rfl) (.tmp 80) (.tmp 81) (by rfl) E3.out (by rfl) K3.out (by rfl) hKp hKl B3.out.size _ rfl ?_; intro d1 e1 f1 h1 i1 j1 l1; have hXd : X ≠ d1 := xd_ne j1 (by omega) (by have := q3; omega); have XF0 := (X3.out.grown i1 (by show some X ≠ some (wA.heap.size); simp; omega)); have BF0 := B3.out.trans (grown_below7 E3.out B3.out.size i1); have hR1 := Nat.le_trans B3.out.size i1.size; have gA := (Below.refl f1.heap.size f1).alloc (Nat.le_refl _) (.cells #[.int .i64 gg.kind, .int .i64 gg.tx, .int .i64 gg.ty, .int .i64 gg.ax, .int .i64 gg.ay, .int .i64 gg.cx, .int .i64 gg.cy, .int .i64 gg.rx, .int .i64 gg.ry, .int .i64 gg.turn, .bool gg.lg, .bool gg.sw] 42); have R1 := Lib.hid (h1.next gA); have N1 : Hid (BoxS f1.heap.size gg (f1.alloc (.cells #[.int .i64 gg.kind, .int .i64 gg.tx, .int .i64 gg.ty, .int .i64 gg.ax, .int .i64 gg.ay, .int .i64 gg.cx, .int .i64 gg.cy, .int .i64 gg.rx, .int .i64 gg.ry, .int .i64 gg.turn, .bool gg.lg, .bool gg.sw] 42))) := World.alloc_heap_new f1 _; have BF := Lib.hid (BF0.trans (gA.mono hR1)); have XF := Lib.hid (XF0.next gA); have hXf : X < f1.heap.size := XF0.lt; obtain ⟨x0, x1, x2, x3, x4, x5, x6, x7, x8, x9, x10, x11⟩ := SegAt.of_block XF0; simp only [Nat.zero_add] at x1 x2 x3 x4 x5 x6 x7 x8 x9 x10 x11; clear XF0 BF0)
                      | (refine step_segs0 (by rfl) (.tmp 80) (.tmp 81) (by rfl) E2.out (by rfl) K2.out (by rfl) hKp hKl B2.out.size _ rfl ?_; intro d1 e1 f1 h1 i1 j1 l1; have hXd : X ≠ d1 := xd_ne j1 (by omega) (by have := q2; omega); have XF0 := (X2.out.grown i1 (by show some X ≠ some (wA.heap.size); simp; omega)); have BF0 := B2.out.trans (grown_below7 E2.out B2.out.size i1); have hR1 := Nat.le_trans B2.out.size i1.size; have R1 := Lib.hid h1; have N1 := Lib.hid (S2.out.grown i1 (by show some _ ≠ some (wA.heap.size); simp)); have BF := Lib.hid BF0; have XF := Lib.hid XF0; have hXf : X < f1.heap.size := XF0.lt; obtain ⟨x0, x1, x2, x3, x4, x5, x6, x7, x8, x9, x10, x11⟩ := SegAt.of_block XF0; simp only [Nat.zero_add] at x1 x2 x3 x4 x5 x6 x7 x8 x9 x10 x11; clear XF0 BF0)
                      | (refine step_segs0 (by rfl) (.tmp 80) (.tmp 81) (by rfl) E1.out (by rfl) K1.out (by rfl) hKp hKl B1.out.size _ rfl ?_; intro d1 e1 f1 h1 i1 j1 l1; have hXd : X ≠ d1 := xd_ne j1 (by omega) (by have := q1; omega); have XF0 := (X1.out.grown i1 (by show some X ≠ some (wA.heap.size + 1); simp; omega)); have BF0 := B1.out.trans (grown_below7 E1.out B1.out.size i1); have hR1 := Nat.le_trans B1.out.size i1.size; have R1 := Lib.hid h1; have N1 := Lib.hid (S1.out.grown i1 (by show some _ ≠ some (wA.heap.size + 1); simp)); have BF := Lib.hid BF0; have XF := Lib.hid XF0; have hXf : X < f1.heap.size := XF0.lt; obtain ⟨x0, x1, x2, x3, x4, x5, x6, x7, x8, x9, x10, x11⟩ := SegAt.of_block XF0; simp only [Nat.zero_add] at x1 x2 x3 x4 x5 x6 x7 x8 x9 x10 x11; clear XF0 BF0)
                      | (refine step_seg (by rfl) (.tmp 82) (.tmp 84) (by rfl) gg R1.out (by rfl) N1.out (by rfl) hKl BF.out.size _ rfl ?_; intro d2 e2 f2 h2 i2 j2 l2; have R2 := Lib.hid h2; have BG := Lib.hid (BF.out.trans (grown_below7 R1.out BF.out.size i2)); have XG := XF.out.grown i2 (by show some X ≠ some d1; simp; exact hXd); obtain ⟨v0, v1, v2, v3, v4, v5, v6, v7, v8, v9, v10, v11⟩ := SegAt.of_block XG; simp only [Nat.zero_add] at v1 v2 v3 v4 v5 v6 v7 v8 v9 v10 v11))
                  all_goals
                    obtain ⟨_, m2, m3⟩ := IA.out f2 BG.out
                    have hbf : b < f2.heap.size := Nat.lt_of_lt_of_le hb BG.out.size
                    clear v0 v1 v2 v3 v4 v5 v6 v7 v8 v9 v10 v11 g0 g1 g2 g3 g4 g5 g6 g7 g8 g9 g10 g11 E1 E2 E3 S1 S2 K1 K2 K3 X1 X2 X3 B1 B2 B3 HXA HOA HKA HBA
                    go_wp2_with fail
                    refine (CA.out _).mono ?_
                    rintro e wc ⟨rfl, rfl⟩
                    go_wp2_with fail
                    go_roundw
                    case rel => exact ⟨i + 1, capL (ltr l i), out ++ [gg], (by first | rfl | (rw [h77]; rfl)), by go_num, by omega, by simp only [List.length_append, List.length_cons, List.length_nil]; omega, fun _ => by simp, R2.out, fun _ => by rw [last_snoc]; exact hgin, BG.out, HE3, fun h => absurd h (by omega)⟩
                    case measure => simp [intOf]; omega
                · rw [decide_eq_false c3]
                  have hE3 := HE2.out
                  rw [if_neg (fun h => c3 h.2.2)] at hE3
                  subst hE3
                  obtain ⟨a9, c9, e9, hr9, hc9⟩ := HOA.out.reads
                  cases e9
                  clear HE HE2
                  go_wp2_with fail
                  go_ret2
                  exact ⟨_, _, rfl, hr9, hc9, HBA.out⟩
              · rw [decide_eq_false c2]
                have hE3 := HE2.out
                rw [if_neg (fun h => c2 h.2.1)] at hE3
                subst hE3
                obtain ⟨a9, c9, e9, hr9, hc9⟩ := HO9.out.reads
                cases e9
                clear HE HE2
                go_wp2_with fail
                go_ret2
                exact ⟨_, _, rfl, hr9, hc9, HB9.out⟩
            · rw [decide_eq_false c1]
              have hE3 := HE2.out
              rw [if_neg (fun h => c1 h.1)] at hE3
              subst hE3
              obtain ⟨a9, c9, e9, hr9, hc9⟩ := HO8.out.reads
              cases e9
              clear HE HE2
              go_wp2_with fail
              go_ret2
              exact ⟨_, _, rfl, hr9, hc9, HB8.out⟩
    · have hil : i = l.length := by omega
      have hE' := hE.out
      rw [hil, List.drop_length] at hE'
      unfold walkR at hE'
      subst hE'
      have hnl : ¬ (i : Int) < (l.length : Int) := by omega
      clear hE
      go_wp2_with fail
      go_ret2
      exact ⟨_, _, rfl, hrd, hco, hbel⟩
end Go.Proofs.YtgiibcnakiggaaaGreatDoor
