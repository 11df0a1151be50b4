/-
  The contract of package norm's mirrored.
-/
import Derived.Test.YtgiibcnakiggaaaDoorNormAdd
namespace Go.Proofs.YtgiibcnakiggaaaDoor
open Go.RowKit Go.Shelf

theorem ptv_eq (x y : Int) : ptV x y = .agg #[.int .i64 x, .int .i64 y] := rfl
theorem below_two {w w' : World} {n : Nat} (h : Below w.heap.size w w') (hn : w.heap.size ≤ n) (x y : Value) : Below w.heap.size w ((w'.setCell ⟨n, 0, none⟩ x).setCell ⟨n, 1, none⟩ y) :=
  Below.setCell (Below.setCell h (by exact hn) _) (by exact hn) _
def MirPost (s : NS) (k : Int) (w : World) (e : Ending) (w' : World) : Prop := e = .returned (ptV (mirM s k).1 (mirM s k).2) ∧ Below w.heap.size w w'
set_option maxHeartbeats 4000000 in
set_option maxRecDepth 100000 in
theorem mir_other (q R : Nat) (v : Value) (s : NS) (k : Int) (w : World) (H : StAt q v s w) (hr : Segs R v s.out w) (hne : s.out ≠ []) (hl : s.out.length ≤ 100000000) (hk : (lastM s).kind ≠ k) :
    Calls Tryd.prog 81 #[.pointer (some ⟨q, 0, none⟩), .int .i64 k] w (MirPost s k w) := by
  have b0 := (Below.refl w.heap.size w).alloc (Nat.le_refl _) (.cells #[.int .i64 0, .int .i64 0] 41)
  have P := PtAt.new w 0 0
  have LA := Lib.hid (last_any7 q R v s _ (H.next b0) (hr.next b0) hne hl)
  have HS := Lib.hid (H.next b0)
  have HP := Lib.hid P
  have HB := Lib.hid b0
  have hm : mirM s k = (s.px, s.py) := by unfold mirM; rw [if_neg hk]
  have hkb : ((lastM s).kind != k) = true := by simp [bne_iff_ne, hk]
  have HM := Lib.hid hm
  generalize hg : lastM s = g at *
  clear b0 P H hr hm hk hg
  go_enter Tryd.func81, Tryd.ntmps81
  go_wp2_with fail
  generalize hW1 : w.alloc (.cells #[.int .i64 0, .int .i64 0] 41) = W1 at *
  refine LA.out.mono ?_
  rintro e W2 ⟨rfl, b2⟩
  have HS2 := Lib.hid (HS.out.next b2)
  have HP2 := Lib.hid (HP.out.next b2)
  have HB2 := Lib.hid (HB.out.trans (b2.mono HB.out.size))
  have c1 := HS2.out.c1
  have c2 := HS2.out.c2
  have hq2 := HS2.out.lt
  have p0 := HP2.out.c0
  have p1 := HP2.out.c1
  have z0 := HP2.out.z 0
  have z1 := HP2.out.z 1
  have hp2 := HP2.out.lt
  clear HS HP HB LA b2
  unfold Seg.val
  go_wp2_with fail
  have hs3 := below_two HB2.out (Nat.le_refl _) (.int .i64 s.px) (.int .i64 s.py)
  unfold MirPost
  rw [HM.out]
  exact pt_close Tryd.results81 ((HP2.out.set s.px s.py).next ((Below.refl _ _).alloc (Nat.le_refl _) _)) (hs3.alloc hs3.size _) rfl
set_option maxHeartbeats 4000000 in
set_option maxRecDepth 100000 in
theorem mir_three (q R : Nat) (v : Value) (s : NS) (w : World) (H : StAt q v s w) (hr : Segs R v s.out w) (hne : s.out ≠ []) (hl : s.out.length ≤ 100000000) (hk : (lastM s).kind = 3) (hx : In32 s.px) (hy : In32 s.py) (ha : In32 (lastM s).cx) (hb : In32 (lastM s).cy) :
    Calls Tryd.prog 81 #[.pointer (some ⟨q, 0, none⟩), .int .i64 3] w (MirPost s 3 w) := by
  have b0 := (Below.refl w.heap.size w).alloc (Nat.le_refl _) (.cells #[.int .i64 0, .int .i64 0] 41)
  have P := PtAt.new w 0 0
  have LA := Lib.hid (last_any7 q R v s _ (H.next b0) (hr.next b0) hne hl)
  have HS := Lib.hid (H.next b0)
  have HP := Lib.hid P
  have HB := Lib.hid b0
  have hm : mirM s 3 = (2 * s.px - (lastM s).cx, 2 * s.py - (lastM s).cy) := by unfold mirM; rw [if_pos hk, if_pos rfl]
  unfold In32 at hx hy ha hb
  have e1 : IntKind.i64.wrap (2 * s.px) = 2 * s.px := IntWalk.i64_in _ (by constructor <;> omega)
  have e2 : IntKind.i64.wrap (2 * s.py) = 2 * s.py := IntWalk.i64_in _ (by constructor <;> omega)
  have e3 : IntKind.i64.wrap (2 * s.px - (lastM s).cx) = 2 * s.px - (lastM s).cx := IntWalk.i64_in _ (by constructor <;> omega)
  have e4 : IntKind.i64.wrap (2 * s.py - (lastM s).cy) = 2 * s.py - (lastM s).cy := IntWalk.i64_in _ (by constructor <;> omega)
  have HM := Lib.hid hm
  generalize hg : lastM s = g at *
  clear b0 P H hr hm hg hx hy ha hb
  go_enter Tryd.func81, Tryd.ntmps81
  go_wp2_with fail
  generalize hW1 : w.alloc (.cells #[.int .i64 0, .int .i64 0] 41) = W1 at *
  refine LA.out.mono ?_
  rintro e W2 ⟨rfl, b2⟩
  have HS2 := Lib.hid (HS.out.next b2)
  have HP2 := Lib.hid (HP.out.next b2)
  have HB2 := Lib.hid (HB.out.trans (b2.mono HB.out.size))
  have c1 := HS2.out.c1
  have c2 := HS2.out.c2
  have hq2 := HS2.out.lt
  have p0 := HP2.out.c0
  have p1 := HP2.out.c1
  have z0 := HP2.out.z 0
  have z1 := HP2.out.z 1
  have hp2 := HP2.out.lt
  clear HS HP HB LA b2
  unfold Seg.val
  go_wp2_with fail
  go_region
  all_goals
    go_wp2_with fail
    have hs3 := below_two HB2.out (Nat.le_refl _) (.int .i64 (2 * s.px - g.cx)) (.int .i64 (2 * s.py - g.cy))
    unfold MirPost
    rw [HM.out]
    exact pt_close Tryd.results81 (((HP2.out.set _ _).next ((Below.refl _ _).alloc (Nat.le_refl _) _)).next ((Below.refl _ _).alloc (Nat.le_refl _) _).drew) ((hs3.alloc hs3.size _).alloc (hs3.alloc hs3.size _).size _).drew rfl
set_option maxHeartbeats 4000000 in
set_option maxRecDepth 100000 in
theorem mir_four (q R : Nat) (v : Value) (s : NS) (w : World) (H : StAt q v s w) (hr : Segs R v s.out w) (hne : s.out ≠ []) (hl : s.out.length ≤ 100000000) (hk : (lastM s).kind = 4) (hx : In32 s.px) (hy : In32 s.py) (ha : In32 (lastM s).ax) (hb : In32 (lastM s).ay) :
    Calls Tryd.prog 81 #[.pointer (some ⟨q, 0, none⟩), .int .i64 4] w (MirPost s 4 w) := by
  have b0 := (Below.refl w.heap.size w).alloc (Nat.le_refl _) (.cells #[.int .i64 0, .int .i64 0] 41)
  have P := PtAt.new w 0 0
  have LA := Lib.hid (last_any7 q R v s _ (H.next b0) (hr.next b0) hne hl)
  have HS := Lib.hid (H.next b0)
  have HP := Lib.hid P
  have HB := Lib.hid b0
  have hm : mirM s 4 = (2 * s.px - (lastM s).ax, 2 * s.py - (lastM s).ay) := by unfold mirM; rw [if_pos hk, if_neg (by decide)]
  unfold In32 at hx hy ha hb
  have e1 : IntKind.i64.wrap (2 * s.px) = 2 * s.px := IntWalk.i64_in _ (by constructor <;> omega)
  have e2 : IntKind.i64.wrap (2 * s.py) = 2 * s.py := IntWalk.i64_in _ (by constructor <;> omega)
  have e3 : IntKind.i64.wrap (2 * s.px - (lastM s).ax) = 2 * s.px - (lastM s).ax := IntWalk.i64_in _ (by constructor <;> omega)
  have e4 : IntKind.i64.wrap (2 * s.py - (lastM s).ay) = 2 * s.py - (lastM s).ay := IntWalk.i64_in _ (by constructor <;> omega)
  have HM := Lib.hid hm
  generalize hg : lastM s = g at *
  clear b0 P H hr hm hg hx hy ha hb
  go_enter Tryd.func81, Tryd.ntmps81
  go_wp2_with fail
  generalize hW1 : w.alloc (.cells #[.int .i64 0, .int .i64 0] 41) = W1 at *
  refine LA.out.mono ?_
  rintro e W2 ⟨rfl, b2⟩
  have HS2 := Lib.hid (HS.out.next b2)
  have HP2 := Lib.hid (HP.out.next b2)
  have HB2 := Lib.hid (HB.out.trans (b2.mono HB.out.size))
  have c1 := HS2.out.c1
  have c2 := HS2.out.c2
  have hq2 := HS2.out.lt
  have p0 := HP2.out.c0
  have p1 := HP2.out.c1
  have z0 := HP2.out.z 0
  have z1 := HP2.out.z 1
  have hp2 := HP2.out.lt
  clear HS HP HB LA b2
  unfold Seg.val
  go_wp2_with fail
  go_region
  all_goals
    go_wp2_with fail
    have hs3 := below_two HB2.out (Nat.le_refl _) (.int .i64 (2 * s.px - g.ax)) (.int .i64 (2 * s.py - g.ay))
    unfold MirPost
    rw [HM.out]
    exact pt_close Tryd.results81 (((HP2.out.set _ _).next ((Below.refl _ _).alloc (Nat.le_refl _) _)).next ((Below.refl _ _).alloc (Nat.le_refl _) _).drew) ((hs3.alloc hs3.size _).alloc (hs3.alloc hs3.size _).size _).drew rfl
end Go.Proofs.YtgiibcnakiggaaaDoor
