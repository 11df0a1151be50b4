/-
  The contract of package norm's Parse; the document's Same of segments.
-/
import Derived.Test.YtgiibcnakiggaaaDoorNormPath
namespace Go.Proofs.YtgiibcnakiggaaaDoor
open Go.RowKit Go.Shelf

theorem Cmds.room {R : Nat} {a : Option Addr} {n cap : Nat} {l : List Cmd} {W : World} (h : Cmds R (.slice a n cap) l W) : CapC a l W := by
  obtain ⟨avs, h1, h2, h3⟩ := h
  rintro b off rfl i hi aa m ac hc
  have hx := at_some l hi
  have ha : avs[i]? = some avs[i] := List.getElem?_eq_getElem (by omega)
  obtain ⟨_, e1⟩ := flatC_at l avs h1 i _ _ hx ha
  obtain ⟨o, _⟩ := h3 i _ _ hx ha
  have hcell := own_cell h2 e1
  rw [← Nat.add_assoc] at hcell
  rw [hcell] at hc
  obtain hc := Option.some.inj hc
  rw [hc] at o
  rcases o.2 with ⟨h0, hk⟩ | ⟨g, cap', cur, hv, _, _, h5, _⟩
  · cases h0; exact Nat.zero_le _
  · cases hv; exact h5
/-- What norm's Parse answers: by the commands, their place and their error. -/
noncomputable def parseS (s : ByteArray) : List Seg × Int × Int :=
  if 0 ≤ (bringL NS.zero (pathAll (txOf s)).1 0).2 then ((bringL NS.zero (pathAll (txOf s)).1 0).1, (bringL NS.zero (pathAll (txOf s)).1 0).2, 2) else ((bringL NS.zero (pathAll (txOf s)).1 0).1, (pathAll (txOf s)).2.1, (pathAll (txOf s)).2.2)
def SegPost (X : List Seg × Int × Int) (w : World) (e : Ending) (W' : World) : Prop :=
  ∃ a cap, e = .returned (.tuple #[.slice a X.1.length cap, .int .i64 X.2.1, .int .i64 X.2.2]) ∧ RdS a X.1 W' ∧ X.1.length ≤ cap ∧ Below w.heap.size w W'
set_option maxRecDepth 100000 in
theorem NParse_any (s : ByteArray) (w : World) (hs : s.size ≤ 900) (hn : (pathAll (txOf s)).1.length ≤ 1000) (T : PTabs w) : Calls Tryd.prog 23 #[.string s] w (SegPost (parseS s) w) := by
  have P := Lib.hid (fun w T => PParse_any s w (by omega) T)
  unfold PParsePost at P
  have HL := Lib.hid (all_len (txOf s))
  have HM := Lib.hid (all_may s (by omega))
  have HN := Lib.hid hn
  have HT := Lib.hid T
  unfold parseS
  clear T hn
  generalize pathAll (txOf s) = RES at *
  obtain ⟨l, z, er⟩ := RES
  obtain ⟨BR, hBR⟩ : ∃ B, bringL NS.zero l 0 = B := ⟨_, rfl⟩
  simp only [hBR]
  have HBR := Lib.hid hBR
  clear hBR
  obtain ⟨g, far⟩ := BR
  by_cases hf : 0 ≤ far
  · rw [if_pos hf]
    go_enter Tryd.func23, Tryd.ntmps23
    go_wp2_with fail
    refine (P.out _ HT.out).mono ?_
    rintro e w1 ⟨v, rfl, hc, b1⟩
    obtain ⟨a, cap, rfl, hr⟩ := hc.reads HL.out
    have BG := Lib.hid (bring_any a l cap w1 HN.out hr hc.room HM.out.1 HM.out.2)
    rw [HBR.out] at BG
    have B1 := Lib.hid b1
    clear hc hr b1 P HT HM HN HL
    go_wp2_with fail
    refine BG.out.mono ?_
    rintro e w2 ⟨a2, cap2, rfl, hrd, hcap, b2⟩
    have R2 := Lib.hid hrd
    have C2 := Lib.hid hcap
    have B2 := Lib.hid (B1.out.trans (b2.mono B1.out.size))
    clear hrd hcap b2 BG B1
    go_wp2_with fail
    go_ret3
    exact ⟨a2, cap2, rfl, R2.out, C2.out, B2.out⟩
  · rw [if_neg hf]
    go_enter Tryd.func23, Tryd.ntmps23
    go_wp2_with fail
    refine (P.out _ HT.out).mono ?_
    rintro e w1 ⟨v, rfl, hc, b1⟩
    obtain ⟨a, cap, rfl, hr⟩ := hc.reads HL.out
    have BG := Lib.hid (bring_any a l cap w1 HN.out hr hc.room HM.out.1 HM.out.2)
    rw [HBR.out] at BG
    have B1 := Lib.hid b1
    clear hc hr b1 P HT HM HN HL
    go_wp2_with fail
    refine BG.out.mono ?_
    rintro e w2 ⟨a2, cap2, rfl, hrd, hcap, b2⟩
    have R2 := Lib.hid hrd
    have C2 := Lib.hid hcap
    have B2 := Lib.hid (B1.out.trans (b2.mono B1.out.size))
    clear hrd hcap b2 BG B1
    go_wp2_with fail
    go_ret3
    exact ⟨a2, cap2, rfl, R2.out, C2.out, B2.out⟩
end Go.Proofs.YtgiibcnakiggaaaDoor
