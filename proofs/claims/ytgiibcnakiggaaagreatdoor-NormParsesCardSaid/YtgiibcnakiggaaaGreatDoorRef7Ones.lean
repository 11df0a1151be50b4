/-
  The document's segment of any one command.
-/
import Derived.Test.YtgiibcnakiggaaaGreatDoorRef7OneB
import Derived.Test.YtgiibcnakiggaaaGreatDoorRef7OneC
import Derived.Test.YtgiibcnakiggaaaGreatDoorRef7OneD
import Derived.Test.YtgiibcnakiggaaaGreatDoorRef7OneE
namespace Go.Proofs.YtgiibcnakiggaaaGreatDoor
open Go.RowKit Go.Shelf

theorem rone7_any (c : Nat) (aa : Option Addr) (ac : Nat) (zs : List Int) (px py : Int) (a : Option Addr) (l : List Seg) (cap was : Nat) (w : World) (hw : CmdW ⟨c, zs⟩) (hI : IntsK .i64 aa zs w) (hA : RdS a l w) (hl : l.length ≤ 100000000) (hp : In32 px ∧ In32 py) (hlast : l ≠ [] → inB (l.getLastD zeroS)) (h0 : l = [] → capL c = 77) :
    Calls Tryz.prog 37 #[.agg #[.int .u8 (c : Int), .slice aa zs.length ac], .agg #[.int .i64 px, .int .i64 py], .slice a l.length cap, .int .u8 (was : Int)] w fun e w' => e = .returned (oneS ⟨c, zs⟩ (px, py) l was).val ∧ Below w.heap.size w w' := by
  have h99 : cntL c ≠ 99 := hw.2.1
  have hin : ∀ i, In32 (nA zs i) := hw.at
  obtain ⟨ten, hcnt⟩ := cap_ten h99
  have hlen : cntL (capL c) = zs.length := hcnt.trans hw.1
  have main : ∀ n, zs.length = n → Calls Tryz.prog 37 #[.agg #[.int .u8 (c : Int), .slice aa n ac], .agg #[.int .i64 px, .int .i64 py], .slice a l.length cap, .int .u8 (was : Int)] w fun e w' => e = .returned (oneS ⟨c, zs⟩ (px, py) l was).val ∧ Below w.heap.size w w' := by
    intro n hn
    by_cases he : l = []
    · have h77 := h0 he
      rw [h77] at hlen
      obtain rfl : n = 2 := by rw [← hn, ← hlen]; rfl
      by_cases h97 : 97 ≤ c
      · exact one_Mse c aa ac zs px py a l cap was w h99 hn hin hI hA hl h77 h97 hp he
      · exact one_Mbe c aa ac zs px py a l cap was w h99 hn hin hI hA hl h77 h97 hp he
    · have hb := hlast he
      rcases ten with h | h | h | h | h | h | h | h | h | h <;> rw [h] at hlen
      · obtain rfl : n = 2 := by rw [← hn, ← hlen]; rfl
        by_cases h97 : 97 ≤ c
        · exact one_Ms c aa ac zs px py a l cap was w h99 hn hin hI hA hl h h97 hp he hb
        · exact one_Mb c aa ac zs px py a l cap was w h99 hn hin hI hA hl h h97 hp he hb
      · obtain rfl : n = 2 := by rw [← hn, ← hlen]; rfl
        by_cases h97 : 97 ≤ c
        · exact one_Ls c aa ac zs px py a l cap was w h99 hn hin hI hA hl h h97 hp he hb
        · exact one_Lb c aa ac zs px py a l cap was w h99 hn hin hI hA hl h h97 hp he hb
      · obtain rfl : n = 1 := by rw [← hn, ← hlen]; rfl
        by_cases h97 : 97 ≤ c
        · exact one_Hs c aa ac zs px py a l cap was w h99 hn hin hI hA hl h h97 hp he hb
        · exact one_Hb c aa ac zs px py a l cap was w h99 hn hin hI hA hl h h97 hp he hb
      · obtain rfl : n = 1 := by rw [← hn, ← hlen]; rfl
        by_cases h97 : 97 ≤ c
        · exact one_Vs c aa ac zs px py a l cap was w h99 hn hin hI hA hl h h97 hp he hb
        · exact one_Vb c aa ac zs px py a l cap was w h99 hn hin hI hA hl h h97 hp he hb
      · obtain rfl : n = 6 := by rw [← hn, ← hlen]; rfl
        by_cases h97 : 97 ≤ c
        · exact one_Cs c aa ac zs px py a l cap was w h99 hn hin hI hA hl h h97 hp he hb
        · exact one_Cb c aa ac zs px py a l cap was w h99 hn hin hI hA hl h h97 hp he hb
      · obtain rfl : n = 4 := by rw [← hn, ← hlen]; rfl
        by_cases h97 : 97 ≤ c
        · by_cases w1 : was = 67
          · exact one_Ssc c aa ac zs px py a l cap was w h99 hn hin hI hA hl h h97 hp he hb w1
          · by_cases w2 : was = 83
            · exact one_Sss c aa ac zs px py a l cap was w h99 hn hin hI hA hl h h97 hp he hb w2
            · exact one_Sso c aa ac zs px py a l cap was w h99 hn hin hI hA hl h h97 hp he hb (fun k => k.elim w1 w2)
        · by_cases w1 : was = 67
          · exact one_Sbc c aa ac zs px py a l cap was w h99 hn hin hI hA hl h h97 hp he hb w1
          · by_cases w2 : was = 83
            · exact one_Sbs c aa ac zs px py a l cap was w h99 hn hin hI hA hl h h97 hp he hb w2
            · exact one_Sbo c aa ac zs px py a l cap was w h99 hn hin hI hA hl h h97 hp he hb (fun k => k.elim w1 w2)
      · obtain rfl : n = 4 := by rw [← hn, ← hlen]; rfl
        by_cases h97 : 97 ≤ c
        · exact one_Qs c aa ac zs px py a l cap was w h99 hn hin hI hA hl h h97 hp he hb
        · exact one_Qb c aa ac zs px py a l cap was w h99 hn hin hI hA hl h h97 hp he hb
      · obtain rfl : n = 2 := by rw [← hn, ← hlen]; rfl
        by_cases h97 : 97 ≤ c
        · by_cases w1 : was = 81
          · exact one_Tsq c aa ac zs px py a l cap was w h99 hn hin hI hA hl h h97 hp he hb w1
          · by_cases w2 : was = 84
            · exact one_Tst c aa ac zs px py a l cap was w h99 hn hin hI hA hl h h97 hp he hb w2
            · exact one_Tso c aa ac zs px py a l cap was w h99 hn hin hI hA hl h h97 hp he hb (fun k => k.elim w1 w2)
        · by_cases w1 : was = 81
          · exact one_Tbq c aa ac zs px py a l cap was w h99 hn hin hI hA hl h h97 hp he hb w1
          · by_cases w2 : was = 84
            · exact one_Tbt c aa ac zs px py a l cap was w h99 hn hin hI hA hl h h97 hp he hb w2
            · exact one_Tbo c aa ac zs px py a l cap was w h99 hn hin hI hA hl h h97 hp he hb (fun k => k.elim w1 w2)
      · obtain rfl : n = 7 := by rw [← hn, ← hlen]; rfl
        by_cases h97 : 97 ≤ c
        · exact one_As c aa ac zs px py a l cap was w h99 hn hin hI hA hl h h97 hp he hb
        · exact one_Ab c aa ac zs px py a l cap was w h99 hn hin hI hA hl h h97 hp he hb
      · obtain rfl : n = 0 := by rw [← hn, ← hlen]; rfl
        by_cases h97 : 97 ≤ c
        · exact one_Zs c aa ac zs px py a l cap was w h99 hn hin hI hA hl h h97 hp he hb
        · exact one_Zb c aa ac zs px py a l cap was w h99 hn hin hI hA hl h h97 hp he hb
  exact main _ rfl
end Go.Proofs.YtgiibcnakiggaaaGreatDoor
