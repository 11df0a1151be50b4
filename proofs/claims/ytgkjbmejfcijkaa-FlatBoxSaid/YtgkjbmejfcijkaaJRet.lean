/-
  Joined texts: RowK, Within, PtMust, CrvRet.
-/
import Derived.Test.YtgkjbmejfcijkaaBase
import Derived.Test.YtgkjbmejfcijkaaJCv
import Derived.Defers
import Derived.Recover
import Derived.WalkLawsBesides
namespace Go.Proofs.Ytgkjbmejfcijkaa
open Go.ChangeShapes Go.WideShapes Go.ChangeAt Go.RowKit

/-- The live cells of a slice of numbers of the kind k. -/
def IntsK (k : IntKind) (a : Option Addr) (zs : List Int) (w : World) : Prop :=
  zs = [] ∨ ∃ b off : Nat, a = some ⟨b, off, none⟩ ∧ b < w.heap.size ∧ ∀ i, i < zs.length → w.cell? ⟨b, off + i, none⟩ = some (.int k (zs.getD i 0))
theorem IntsK.below {k : IntKind} {a : Option Addr} {zs : List Int} {w w' : World} (h : IntsK k a zs w) {B : Nat} (hb : Below B w w') (hB : w.heap.size ≤ B) : IntsK k a zs w' := by
  rcases h with h | ⟨b, off, ha, hlt, hc⟩
  · exact Or.inl h
  · refine Or.inr ⟨b, off, ha, Nat.lt_of_lt_of_le hlt hb.size, fun i hi => ?_⟩
    rw [hb.cell (p := ⟨b, off + i, none⟩) (Nat.lt_of_lt_of_le hlt hB)]
    exact hc i hi
theorem IntsK.pos {k : IntKind} {a : Option Addr} {zs : List Int} {w : World} (h : IntsK k a zs w) {j : Nat} (hk : j < zs.length) :
    ∃ b off : Nat, a = some ⟨b, off, none⟩ ∧ b < w.heap.size ∧ ∀ i, i < zs.length → w.cell? ⟨b, off + i, none⟩ = some (.int k (zs.getD i 0)) := by
  rcases h with h | h
  · subst h; simp at hk
  · exact h
/-- An argument of such a type, read as data: what a walk is told of it. -/
theorem intsK_of_trod {P : Program} {H : Type} {enc : TypeId × Value → H} {W : World} {base : Nat} {v : Value} {d : DataW H} {p : List MemPlace} {t e : TypeId} {k : IntKind} (ht : P.underlying t = some (.slice e)) (he : P.underlying e = some (.int k)) (hc : P.cellsOf e = 1)
    (hok : Value.okWide P W .any base t v) (h : DataW.Trod enc P W 0 (fun _ => true) true t v d p) :
    ∃ (a : Option Addr) (zs : List Int) (cap : Nat), v = .slice a zs.length cap ∧ zs.length ≤ maxLen ∧ IntsK k a zs W ∧ ∀ z ∈ zs, (Lit.int k z).wf = true := by
  obtain ⟨a0, len, cap, rfl⟩ := okWide_slice ht hok
  obtain ⟨fuel, hf⟩ := h
  rcases open_ints ht he hc hf with ⟨hcs, hx⟩ | ⟨a, len', cap', zs, hcs, _, hl, hm, hz, hx, hcell, hwz⟩
  · simp [Value.cells] at hcs
    obtain ⟨rfl, rfl, rfl⟩ := hcs
    exact ⟨none, [], 0, rfl, by simp, Or.inl rfl, fun z hz => by cases hz⟩
  · simp [Value.cells] at hcs
    obtain ⟨rfl, rfl, rfl⟩ := hcs
    simp only [if_true] at hz
    have hlen : (zs.take len).length = len := by rw [List.length_take]; omega
    refine ⟨some a, zs.take len, cap, by rw [hlen], by omega, ?_, fun z hz => hwz z (List.mem_of_mem_take hz)⟩
    by_cases h0 : len = 0
    · left; rw [h0]; simp
    · right
      obtain ⟨b, off, sp⟩ := a
      have c0 := hcell 0 (by omega)
      have hsp : sp = none := by
        cases sp with
        | none => rfl
        | some x =>
          exfalso
          simp only [World.cell?, Addr.add] at c0
          split at c0 <;> simp at c0
      subst hsp
      have hb : b < W.heap.size := by
        refine Nat.lt_of_not_le fun hge => ?_
        have : W.heap[b]? = none := by simp; omega
        simp [World.cell?, Addr.add, this] at c0
      refine ⟨b, off, rfl, hb, fun i hi => ?_⟩
      rw [hlen] at hi
      have := hcell i (by omega)
      rw [show (zs.take len).getD i 0 = zs.getD i 0 from by simp [hi]]
      by_cases hi0 : i = 0
      · subst hi0; simpa [Addr.add] using this
      · simpa [Addr.add, hi0] using this
theorem getD_mem {zs : List Int} {k : Nat} (hk : k < zs.length) : zs.getD k 0 ∈ zs := by
  simp [List.getD, List.getElem?_eq_getElem hk]
/-- A number of a kind without signs, of 8 bits. -/
theorem u8_of_wf {a : Int} (h : (Lit.int .u8 a).wf = true) : ∃ n : Nat, a = (n : Int) ∧ n < 256 := by
  simp [Lit.wf, IntKind.min, IntKind.max, IntKind.signed, IntKind.bits] at h
  exact ⟨a.toNat, by omega, by omega⟩
theorem i32_of_wf {a : Int} (h : (Lit.int .i32 a).wf = true) : -2147483648 ≤ a ∧ a ≤ 2147483647 := by
  simp [Lit.wf, IntKind.min, IntKind.max, IntKind.signed, IntKind.bits] at h
  omega
end Go.Proofs.Ytgkjbmejfcijkaa
namespace Go.Proofs.Ytgkjbmejfcijkaa
open Go.RowKit Go.Shelf

/-- Is it within the bound? -/
def wiB (bound n : Int) : Bool := decide (n < bound ∧ -bound < n)
theorem all_snoc (p : Int → Bool) (zs : List Int) (k : Nat) (hk : k < zs.length) : (zs.take (k + 1)).all p = ((zs.take k).all p && p (zs.getD k 0)) := by
  rw [List.take_succ_eq_append_getElem hk, List.all_append]
  simp [List.getD, List.getElem?_eq_getElem hk]

theorem all_false (p : Int → Bool) (zs : List Int) (k : Nat) (hk : k < zs.length) (h : p (zs.getD k 0) = false) : zs.all p = false := by
  rw [List.all_eq_false]
  refine ⟨zs[k], List.getElem_mem hk, ?_⟩
  simpa [List.getD, List.getElem?_eq_getElem hk] using h

theorem getD_mem7 (zs : List Int) (k : Nat) (hk : k < zs.length) : zs.getD k 0 ∈ zs := by
  simp [List.getD, List.getElem?_eq_getElem hk]

set_option maxHeartbeats 1000000 in
theorem within_any (bound : Int) (a : Option Addr) (zs : List Int) (cap : Nat) (w : World) (hb : I64 bound) (hz : ∀ z ∈ zs, I64 z) (hl : zs.length ≤ maxLen) (h : IntsK .i64 a zs w) :
    Calls Try.prog 44 #[.int .i64 bound, .slice a zs.length cap] w fun e w' => e = .returned (.bool (zs.all (wiB bound))) ∧ w = w' := by
  unfold maxLen at hl
  have HZ := Lib.hid hz
  have HI := Lib.hid h
  clear hz h
  go_enter Try.func44, Try.ntmps44
  go_wp2_with fail
  go_loop [6, 9] (fun _ i => ∃ k : Nat, k ≤ zs.length ∧ i = .int .i64 k ∧ Hid ((zs.take k).all (wiB bound) = true)) (fun _ i => zs.length - (intOf i).toNat)
  case atStart => exact ⟨0, Nat.zero_le _, rfl, by unfold Hid; simp⟩
  case round =>
    obtain ⟨k, hk, rfl, hall⟩ := hrel
    by_cases hlt : k < zs.length
    · obtain ⟨b, off, rfl, hbl, hc⟩ := HI.out.pos hlt
      have hcell := hc k hlt
      have hz := HZ.out _ (getD_mem7 zs k hlt)
      have HS := Lib.hid (all_snoc (wiB bound) zs k hlt)
      have HF := Lib.hid (all_false (wiB bound) zs k hlt)
      clear hc
      generalize zs.getD k 0 = z at *
      unfold I64 at hz hb
      obtain ⟨hz1, hz2⟩ := hz
      obtain ⟨hb1, hb2⟩ := hb
      by_cases h1 : bound ≤ z
      · have hf := HF.out (by unfold wiB; simp; omega)
        have HF2 := Lib.hid hf
        clear hf
        go_wp2_with fail
        go_ret
        exact ⟨by rw [HF2.out]; rfl, rfl⟩
      · by_cases h2 : z ≤ -bound
        · have hf := HF.out (by unfold wiB; simp; omega)
          have HF2 := Lib.hid hf
          clear hf
          go_wp2_with fail
          go_ret
          exact ⟨by rw [HF2.out]; rfl, rfl⟩
        · go_wp2_with fail
          go_round
          case rel => exact ⟨k + 1, by omega, by go_num, by unfold Hid; rw [HS.out, hall.out]; unfold wiB; simp; omega⟩
          case measure => simp [intOf]; omega
    · obtain rfl : k = zs.length := by omega
      have hf : zs.all (wiB bound) = true := by have := hall.out; rwa [List.take_length] at this
      have HF2 := Lib.hid hf
      clear hf
      go_wp2_with fail
      go_ret
      exact ⟨by rw [HF2.out]; rfl, rfl⟩
end Go.Proofs.Ytgkjbmejfcijkaa
namespace Go.Proofs.Ytgkjbmejfcijkaa
open Go.RowKit Go.Shelf

theorem wi_in (n : Int) : wiB 4294967296 n = decide (In32 n) := by
  unfold wiB In32
  exact decide_eq_decide.2 ⟨fun h => ⟨h.2, h.1⟩, fun h => ⟨h.2, h.1⟩⟩
theorem i64_bound : I64 4294967296 := ⟨by decide, by decide⟩
theorem pe_ret {f : Func} {k : Nat} (hres : f.results = #[ResultVar.cell k 23]) {n : Nat} {w wr : World} {x y : Int} {ts : Array Value} (hp : PBox n x y wr) (hb : Below w.heap.size w wr) (hts : ts[k]? = some (.pointer (some ⟨n, 0, none⟩))) :
    bodyPost Try.prog f (fun e w' => e = .returned (.agg #[.int .i64 x, .int .i64 y]) ∧ Below w.heap.size w w') .ret { tmps := ts, defers := [] } wr := by
  have c0 := hp.c0; have c1 := hp.c1
  exact bodyPost_ret (v := .agg #[.int .i64 x, .int .i64 y]) (by simp [results, hres, go_sem, c0, c1, hts]) rfl ⟨rfl, hb⟩
end Go.Proofs.Ytgkjbmejfcijkaa
namespace Go.Proofs.Ytgkjbmejfcijkaa
open Go.RowKit Go.Shelf

theorem boxes_four (w : World) (a b c d : Array Value) (s t u v : TypeId) : CBox w.heap.size s a ((((w.alloc (.cells a s)).alloc (.cells b t)).alloc (.cells c u)).alloc (.cells d v)) ∧ CBox (w.heap.size + 1) t b ((((w.alloc (.cells a s)).alloc (.cells b t)).alloc (.cells c u)).alloc (.cells d v)) ∧
    CBox (w.heap.size + 1 + 1) u c ((((w.alloc (.cells a s)).alloc (.cells b t)).alloc (.cells c u)).alloc (.cells d v)) ∧ CBox (w.heap.size + 1 + 1 + 1) v d ((((w.alloc (.cells a s)).alloc (.cells b t)).alloc (.cells c u)).alloc (.cells d v)) ∧ Below w.heap.size w ((((w.alloc (.cells a s)).alloc (.cells b t)).alloc (.cells c u)).alloc (.cells d v)) := by
  obtain ⟨p1, p2, p3, b1⟩ := boxes_three w a b c s t u
  generalize hA : ((w.alloc (.cells a s)).alloc (.cells b t)).alloc (.cells c u) = A at *
  have sA : A.heap.size = w.heap.size + 1 + 1 + 1 := by rw [← hA]; simp
  have b2 := (Below.refl A.heap.size A).alloc (Nat.le_refl _) (.cells d v)
  have p4 := CBox.new A v d
  rw [sA] at p4
  exact ⟨p1.next b2, p2.next b2, p3.next b2, p4, b1.trans (b2.mono b1.size)⟩
theorem CBox.set8 {n : Nat} {t : TypeId} {w : World} {a0 a1 a2 a3 a4 a5 a6 a7 : Value} (h : CBox n t #[a0, a1, a2, a3, a4, a5, a6, a7] w) (b0 b1 b2 b3 b4 b5 b6 b7 : Value) : CBox n t #[b0, b1, b2, b3, b4, b5, b6, b7] ((((((((w.setCell ⟨n, 0, none⟩ b0).setCell ⟨n, 1, none⟩ b1).setCell ⟨n, 2, none⟩ b2).setCell ⟨n, 3, none⟩ b3).setCell ⟨n, 4, none⟩ b4).setCell ⟨n, 5, none⟩ b5).setCell ⟨n, 6, none⟩ b6).setCell ⟨n, 7, none⟩ b7) := by
  unfold CBox at *
  simp only [World.setCell, Array.getElem?_modify, h]
  simp
theorem below_8 {w w' : World} {n B : Nat} (h : Below B w w') (hn : B ≤ n) (b0 b1 b2 b3 b4 b5 b6 b7 : Value) : Below B w ((((((((w'.setCell ⟨n, 0, none⟩ b0).setCell ⟨n, 1, none⟩ b1).setCell ⟨n, 2, none⟩ b2).setCell ⟨n, 3, none⟩ b3).setCell ⟨n, 4, none⟩ b4).setCell ⟨n, 5, none⟩ b5).setCell ⟨n, 6, none⟩ b6).setCell ⟨n, 7, none⟩ b7) :=
  Below.setCell (Below.setCell (Below.setCell (Below.setCell (Below.setCell (Below.setCell (Below.setCell (Below.setCell h (by exact hn) _) (by exact hn) _) (by exact hn) _) (by exact hn) _) (by exact hn) _) (by exact hn) _) (by exact hn) _) (by exact hn) _
theorem crv_ret {f : Func} {k : Nat} (hres : f.results = #[ResultVar.cell k 25]) {n : Nat} {w wr : World} {a0 a1 a2 a3 a4 a5 a6 a7 : Value} {ts : Array Value} (hp : CBox n 25 #[a0, a1, a2, a3, a4, a5, a6, a7] wr) (hb : Below w.heap.size w wr) (hts : ts[k]? = some (.pointer (some ⟨n, 0, none⟩))) :
    bodyPost Try.prog f (fun e w' => e = .returned (.agg #[a0, a1, a2, a3, a4, a5, a6, a7]) ∧ Below w.heap.size w w') .ret { tmps := ts, defers := [] } wr := by
  have c0 : wr.cell? ⟨n, 0, none⟩ = some a0 := hp.c 0 rfl
  have c1 : wr.cell? ⟨n, 1, none⟩ = some a1 := hp.c 1 rfl
  have c2 : wr.cell? ⟨n, 2, none⟩ = some a2 := hp.c 2 rfl
  have c3 : wr.cell? ⟨n, 3, none⟩ = some a3 := hp.c 3 rfl
  have c4 : wr.cell? ⟨n, 4, none⟩ = some a4 := hp.c 4 rfl
  have c5 : wr.cell? ⟨n, 5, none⟩ = some a5 := hp.c 5 rfl
  have c6 : wr.cell? ⟨n, 6, none⟩ = some a6 := hp.c 6 rfl
  have c7 : wr.cell? ⟨n, 7, none⟩ = some a7 := hp.c 7 rfl
  exact bodyPost_ret (v := .agg #[a0, a1, a2, a3, a4, a5, a6, a7]) (by simp [results, hres, go_sem, c0, c1, c2, c3, c4, c5, c6, c7, hts]) rfl ⟨rfl, hb⟩
end Go.Proofs.Ytgkjbmejfcijkaa
