/-
  What lies within the bound; a point that is handed back.
-/
import Derived.Test.YtejhegoegmoemaaPtMem
import Derived.Test.YtejhegoegmoemaaWithin
import Derived.Defers
import Derived.Recover
import Derived.WalkLawsBesides
namespace Go.Proofs.Ytejhegoegmoemaa
open Go.RowKit Go.Shelf

theorem wi_in8 (n : Int) : wiB 4294967296 n = decide (In32 n) := by
  unfold wiB In32
  exact decide_eq_decide.2 ⟨fun h => ⟨h.2, h.1⟩, fun h => ⟨h.2, h.1⟩⟩
theorem i64_bound : I64 4294967296 := ⟨by decide, by decide⟩
theorem pe_ret {f : Func} {k : Nat} (hres : f.results = #[ResultVar.cell k 25]) {n : Nat} {w wr : World} {x y : Int} {ts : Array Value} (hp : PBox n x y wr) (hb : Below w.heap.size w wr) (hts : ts[k]? = some (.pointer (some ⟨n, 0, none⟩))) :
    bodyPost Try.prog f (fun e w' => e = .returned (.agg #[.int .i64 x, .int .i64 y]) ∧ Below w.heap.size w w') .ret { tmps := ts, defers := [] } wr := by
  have c0 := hp.c0; have c1 := hp.c1
  exact bodyPost_ret (v := .agg #[.int .i64 x, .int .i64 y]) (by simp [results, hres, go_sem, c0, c1, hts]) rfl ⟨rfl, hb⟩
end Go.Proofs.Ytejhegoegmoemaa
