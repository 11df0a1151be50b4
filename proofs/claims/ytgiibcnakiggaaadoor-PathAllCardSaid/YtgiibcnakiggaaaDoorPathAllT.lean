/-
  The law's told of path.All, of any text of up to 100 bytes: as many groups as are wanted.
-/
import Derived.Test.YtgiibcnakiggaaaDoorPathTold
import Derived.Test.YtgiibcnakiggaaaDoorPathYield
namespace Go.Proofs.YtgiibcnakiggaaaDoor
open Go.RowKit Go.Shelf
theorem told_all (s : ByteArray) (m : Nat) (w : World) (hs : s.size ≤ 100) (T : PTabs w) :
    Calls Tryd.prog 9 #[.string s, .int .i64 (m : Int)] w fun e w' => ∃ v, e = .returned v ∧ Cmds w.heap.size v ((pathAll (txOf s)).1.take m) w' ∧ Below w.heap.size w w' :=
  told_feeds s _ m w T.size fun B W0 _ hx hb => all1_feeds s B W0 (by omega) (T.next hb) hx
end Go.Proofs.YtgiibcnakiggaaaDoor
