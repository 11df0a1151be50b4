/-
  The sine of a sum, but for what is left over.
-/
import Derived.Test.YtdngoeabdpeigaaTrigPoly
namespace Go.Proofs.Ytdngoeabdpeigaa
set_option maxRecDepth 100000 in
set_option maxHeartbeats 4000000 in
theorem add_ss (X Y : Rat) : 6402373705728000 * ss (X + Y) - (ss X * cc Y + cc X * ss Y) = evalL restSL X Y := by
  simp only [ss, cc, restSL, evalL]
  grind
end Go.Proofs.Ytdngoeabdpeigaa
