/-
  The cosine of a sum, but for what is left over.
-/
import Derived.Test.YtdngoeabdpeigaaTrigPoly
namespace Go.Proofs.Ytdngoeabdpeigaa
set_option maxRecDepth 100000 in
set_option maxHeartbeats 4000000 in
theorem add_cc (X Y : Rat) : 2311256907767808000 * cc (X + Y) - (361 * (cc X * cc Y) - ss X * ss Y) = evalL restCL X Y := by
  simp only [ss, cc, restCL, evalL]
  grind
end Go.Proofs.Ytdngoeabdpeigaa
