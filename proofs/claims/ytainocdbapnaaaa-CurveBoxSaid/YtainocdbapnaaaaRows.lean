/-
  No cell of these rows narrows 'for every input' (looked for: loops, veiled, ifaces, maps, wideKeys, modest, calm, conditions, laid).
  DERIVED. THE GIVEN ROWS OF THIS SEAT. 5 by the template 'for every input the law returns true; each argument reads behind the call as it read before'; 0 by the template 'total and deterministic' (their statements: YtainocdbapnaaaaTotals.lean).
  GIVEN WITH THE SEED: the statements are not yours to turn. If you find one false, say at which input.
  Laid BY PROGRAM, IN A SANDBOX (cutbox-rows.mjs): the forced cells as the released guide's own fill.sh prints them over the translation 89a799fc8045445f… (all of the seat's roots in one cut). By AI agents, Wed Nov 11 2026. No macro, syntax, notation, axiom, sorry.
-/
import Derived.Test.YtainocdbapnaaaaChecked
import GoSem.Claim
import GoSem.ClaimJoined
import GoSem.ClaimMapViews
import Derived.JoinedTies
import Derived.KernelRfl
namespace Go.Proofs.Ytainocdbapnaaaa
/- THE CELL 'sum', in the pinned program and in every row, IS THE sha256 OF THE DUMP (.gsa) THAT YtainocdbapnaaaaProg.lean LOADS. Nothing in Lean hashes anything: it is a label: what it is worth is what the hold of that sum in a sandbox is worth. -/
noncomputable def Try.pinned : Pinned := { name := "ytainocdbapnaaaa", sum := "89a799fc8045445fef1199d9cf2dae4cdf4d52e046f380f06a15883ee8327d83", checked := Try.checked }
namespace Rows
def none {H : Type} : Left H := { results := [], args := [] }

/-- 'pointillistlaw11.CurveCuts': WHATEVER THE INPUT: true; the input reads as it did. -/
def curveCutsSpec : ChangeSpec := { name := "curveCuts", fn := fun _ => fun
  | [d] => { results := [.lit (.bool true)], args := [d] }
  | _ => none }
def curveCutsRow : OpenClaim := { program := "ytainocdbapnaaaa", sum := "89a799fc8045445fef1199d9cf2dae4cdf4d52e046f380f06a15883ee8327d83", func := "pointillist/pointillistlaw11.CurveCuts", spec := "curveCuts", inPlace := ["math/bits.Add64"], unfollowed := true, recurses := true, named := ["math/bits.divideError", "math/bits.overflowError"], apart := false }
def CurveCutsSaid : Prop := curveCutsRow.holds Try.pinned (OpenSpec.ofChange curveCutsSpec)

/-- ITS FALSE NEIGHBOUR: 'it returns false'. Refute it at one input. -/
def curveCutsWrong : ChangeSpec := { name := "curveCuts", fn := fun _ => fun
  | [d] => { results := [.lit (.bool false)], args := [d] }
  | _ => none }
def CurveCutsWrongFalsely : Prop := curveCutsRow.holds Try.pinned (OpenSpec.ofChange curveCutsWrong)

/-- 'pointillistlaw11.CurveElevates': WHATEVER THE INPUT: true; the input reads as it did. -/
def curveElevatesSpec : ChangeSpec := { name := "curveElevates", fn := fun _ => fun
  | [d1, d2, d3] => { results := [.lit (.bool true)], args := [d1, d2, d3] }
  | _ => none }
def curveElevatesRow : OpenClaim := { program := "ytainocdbapnaaaa", sum := "89a799fc8045445fef1199d9cf2dae4cdf4d52e046f380f06a15883ee8327d83", func := "pointillist/pointillistlaw11.CurveElevates", spec := "curveElevates", inPlace := ["math/bits.Add64"], unfollowed := true, recurses := true, named := ["math/bits.divideError", "math/bits.overflowError"], apart := false }
def CurveElevatesSaid : Prop := curveElevatesRow.holds Try.pinned (OpenSpec.ofChange curveElevatesSpec)

/-- ITS FALSE NEIGHBOUR: 'it returns false'. Refute it at one input. -/
def curveElevatesWrong : ChangeSpec := { name := "curveElevates", fn := fun _ => fun
  | [d1, d2, d3] => { results := [.lit (.bool false)], args := [d1, d2, d3] }
  | _ => none }
def CurveElevatesWrongFalsely : Prop := curveElevatesRow.holds Try.pinned (OpenSpec.ofChange curveElevatesWrong)

/-- 'pointillistlaw11.CurvePoints': WHATEVER THE INPUT: true; the input reads as it did. -/
def curvePointsSpec : ChangeSpec := { name := "curvePoints", fn := fun _ => fun
  | [d1, d2] => { results := [.lit (.bool true)], args := [d1, d2] }
  | _ => none }
def curvePointsRow : OpenClaim := { program := "ytainocdbapnaaaa", sum := "89a799fc8045445fef1199d9cf2dae4cdf4d52e046f380f06a15883ee8327d83", func := "pointillist/pointillistlaw11.CurvePoints", spec := "curvePoints", inPlace := ["math/bits.Add64"], unfollowed := true, recurses := true, named := ["math/bits.divideError", "math/bits.overflowError"], apart := false }
def CurvePointsSaid : Prop := curvePointsRow.holds Try.pinned (OpenSpec.ofChange curvePointsSpec)

/-- ITS FALSE NEIGHBOUR: 'it returns false'. Refute it at one input. -/
def curvePointsWrong : ChangeSpec := { name := "curvePoints", fn := fun _ => fun
  | [d1, d2] => { results := [.lit (.bool false)], args := [d1, d2] }
  | _ => none }
def CurvePointsWrongFalsely : Prop := curvePointsRow.holds Try.pinned (OpenSpec.ofChange curvePointsWrong)

/-- 'pointillistlaw11.CurveHalves': WHATEVER THE INPUT: true; the input reads as it did. -/
def curveHalvesSpec : ChangeSpec := { name := "curveHalves", fn := fun _ => fun
  | [d] => { results := [.lit (.bool true)], args := [d] }
  | _ => none }
def curveHalvesRow : OpenClaim := { program := "ytainocdbapnaaaa", sum := "89a799fc8045445fef1199d9cf2dae4cdf4d52e046f380f06a15883ee8327d83", func := "pointillist/pointillistlaw11.CurveHalves", spec := "curveHalves", inPlace := ["math/bits.Add64"], unfollowed := true, recurses := true, named := ["math/bits.divideError", "math/bits.overflowError"], apart := false }
def CurveHalvesSaid : Prop := curveHalvesRow.holds Try.pinned (OpenSpec.ofChange curveHalvesSpec)

/-- ITS FALSE NEIGHBOUR: 'it returns false'. Refute it at one input. -/
def curveHalvesWrong : ChangeSpec := { name := "curveHalves", fn := fun _ => fun
  | [d] => { results := [.lit (.bool false)], args := [d] }
  | _ => none }
def CurveHalvesWrongFalsely : Prop := curveHalvesRow.holds Try.pinned (OpenSpec.ofChange curveHalvesWrong)

/-- 'pointillistlaw11.CurveBox': WHATEVER THE INPUT: true; the input reads as it did. -/
def curveBoxSpec : ChangeSpec := { name := "curveBox", fn := fun _ => fun
  | [d1, d2] => { results := [.lit (.bool true)], args := [d1, d2] }
  | _ => none }
def curveBoxRow : OpenClaim := { program := "ytainocdbapnaaaa", sum := "89a799fc8045445fef1199d9cf2dae4cdf4d52e046f380f06a15883ee8327d83", func := "pointillist/pointillistlaw11.CurveBox", spec := "curveBox", inPlace := ["math/bits.Add64"], unfollowed := true, recurses := true, named := ["math/bits.divideError", "math/bits.overflowError"], apart := false }
def CurveBoxSaid : Prop := curveBoxRow.holds Try.pinned (OpenSpec.ofChange curveBoxSpec)

/-- ITS FALSE NEIGHBOUR: 'it returns false'. Refute it at one input. -/
def curveBoxWrong : ChangeSpec := { name := "curveBox", fn := fun _ => fun
  | [d1, d2] => { results := [.lit (.bool false)], args := [d1, d2] }
  | _ => none }
def CurveBoxWrongFalsely : Prop := curveBoxRow.holds Try.pinned (OpenSpec.ofChange curveBoxWrong)

/- THE SECOND FORM. 'bulk': how many values and letters a reading holds, each counted each time it is reached (what is shared counts as often as it is met; a slice's spare places count too). A statement '..UptoSaid' is the law's where the arguments, and the package variables that the reading takes, are together of bulk at most 1048576: NARROWER than '..Said'. Prove '..Said' where nothing that the law and all that it calls make is longer than what came in: it says more and counts as full. Else prove '..UptoSaid'. A law counts once. -/
mutual
def uptoBulk {H : Type} : DataW H → Nat
  | .lit (.string bytes) => bytes.length + 1
  | .lit _ => 1
  | .nil => 1
  | .ptr d => uptoBulk d + 1
  | .slice elems spare => uptoBulkAll elems + uptoBulkAll spare + 1
  | .agg parts => uptoBulkAll parts + 1
  | .iface _ d => uptoBulk d + 1
  | .map entries => uptoBulkEntries entries + 1
  | .held _ => 1
def uptoBulkAll {H : Type} : List (DataW H) → Nat
  | [] => 0
  | d :: r => uptoBulk d + uptoBulkAll r
def uptoBulkEntries {H : Type} : List (Lit × DataW H) → Nat
  | [] => 0
  | x :: r => uptoBulkEntry x + uptoBulkEntries r
def uptoBulkEntry {H : Type} : Lit × DataW H → Nat
  | (.string bytes, d) => bytes.length + uptoBulk d + 1
  | (_, d) => uptoBulk d + 1
 end
def uptoSmall : (H : Type) → List (DataW H) → Bool := fun _ ds => decide (uptoBulkAll ds ≤ 1048576)
def OpenSpec.upto (s : _root_.Go.ChangeSpec) : _root_.Go.OpenSpec := { _root_.Go.OpenSpec.ofChange s with cond := some uptoSmall }

/-- 'pointillistlaw11.CurveCuts', WHERE WHAT IT READS IS OF BULK AT MOST 1048576: true; the input reads as it did. -/
def curveCutsUptoRow : OpenClaim := { program := "ytainocdbapnaaaa", sum := "89a799fc8045445fef1199d9cf2dae4cdf4d52e046f380f06a15883ee8327d83", func := "pointillist/pointillistlaw11.CurveCuts", spec := "curveCuts", inPlace := ["math/bits.Add64"], unfollowed := true, recurses := true, named := ["math/bits.divideError", "math/bits.overflowError"], apart := false, narrowed := true }
def CurveCutsUptoSaid : Prop := curveCutsUptoRow.holds Try.pinned (OpenSpec.upto curveCutsSpec)

/-- 'pointillistlaw11.CurveElevates', WHERE WHAT IT READS IS OF BULK AT MOST 1048576: true; the input reads as it did. -/
def curveElevatesUptoRow : OpenClaim := { program := "ytainocdbapnaaaa", sum := "89a799fc8045445fef1199d9cf2dae4cdf4d52e046f380f06a15883ee8327d83", func := "pointillist/pointillistlaw11.CurveElevates", spec := "curveElevates", inPlace := ["math/bits.Add64"], unfollowed := true, recurses := true, named := ["math/bits.divideError", "math/bits.overflowError"], apart := false, narrowed := true }
def CurveElevatesUptoSaid : Prop := curveElevatesUptoRow.holds Try.pinned (OpenSpec.upto curveElevatesSpec)

/-- 'pointillistlaw11.CurvePoints', WHERE WHAT IT READS IS OF BULK AT MOST 1048576: true; the input reads as it did. -/
def curvePointsUptoRow : OpenClaim := { program := "ytainocdbapnaaaa", sum := "89a799fc8045445fef1199d9cf2dae4cdf4d52e046f380f06a15883ee8327d83", func := "pointillist/pointillistlaw11.CurvePoints", spec := "curvePoints", inPlace := ["math/bits.Add64"], unfollowed := true, recurses := true, named := ["math/bits.divideError", "math/bits.overflowError"], apart := false, narrowed := true }
def CurvePointsUptoSaid : Prop := curvePointsUptoRow.holds Try.pinned (OpenSpec.upto curvePointsSpec)

/-- 'pointillistlaw11.CurveHalves', WHERE WHAT IT READS IS OF BULK AT MOST 1048576: true; the input reads as it did. -/
def curveHalvesUptoRow : OpenClaim := { program := "ytainocdbapnaaaa", sum := "89a799fc8045445fef1199d9cf2dae4cdf4d52e046f380f06a15883ee8327d83", func := "pointillist/pointillistlaw11.CurveHalves", spec := "curveHalves", inPlace := ["math/bits.Add64"], unfollowed := true, recurses := true, named := ["math/bits.divideError", "math/bits.overflowError"], apart := false, narrowed := true }
def CurveHalvesUptoSaid : Prop := curveHalvesUptoRow.holds Try.pinned (OpenSpec.upto curveHalvesSpec)

/-- 'pointillistlaw11.CurveBox', WHERE WHAT IT READS IS OF BULK AT MOST 1048576: true; the input reads as it did. -/
def curveBoxUptoRow : OpenClaim := { program := "ytainocdbapnaaaa", sum := "89a799fc8045445fef1199d9cf2dae4cdf4d52e046f380f06a15883ee8327d83", func := "pointillist/pointillistlaw11.CurveBox", spec := "curveBox", inPlace := ["math/bits.Add64"], unfollowed := true, recurses := true, named := ["math/bits.divideError", "math/bits.overflowError"], apart := false, narrowed := true }
def CurveBoxUptoSaid : Prop := curveBoxUptoRow.holds Try.pinned (OpenSpec.upto curveBoxSpec)

end Rows
end Go.Proofs.Ytainocdbapnaaaa
