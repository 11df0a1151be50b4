/-
  No cell of these rows narrows 'for every input' (looked for: loops, veiled, ifaces, maps, wideKeys, modest, calm, conditions, laid).
  DERIVED. THE GIVEN ROWS OF THIS SEAT. 4 by the template 'for every input the law returns true; each argument reads behind the call as it read before'; 0 by the template 'total and deterministic' (their statements: YtejhegoegmoemaaTotals.lean).
  GIVEN WITH THE SEED: the statements are not yours to turn. If you find one false, say at which input.
  Laid BY PROGRAM, IN A SANDBOX (cutbox-rows.mjs): the forced cells as the released guide's own fill.sh prints them over the translation 05a67812817c23a1… (all of the seat's roots in one cut). By AI agents, Wed Nov 11 2026. No macro, syntax, notation, axiom, sorry.
-/
import Derived.Test.YtejhegoegmoemaaChecked
import GoSem.Claim
import GoSem.ClaimJoined
import GoSem.ClaimMapViews
import Derived.JoinedTies
import Derived.KernelRfl
namespace Go.Proofs.Ytejhegoegmoemaa
/- THE CELL 'sum', in the pinned program and in every row, IS THE sha256 OF THE DUMP (.gsa) THAT YtejhegoegmoemaaProg.lean LOADS. Nothing in Lean hashes anything: it is a label: what it is worth is what the hold of that sum in a sandbox is worth. -/
noncomputable def Try.pinned : Pinned := { name := "ytejhegoegmoemaa", sum := "05a67812817c23a1c922d8ce1e0e06366e54108afb166669fb31c9a9a633369b", checked := Try.checked }
namespace Rows
def none {H : Type} : Left H := { results := [], args := [] }

/-- 'pointillistlaw14.SnapNumbers': WHATEVER THE INPUT: true; the input reads as it did. -/
def snapNumbersSpec : ChangeSpec := { name := "snapNumbers", fn := fun _ => fun
  | [d1, d2] => { results := [.lit (.bool true)], args := [d1, d2] }
  | _ => none }
def snapNumbersRow : OpenClaim := { program := "ytejhegoegmoemaa", sum := "05a67812817c23a1c922d8ce1e0e06366e54108afb166669fb31c9a9a633369b", func := "pointillist/pointillistlaw14.SnapNumbers", spec := "snapNumbers", apart := false }
def SnapNumbersSaid : Prop := snapNumbersRow.holds Try.pinned (OpenSpec.ofChange snapNumbersSpec)

/-- ITS FALSE NEIGHBOUR: 'it returns false'. Refute it at one input. -/
def snapNumbersWrong : ChangeSpec := { name := "snapNumbers", fn := fun _ => fun
  | [d1, d2] => { results := [.lit (.bool false)], args := [d1, d2] }
  | _ => none }
def SnapNumbersWrongFalsely : Prop := snapNumbersRow.holds Try.pinned (OpenSpec.ofChange snapNumbersWrong)

/-- 'pointillistlaw14.SnapEdges': WHATEVER THE INPUT: true; the input reads as it did. -/
def snapEdgesSpec : ChangeSpec := { name := "snapEdges", fn := fun _ => fun
  | [d1, d2] => { results := [.lit (.bool true)], args := [d1, d2] }
  | _ => none }
def snapEdgesRow : OpenClaim := { program := "ytejhegoegmoemaa", sum := "05a67812817c23a1c922d8ce1e0e06366e54108afb166669fb31c9a9a633369b", func := "pointillist/pointillistlaw14.SnapEdges", spec := "snapEdges", unfollowed := true, recurses := true, apart := false }
def SnapEdgesSaid : Prop := snapEdgesRow.holds Try.pinned (OpenSpec.ofChange snapEdgesSpec)

/-- ITS FALSE NEIGHBOUR: 'it returns false'. Refute it at one input. -/
def snapEdgesWrong : ChangeSpec := { name := "snapEdges", fn := fun _ => fun
  | [d1, d2] => { results := [.lit (.bool false)], args := [d1, d2] }
  | _ => none }
def SnapEdgesWrongFalsely : Prop := snapEdgesRow.holds Try.pinned (OpenSpec.ofChange snapEdgesWrong)

/-- 'pointillistlaw14.SnapOne': WHATEVER THE INPUT: true; the input reads as it did. -/
def snapOneSpec : ChangeSpec := { name := "snapOne", fn := fun _ => fun
  | [d] => { results := [.lit (.bool true)], args := [d] }
  | _ => none }
def snapOneRow : OpenClaim := { program := "ytejhegoegmoemaa", sum := "05a67812817c23a1c922d8ce1e0e06366e54108afb166669fb31c9a9a633369b", func := "pointillist/pointillistlaw14.SnapOne", spec := "snapOne", apart := false }
def SnapOneSaid : Prop := snapOneRow.holds Try.pinned (OpenSpec.ofChange snapOneSpec)

/-- ITS FALSE NEIGHBOUR: 'it returns false'. Refute it at one input. -/
def snapOneWrong : ChangeSpec := { name := "snapOne", fn := fun _ => fun
  | [d] => { results := [.lit (.bool false)], args := [d] }
  | _ => none }
def SnapOneWrongFalsely : Prop := snapOneRow.holds Try.pinned (OpenSpec.ofChange snapOneWrong)

/-- 'pointillistlaw14.SnapMoves': WHATEVER THE INPUT: true; the input reads as it did. -/
def snapMovesSpec : ChangeSpec := { name := "snapMoves", fn := fun _ => fun
  | [d1, d2, d3] => { results := [.lit (.bool true)], args := [d1, d2, d3] }
  | _ => none }
def snapMovesRow : OpenClaim := { program := "ytejhegoegmoemaa", sum := "05a67812817c23a1c922d8ce1e0e06366e54108afb166669fb31c9a9a633369b", func := "pointillist/pointillistlaw14.SnapMoves", spec := "snapMoves", apart := false }
def SnapMovesSaid : Prop := snapMovesRow.holds Try.pinned (OpenSpec.ofChange snapMovesSpec)

/-- ITS FALSE NEIGHBOUR: 'it returns false'. Refute it at one input. -/
def snapMovesWrong : ChangeSpec := { name := "snapMoves", fn := fun _ => fun
  | [d1, d2, d3] => { results := [.lit (.bool false)], args := [d1, d2, d3] }
  | _ => none }
def SnapMovesWrongFalsely : Prop := snapMovesRow.holds Try.pinned (OpenSpec.ofChange snapMovesWrong)

/- THE SECOND FORM. 'bulk': how many values and letters a reading holds, each counted each time it is reached (what is shared counts as often as it is met; a slice's spare places count too). A statement '..UptoSaid' is the law's where the arguments, and the package variables that the reading takes, are together of bulk at most 1048576: NARROWER than '..Said'. Prove '..Said' where nothing that the law and all that it calls make is longer than what came in: it says more and counts as full. Else prove '..UptoSaid'. A law counts once. -/
mutual
def uptoBulk {H : Type} : DataW H → Nat
  | .lit (.string bytes) => bytes.length + 1
  | .lit _ => 1
  | .nil => 1
  | .ptr d => uptoBulk d + 1
  | .slice elems spare => uptoBulkAll elems + uptoBulkAll spare + 1
  | .agg parts => uptoBulkAll parts + 1
  | .iface _ d => uptoBulk d + 1
  | .map entries => uptoBulkEntries entries + 1
  | .held _ => 1
def uptoBulkAll {H : Type} : List (DataW H) → Nat
  | [] => 0
  | d :: r => uptoBulk d + uptoBulkAll r
def uptoBulkEntries {H : Type} : List (Lit × DataW H) → Nat
  | [] => 0
  | x :: r => uptoBulkEntry x + uptoBulkEntries r
def uptoBulkEntry {H : Type} : Lit × DataW H → Nat
  | (.string bytes, d) => bytes.length + uptoBulk d + 1
  | (_, d) => uptoBulk d + 1
 end
def uptoSmall : (H : Type) → List (DataW H) → Bool := fun _ ds => decide (uptoBulkAll ds ≤ 1048576)
def OpenSpec.upto (s : _root_.Go.ChangeSpec) : _root_.Go.OpenSpec := { _root_.Go.OpenSpec.ofChange s with cond := some uptoSmall }

/-- 'pointillistlaw14.SnapNumbers', WHERE WHAT IT READS IS OF BULK AT MOST 1048576: true; the input reads as it did. -/
def snapNumbersUptoRow : OpenClaim := { program := "ytejhegoegmoemaa", sum := "05a67812817c23a1c922d8ce1e0e06366e54108afb166669fb31c9a9a633369b", func := "pointillist/pointillistlaw14.SnapNumbers", spec := "snapNumbers", apart := false, narrowed := true }
def SnapNumbersUptoSaid : Prop := snapNumbersUptoRow.holds Try.pinned (OpenSpec.upto snapNumbersSpec)

/-- 'pointillistlaw14.SnapEdges', WHERE WHAT IT READS IS OF BULK AT MOST 1048576: true; the input reads as it did. -/
def snapEdgesUptoRow : OpenClaim := { program := "ytejhegoegmoemaa", sum := "05a67812817c23a1c922d8ce1e0e06366e54108afb166669fb31c9a9a633369b", func := "pointillist/pointillistlaw14.SnapEdges", spec := "snapEdges", unfollowed := true, recurses := true, apart := false, narrowed := true }
def SnapEdgesUptoSaid : Prop := snapEdgesUptoRow.holds Try.pinned (OpenSpec.upto snapEdgesSpec)

/-- 'pointillistlaw14.SnapOne', WHERE WHAT IT READS IS OF BULK AT MOST 1048576: true; the input reads as it did. -/
def snapOneUptoRow : OpenClaim := { program := "ytejhegoegmoemaa", sum := "05a67812817c23a1c922d8ce1e0e06366e54108afb166669fb31c9a9a633369b", func := "pointillist/pointillistlaw14.SnapOne", spec := "snapOne", apart := false, narrowed := true }
def SnapOneUptoSaid : Prop := snapOneUptoRow.holds Try.pinned (OpenSpec.upto snapOneSpec)

/-- 'pointillistlaw14.SnapMoves', WHERE WHAT IT READS IS OF BULK AT MOST 1048576: true; the input reads as it did. -/
def snapMovesUptoRow : OpenClaim := { program := "ytejhegoegmoemaa", sum := "05a67812817c23a1c922d8ce1e0e06366e54108afb166669fb31c9a9a633369b", func := "pointillist/pointillistlaw14.SnapMoves", spec := "snapMoves", apart := false, narrowed := true }
def SnapMovesUptoSaid : Prop := snapMovesUptoRow.holds Try.pinned (OpenSpec.upto snapMovesSpec)

end Rows
end Go.Proofs.Ytejhegoegmoemaa
