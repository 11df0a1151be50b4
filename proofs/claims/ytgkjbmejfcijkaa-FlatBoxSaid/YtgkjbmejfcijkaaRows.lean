/-
  No cell of these rows narrows 'for every input' (looked for: loops, veiled, ifaces, maps, wideKeys, modest, calm, conditions, laid).
  DERIVED. THE GIVEN ROWS OF THIS SEAT. 5 by the template 'for every input the law returns true; each argument reads behind the call as it read before'; 0 by the template 'total and deterministic' (their statements: YtgkjbmejfcijkaaTotals.lean).
  GIVEN WITH THE SEED: the statements are not yours to turn. If you find one false, say at which input.
  Laid BY PROGRAM, IN A SANDBOX (cutbox-rows.mjs): the forced cells as the released guide's own fill.sh prints them over the translation a8a043544297ec1a… (all of the seat's roots in one cut). By AI agents, Wed Nov 11 2026. No macro, syntax, notation, axiom, sorry.
-/
import Derived.Test.YtgkjbmejfcijkaaChecked
import GoSem.Claim
import GoSem.ClaimJoined
import GoSem.ClaimMapViews
import Derived.JoinedTies
import Derived.KernelRfl
namespace Go.Proofs.Ytgkjbmejfcijkaa
/- THE CELL 'sum', in the pinned program and in every row, IS THE sha256 OF THE DUMP (.gsa) THAT YtgkjbmejfcijkaaProg.lean LOADS. Nothing in Lean hashes anything: it is a label: what it is worth is what the hold of that sum in a sandbox is worth. -/
noncomputable def Try.pinned : Pinned := { name := "ytgkjbmejfcijkaa", sum := "a8a043544297ec1a24171c54c3d3799fcfa94eeb7b2a332140159addf5486477", checked := Try.checked }
namespace Rows
def none {H : Type} : Left H := { results := [], args := [] }

/-- 'pointillistlaw12.FlatPieces': WHATEVER THE INPUT: true; the input reads as it did. -/
def flatPiecesSpec : ChangeSpec := { name := "flatPieces", fn := fun _ => fun
  | [d1, d2] => { results := [.lit (.bool true)], args := [d1, d2] }
  | _ => none }
def flatPiecesRow : OpenClaim := { program := "ytgkjbmejfcijkaa", sum := "a8a043544297ec1a24171c54c3d3799fcfa94eeb7b2a332140159addf5486477", func := "pointillist/pointillistlaw12.FlatPieces", spec := "flatPieces", inPlace := ["math/bits.Add64"], unfollowed := true, recurses := true, named := ["math/bits.divideError", "math/bits.overflowError"], apart := false }
def FlatPiecesSaid : Prop := flatPiecesRow.holds Try.pinned (OpenSpec.ofChange flatPiecesSpec)

/-- ITS FALSE NEIGHBOUR: 'it returns false'. Refute it at one input. -/
def flatPiecesWrong : ChangeSpec := { name := "flatPieces", fn := fun _ => fun
  | [d1, d2] => { results := [.lit (.bool false)], args := [d1, d2] }
  | _ => none }
def FlatPiecesWrongFalsely : Prop := flatPiecesRow.holds Try.pinned (OpenSpec.ofChange flatPiecesWrong)

/-- 'pointillistlaw12.FlatChords': WHATEVER THE INPUT: true; the input reads as it did. -/
def flatChordsSpec : ChangeSpec := { name := "flatChords", fn := fun _ => fun
  | [d] => { results := [.lit (.bool true)], args := [d] }
  | _ => none }
def flatChordsRow : OpenClaim := { program := "ytgkjbmejfcijkaa", sum := "a8a043544297ec1a24171c54c3d3799fcfa94eeb7b2a332140159addf5486477", func := "pointillist/pointillistlaw12.FlatChords", spec := "flatChords", inPlace := ["math/bits.Add64"], unfollowed := true, recurses := true, named := ["math/bits.divideError", "math/bits.overflowError"], apart := false }
def FlatChordsSaid : Prop := flatChordsRow.holds Try.pinned (OpenSpec.ofChange flatChordsSpec)

/-- ITS FALSE NEIGHBOUR: 'it returns false'. Refute it at one input. -/
def flatChordsWrong : ChangeSpec := { name := "flatChords", fn := fun _ => fun
  | [d] => { results := [.lit (.bool false)], args := [d] }
  | _ => none }
def FlatChordsWrongFalsely : Prop := flatChordsRow.holds Try.pinned (OpenSpec.ofChange flatChordsWrong)

/-- 'pointillistlaw12.FlatJoins': WHATEVER THE INPUT: true; the input reads as it did. -/
def flatJoinsSpec : ChangeSpec := { name := "flatJoins", fn := fun _ => fun
  | [d] => { results := [.lit (.bool true)], args := [d] }
  | _ => none }
def flatJoinsRow : OpenClaim := { program := "ytgkjbmejfcijkaa", sum := "a8a043544297ec1a24171c54c3d3799fcfa94eeb7b2a332140159addf5486477", func := "pointillist/pointillistlaw12.FlatJoins", spec := "flatJoins", inPlace := ["math/bits.Add64"], unfollowed := true, recurses := true, named := ["math/bits.divideError", "math/bits.overflowError"], apart := false }
def FlatJoinsSaid : Prop := flatJoinsRow.holds Try.pinned (OpenSpec.ofChange flatJoinsSpec)

/-- ITS FALSE NEIGHBOUR: 'it returns false'. Refute it at one input. -/
def flatJoinsWrong : ChangeSpec := { name := "flatJoins", fn := fun _ => fun
  | [d] => { results := [.lit (.bool false)], args := [d] }
  | _ => none }
def FlatJoinsWrongFalsely : Prop := flatJoinsRow.holds Try.pinned (OpenSpec.ofChange flatJoinsWrong)

/-- 'pointillistlaw12.FlatNear': WHATEVER THE INPUT: true; the input reads as it did. -/
def flatNearSpec : ChangeSpec := { name := "flatNear", fn := fun _ => fun
  | [d] => { results := [.lit (.bool true)], args := [d] }
  | _ => none }
def flatNearRow : OpenClaim := { program := "ytgkjbmejfcijkaa", sum := "a8a043544297ec1a24171c54c3d3799fcfa94eeb7b2a332140159addf5486477", func := "pointillist/pointillistlaw12.FlatNear", spec := "flatNear", inPlace := ["math/bits.Add64"], unfollowed := true, recurses := true, named := ["math/bits.divideError", "math/bits.overflowError"], apart := false }
def FlatNearSaid : Prop := flatNearRow.holds Try.pinned (OpenSpec.ofChange flatNearSpec)

/-- ITS FALSE NEIGHBOUR: 'it returns false'. Refute it at one input. -/
def flatNearWrong : ChangeSpec := { name := "flatNear", fn := fun _ => fun
  | [d] => { results := [.lit (.bool false)], args := [d] }
  | _ => none }
def FlatNearWrongFalsely : Prop := flatNearRow.holds Try.pinned (OpenSpec.ofChange flatNearWrong)

/-- 'pointillistlaw12.FlatBox': WHATEVER THE INPUT: true; the input reads as it did. -/
def flatBoxSpec : ChangeSpec := { name := "flatBox", fn := fun _ => fun
  | [d] => { results := [.lit (.bool true)], args := [d] }
  | _ => none }
def flatBoxRow : OpenClaim := { program := "ytgkjbmejfcijkaa", sum := "a8a043544297ec1a24171c54c3d3799fcfa94eeb7b2a332140159addf5486477", func := "pointillist/pointillistlaw12.FlatBox", spec := "flatBox", inPlace := ["math/bits.Add64"], unfollowed := true, recurses := true, named := ["math/bits.divideError", "math/bits.overflowError"], apart := false }
def FlatBoxSaid : Prop := flatBoxRow.holds Try.pinned (OpenSpec.ofChange flatBoxSpec)

/-- ITS FALSE NEIGHBOUR: 'it returns false'. Refute it at one input. -/
def flatBoxWrong : ChangeSpec := { name := "flatBox", fn := fun _ => fun
  | [d] => { results := [.lit (.bool false)], args := [d] }
  | _ => none }
def FlatBoxWrongFalsely : Prop := flatBoxRow.holds Try.pinned (OpenSpec.ofChange flatBoxWrong)

/- THE SECOND FORM. 'bulk': how many values and letters a reading holds, each counted each time it is reached (what is shared counts as often as it is met; a slice's spare places count too). A statement '..UptoSaid' is the law's where the arguments, and the package variables that the reading takes, are together of bulk at most 1048576: NARROWER than '..Said'. Prove '..Said' where nothing that the law and all that it calls make is longer than what came in: it says more and counts as full. Else prove '..UptoSaid'. A law counts once. -/
mutual
def uptoBulk {H : Type} : DataW H → Nat
  | .lit (.string bytes) => bytes.length + 1
  | .lit _ => 1
  | .nil => 1
  | .ptr d => uptoBulk d + 1
  | .slice elems spare => uptoBulkAll elems + uptoBulkAll spare + 1
  | .agg parts => uptoBulkAll parts + 1
  | .iface _ d => uptoBulk d + 1
  | .map entries => uptoBulkEntries entries + 1
  | .held _ => 1
def uptoBulkAll {H : Type} : List (DataW H) → Nat
  | [] => 0
  | d :: r => uptoBulk d + uptoBulkAll r
def uptoBulkEntries {H : Type} : List (Lit × DataW H) → Nat
  | [] => 0
  | x :: r => uptoBulkEntry x + uptoBulkEntries r
def uptoBulkEntry {H : Type} : Lit × DataW H → Nat
  | (.string bytes, d) => bytes.length + uptoBulk d + 1
  | (_, d) => uptoBulk d + 1
 end
def uptoSmall : (H : Type) → List (DataW H) → Bool := fun _ ds => decide (uptoBulkAll ds ≤ 1048576)
def OpenSpec.upto (s : _root_.Go.ChangeSpec) : _root_.Go.OpenSpec := { _root_.Go.OpenSpec.ofChange s with cond := some uptoSmall }

/-- 'pointillistlaw12.FlatPieces', WHERE WHAT IT READS IS OF BULK AT MOST 1048576: true; the input reads as it did. -/
def flatPiecesUptoRow : OpenClaim := { program := "ytgkjbmejfcijkaa", sum := "a8a043544297ec1a24171c54c3d3799fcfa94eeb7b2a332140159addf5486477", func := "pointillist/pointillistlaw12.FlatPieces", spec := "flatPieces", inPlace := ["math/bits.Add64"], unfollowed := true, recurses := true, named := ["math/bits.divideError", "math/bits.overflowError"], apart := false, narrowed := true }
def FlatPiecesUptoSaid : Prop := flatPiecesUptoRow.holds Try.pinned (OpenSpec.upto flatPiecesSpec)

/-- 'pointillistlaw12.FlatChords', WHERE WHAT IT READS IS OF BULK AT MOST 1048576: true; the input reads as it did. -/
def flatChordsUptoRow : OpenClaim := { program := "ytgkjbmejfcijkaa", sum := "a8a043544297ec1a24171c54c3d3799fcfa94eeb7b2a332140159addf5486477", func := "pointillist/pointillistlaw12.FlatChords", spec := "flatChords", inPlace := ["math/bits.Add64"], unfollowed := true, recurses := true, named := ["math/bits.divideError", "math/bits.overflowError"], apart := false, narrowed := true }
def FlatChordsUptoSaid : Prop := flatChordsUptoRow.holds Try.pinned (OpenSpec.upto flatChordsSpec)

/-- 'pointillistlaw12.FlatJoins', WHERE WHAT IT READS IS OF BULK AT MOST 1048576: true; the input reads as it did. -/
def flatJoinsUptoRow : OpenClaim := { program := "ytgkjbmejfcijkaa", sum := "a8a043544297ec1a24171c54c3d3799fcfa94eeb7b2a332140159addf5486477", func := "pointillist/pointillistlaw12.FlatJoins", spec := "flatJoins", inPlace := ["math/bits.Add64"], unfollowed := true, recurses := true, named := ["math/bits.divideError", "math/bits.overflowError"], apart := false, narrowed := true }
def FlatJoinsUptoSaid : Prop := flatJoinsUptoRow.holds Try.pinned (OpenSpec.upto flatJoinsSpec)

/-- 'pointillistlaw12.FlatNear', WHERE WHAT IT READS IS OF BULK AT MOST 1048576: true; the input reads as it did. -/
def flatNearUptoRow : OpenClaim := { program := "ytgkjbmejfcijkaa", sum := "a8a043544297ec1a24171c54c3d3799fcfa94eeb7b2a332140159addf5486477", func := "pointillist/pointillistlaw12.FlatNear", spec := "flatNear", inPlace := ["math/bits.Add64"], unfollowed := true, recurses := true, named := ["math/bits.divideError", "math/bits.overflowError"], apart := false, narrowed := true }
def FlatNearUptoSaid : Prop := flatNearUptoRow.holds Try.pinned (OpenSpec.upto flatNearSpec)

/-- 'pointillistlaw12.FlatBox', WHERE WHAT IT READS IS OF BULK AT MOST 1048576: true; the input reads as it did. -/
def flatBoxUptoRow : OpenClaim := { program := "ytgkjbmejfcijkaa", sum := "a8a043544297ec1a24171c54c3d3799fcfa94eeb7b2a332140159addf5486477", func := "pointillist/pointillistlaw12.FlatBox", spec := "flatBox", inPlace := ["math/bits.Add64"], unfollowed := true, recurses := true, named := ["math/bits.divideError", "math/bits.overflowError"], apart := false, narrowed := true }
def FlatBoxUptoSaid : Prop := flatBoxUptoRow.holds Try.pinned (OpenSpec.upto flatBoxSpec)

end Rows
end Go.Proofs.Ytgkjbmejfcijkaa
