/-
  NARROWER THAN 'FOR EVERY INPUT', by the rows' own cells (each row's printed sentence says how): OutlineEdges: laid · OutlineCloses: laid · OutlineBox: laid · OutlineMoves: laid.
  DERIVED. THE GIVEN ROWS OF THIS SEAT. 4 by the template 'for every input the law returns true; each argument reads behind the call as it read before'; 0 by the template 'total and deterministic' (their statements: YtbjabclgekkpaaaGreatDoorTotals.lean).
  GIVEN WITH THE SEED: the statements are not yours to turn. If you find one false, say at which input.
  Laid BY PROGRAM, IN A SANDBOX (cutbox-rows.mjs): the forced cells as the released guide's own fill.sh prints them over the translation 0e93a0b1590a4c56… (all of the seat's roots in one cut). By AI agents, Wed Nov 11 2026. No macro, syntax, notation, axiom, sorry.
-/
import Derived.Test.YtbjabclgekkpaaaGreatDoorChecked
import GoSem.PinnedTables
import GoSem.Claim
import GoSem.ClaimJoined
import GoSem.ClaimMapViews
import Derived.JoinedTies
import Derived.KernelRfl
namespace Go.Proofs.YtbjabclgekkpaaaGreatDoor
/- THE CELL 'sum', in the pinned program and in every row, IS THE sha256 OF THE DUMP (.gsa) THAT YtbjabclgekkpaaaGreatDoorProg.lean LOADS. Nothing in Lean hashes anything: it is a label: what it is worth is what the hold of that sum in a sandbox is worth. -/
noncomputable def Tryz.pinned : Pinned := { name := "ytbjabclgekkpaaagreatdoor", sum := "0e93a0b1590a4c56acf32c8f08949879fa61d85c7b621301befae04410fc1d0a", checked := Tryz.checked }
namespace Rows
def none {H : Type} : Left H := { results := [], args := [] }

/- WHAT THE LISTED PACKAGE-LEVEL VARIABLES READ AS WHEN THE CALL BEGINS. Each datum BY PROGRAM (the guide's laid-datum.mjs) off the statement by which the dump's own 'gosem.cut.vars' lays the variable. In a bare row this is a premise. The card (YtbjabclgekkpaaaGreatDoorCards.lean) ties it to the program's text. -/
def laid_unicode_utf8_acceptRanges {H : Type} : DataW H := .agg [.agg [.lit (.int .u8 128), .lit (.int .u8 191)], .agg [.lit (.int .u8 160), .lit (.int .u8 191)], .agg [.lit (.int .u8 128), .lit (.int .u8 159)], .agg [.lit (.int .u8 144), .lit (.int .u8 191)], .agg [.lit (.int .u8 128), .lit (.int .u8 143)], .agg [.lit (.int .u8 0), .lit (.int .u8 0)], .agg [.lit (.int .u8 0), .lit (.int .u8 0)], .agg [.lit (.int .u8 0), .lit (.int .u8 0)], .agg [.lit (.int .u8 0), .lit (.int .u8 0)], .agg [.lit (.int .u8 0), .lit (.int .u8 0)], .agg [.lit (.int .u8 0), .lit (.int .u8 0)], .agg [.lit (.int .u8 0), .lit (.int .u8 0)], .agg [.lit (.int .u8 0), .lit (.int .u8 0)], .agg [.lit (.int .u8 0), .lit (.int .u8 0)], .agg [.lit (.int .u8 0), .lit (.int .u8 0)], .agg [.lit (.int .u8 0), .lit (.int .u8 0)]]
def laid_pointillist_dec_follows {H : Type} : DataW H := .agg [.agg [.lit (.int .i64 0), .lit (.int .i64 0), .lit (.int .i64 0), .lit (.int .i64 0)], .agg [.lit (.int .i64 3), .lit (.int .i64 2), .lit (.int .i64 4), .lit (.int .i64 0)], .agg [.lit (.int .i64 3), .lit (.int .i64 0), .lit (.int .i64 4), .lit (.int .i64 0)], .agg [.lit (.int .i64 3), .lit (.int .i64 0), .lit (.int .i64 5), .lit (.int .i64 6)], .agg [.lit (.int .i64 5), .lit (.int .i64 0), .lit (.int .i64 0), .lit (.int .i64 0)], .agg [.lit (.int .i64 5), .lit (.int .i64 0), .lit (.int .i64 0), .lit (.int .i64 6)], .agg [.lit (.int .i64 8), .lit (.int .i64 7), .lit (.int .i64 0), .lit (.int .i64 0)], .agg [.lit (.int .i64 8), .lit (.int .i64 0), .lit (.int .i64 0), .lit (.int .i64 0)], .agg [.lit (.int .i64 8), .lit (.int .i64 0), .lit (.int .i64 0), .lit (.int .i64 0)]]
def laid_pointillist_scan_isBlank {H : Type} : DataW H := .agg [.lit (.bool false), .lit (.bool false), .lit (.bool false), .lit (.bool false), .lit (.bool false), .lit (.bool false), .lit (.bool false), .lit (.bool false), .lit (.bool false), .lit (.bool true), .lit (.bool true), .lit (.bool false), .lit (.bool false), .lit (.bool true), .lit (.bool false), .lit (.bool false), .lit (.bool false), .lit (.bool false), .lit (.bool false), .lit (.bool false), .lit (.bool false), .lit (.bool false), .lit (.bool false), .lit (.bool false), .lit (.bool false), .lit (.bool false), .lit (.bool false), .lit (.bool false), .lit (.bool false), .lit (.bool false), .lit (.bool false), .lit (.bool false), .lit (.bool true)]
def laid_pointillist_path_rows {H : Type} : DataW H := .agg [.agg [.lit (.string [77, 109, 76, 108, 84, 116]), .lit (.string [110, 110])], .agg [.lit (.string [72, 104, 86, 118]), .lit (.string [110])], .agg [.lit (.string [67, 99]), .lit (.string [110, 110, 110, 110, 110, 110])], .agg [.lit (.string [83, 115, 81, 113]), .lit (.string [110, 110, 110, 110])], .agg [.lit (.string [65, 97]), .lit (.string [114, 114, 110, 70, 102, 110, 110])], .agg [.lit (.string [90, 122]), .lit (.string [])]]
/-- One of Go's own tables, pinned by name: the form's constant. -/
def laid_unicode_utf8_first : DataW Unit := Go.Pinned.utf8First

/-- 'pointillistlaw13.OutlineEdges': WHATEVER THE INPUT: true; the input reads as it did. -/
def outlineEdgesSpec : ChangeSpec := { name := "outlineEdges", fn := fun _ => fun
  | [d1, d2] => { results := [.lit (.bool true)], args := [d1, d2] }
  | _ => none }
def outlineEdgesRow : OpenClaim := { program := "ytbjabclgekkpaaagreatdoor", sum := "0e93a0b1590a4c56acf32c8f08949879fa61d85c7b621301befae04410fc1d0a", func := "pointillist/pointillistlaw13.OutlineEdges", spec := "outlineEdges", inPlace := ["internal/bytealg.IndexByteString", "internal/bytealg.IndexString", "math/bits.Add64"], unfollowed := true, recurses := true, named := ["pointillist/scan.isBlank", "pointillist/path.rows", "pointillist/dec.follows", "unicode/utf8.first", "unicode/utf8.acceptRanges", "internal/bytealg.MaxLen", "math/bits.divideError", "math/bits.overflowError"], plainKeys := false, apart := false, laid := [("unicode/utf8.acceptRanges", laid_unicode_utf8_acceptRanges), ("pointillist/dec.follows", laid_pointillist_dec_follows), ("pointillist/scan.isBlank", laid_pointillist_scan_isBlank), ("pointillist/path.rows", laid_pointillist_path_rows), ("unicode/utf8.first", laid_unicode_utf8_first)] }
def OutlineEdgesSaid : Prop := outlineEdgesRow.holds Tryz.pinned (OpenSpec.ofChange outlineEdgesSpec)

/-- ITS FALSE NEIGHBOUR: 'it returns false'. Refute it at one input. -/
def outlineEdgesWrong : ChangeSpec := { name := "outlineEdges", fn := fun _ => fun
  | [d1, d2] => { results := [.lit (.bool false)], args := [d1, d2] }
  | _ => none }
def OutlineEdgesWrongFalsely : Prop := outlineEdgesRow.holds Tryz.pinned (OpenSpec.ofChange outlineEdgesWrong)

/-- 'pointillistlaw13.OutlineCloses': WHATEVER THE INPUT: true; the input reads as it did. -/
def outlineClosesSpec : ChangeSpec := { name := "outlineCloses", fn := fun _ => fun
  | [d1, d2] => { results := [.lit (.bool true)], args := [d1, d2] }
  | _ => none }
def outlineClosesRow : OpenClaim := { program := "ytbjabclgekkpaaagreatdoor", sum := "0e93a0b1590a4c56acf32c8f08949879fa61d85c7b621301befae04410fc1d0a", func := "pointillist/pointillistlaw13.OutlineCloses", spec := "outlineCloses", inPlace := ["internal/bytealg.IndexByteString", "internal/bytealg.IndexString", "math/bits.Add64"], unfollowed := true, recurses := true, named := ["pointillist/scan.isBlank", "pointillist/path.rows", "pointillist/dec.follows", "unicode/utf8.first", "unicode/utf8.acceptRanges", "internal/bytealg.MaxLen", "math/bits.divideError", "math/bits.overflowError"], plainKeys := false, apart := false, laid := [("unicode/utf8.acceptRanges", laid_unicode_utf8_acceptRanges), ("pointillist/dec.follows", laid_pointillist_dec_follows), ("pointillist/scan.isBlank", laid_pointillist_scan_isBlank), ("pointillist/path.rows", laid_pointillist_path_rows), ("unicode/utf8.first", laid_unicode_utf8_first)] }
def OutlineClosesSaid : Prop := outlineClosesRow.holds Tryz.pinned (OpenSpec.ofChange outlineClosesSpec)

/-- ITS FALSE NEIGHBOUR: 'it returns false'. Refute it at one input. -/
def outlineClosesWrong : ChangeSpec := { name := "outlineCloses", fn := fun _ => fun
  | [d1, d2] => { results := [.lit (.bool false)], args := [d1, d2] }
  | _ => none }
def OutlineClosesWrongFalsely : Prop := outlineClosesRow.holds Tryz.pinned (OpenSpec.ofChange outlineClosesWrong)

/-- 'pointillistlaw13.OutlineBox': WHATEVER THE INPUT: true; the input reads as it did. -/
def outlineBoxSpec : ChangeSpec := { name := "outlineBox", fn := fun _ => fun
  | [d] => { results := [.lit (.bool true)], args := [d] }
  | _ => none }
def outlineBoxRow : OpenClaim := { program := "ytbjabclgekkpaaagreatdoor", sum := "0e93a0b1590a4c56acf32c8f08949879fa61d85c7b621301befae04410fc1d0a", func := "pointillist/pointillistlaw13.OutlineBox", spec := "outlineBox", inPlace := ["internal/bytealg.IndexByteString", "internal/bytealg.IndexString", "math/bits.Add64"], unfollowed := true, recurses := true, named := ["pointillist/scan.isBlank", "pointillist/path.rows", "pointillist/dec.follows", "unicode/utf8.first", "unicode/utf8.acceptRanges", "internal/bytealg.MaxLen", "math/bits.divideError", "math/bits.overflowError"], plainKeys := false, apart := false, laid := [("unicode/utf8.acceptRanges", laid_unicode_utf8_acceptRanges), ("pointillist/dec.follows", laid_pointillist_dec_follows), ("pointillist/scan.isBlank", laid_pointillist_scan_isBlank), ("pointillist/path.rows", laid_pointillist_path_rows), ("unicode/utf8.first", laid_unicode_utf8_first)] }
def OutlineBoxSaid : Prop := outlineBoxRow.holds Tryz.pinned (OpenSpec.ofChange outlineBoxSpec)

/-- ITS FALSE NEIGHBOUR: 'it returns false'. Refute it at one input. -/
def outlineBoxWrong : ChangeSpec := { name := "outlineBox", fn := fun _ => fun
  | [d] => { results := [.lit (.bool false)], args := [d] }
  | _ => none }
def OutlineBoxWrongFalsely : Prop := outlineBoxRow.holds Tryz.pinned (OpenSpec.ofChange outlineBoxWrong)

/-- 'pointillistlaw13.OutlineMoves': WHATEVER THE INPUT: true; the input reads as it did. -/
def outlineMovesSpec : ChangeSpec := { name := "outlineMoves", fn := fun _ => fun
  | [d1, d2] => { results := [.lit (.bool true)], args := [d1, d2] }
  | _ => none }
def outlineMovesRow : OpenClaim := { program := "ytbjabclgekkpaaagreatdoor", sum := "0e93a0b1590a4c56acf32c8f08949879fa61d85c7b621301befae04410fc1d0a", func := "pointillist/pointillistlaw13.OutlineMoves", spec := "outlineMoves", inPlace := ["internal/bytealg.IndexByteString", "internal/bytealg.IndexString", "math/bits.Add64"], unfollowed := true, recurses := true, named := ["pointillist/scan.isBlank", "pointillist/path.rows", "pointillist/dec.follows", "unicode/utf8.first", "unicode/utf8.acceptRanges", "internal/bytealg.MaxLen", "math/bits.divideError", "math/bits.overflowError"], plainKeys := false, apart := false, laid := [("unicode/utf8.acceptRanges", laid_unicode_utf8_acceptRanges), ("pointillist/dec.follows", laid_pointillist_dec_follows), ("pointillist/scan.isBlank", laid_pointillist_scan_isBlank), ("pointillist/path.rows", laid_pointillist_path_rows), ("unicode/utf8.first", laid_unicode_utf8_first)] }
def OutlineMovesSaid : Prop := outlineMovesRow.holds Tryz.pinned (OpenSpec.ofChange outlineMovesSpec)

/-- ITS FALSE NEIGHBOUR: 'it returns false'. Refute it at one input. -/
def outlineMovesWrong : ChangeSpec := { name := "outlineMoves", fn := fun _ => fun
  | [d1, d2] => { results := [.lit (.bool false)], args := [d1, d2] }
  | _ => none }
def OutlineMovesWrongFalsely : Prop := outlineMovesRow.holds Tryz.pinned (OpenSpec.ofChange outlineMovesWrong)

/- THE SECOND FORM. 'bulk': how many values and letters a reading holds, each counted each time it is reached (what is shared counts as often as it is met; a slice's spare places count too). A statement '..UptoSaid' is the law's where the arguments, and the package variables that the reading takes, are together of bulk at most 1048576: NARROWER than '..Said'. Prove '..Said' where nothing that the law and all that it calls make is longer than what came in: it says more and counts as full. Else prove '..UptoSaid'. A law counts once. -/
mutual
def uptoBulk {H : Type} : DataW H → Nat
  | .lit (.string bytes) => bytes.length + 1
  | .lit _ => 1
  | .nil => 1
  | .ptr d => uptoBulk d + 1
  | .slice elems spare => uptoBulkAll elems + uptoBulkAll spare + 1
  | .agg parts => uptoBulkAll parts + 1
  | .iface _ d => uptoBulk d + 1
  | .map entries => uptoBulkEntries entries + 1
  | .held _ => 1
def uptoBulkAll {H : Type} : List (DataW H) → Nat
  | [] => 0
  | d :: r => uptoBulk d + uptoBulkAll r
def uptoBulkEntries {H : Type} : List (Lit × DataW H) → Nat
  | [] => 0
  | x :: r => uptoBulkEntry x + uptoBulkEntries r
def uptoBulkEntry {H : Type} : Lit × DataW H → Nat
  | (.string bytes, d) => bytes.length + uptoBulk d + 1
  | (_, d) => uptoBulk d + 1
 end
def uptoSmall : (H : Type) → List (DataW H) → Bool := fun _ ds => decide (uptoBulkAll ds ≤ 1048576)
def OpenSpec.upto (s : _root_.Go.ChangeSpec) : _root_.Go.OpenSpec := { _root_.Go.OpenSpec.ofChange s with cond := some uptoSmall }

/-- 'pointillistlaw13.OutlineEdges', WHERE WHAT IT READS IS OF BULK AT MOST 1048576: true; the input reads as it did. -/
def outlineEdgesUptoRow : OpenClaim := { program := "ytbjabclgekkpaaagreatdoor", sum := "0e93a0b1590a4c56acf32c8f08949879fa61d85c7b621301befae04410fc1d0a", func := "pointillist/pointillistlaw13.OutlineEdges", spec := "outlineEdges", inPlace := ["internal/bytealg.IndexByteString", "internal/bytealg.IndexString", "math/bits.Add64"], unfollowed := true, recurses := true, named := ["pointillist/scan.isBlank", "pointillist/path.rows", "pointillist/dec.follows", "unicode/utf8.first", "unicode/utf8.acceptRanges", "internal/bytealg.MaxLen", "math/bits.divideError", "math/bits.overflowError"], plainKeys := false, apart := false, laid := [("unicode/utf8.acceptRanges", laid_unicode_utf8_acceptRanges), ("pointillist/dec.follows", laid_pointillist_dec_follows), ("pointillist/scan.isBlank", laid_pointillist_scan_isBlank), ("pointillist/path.rows", laid_pointillist_path_rows), ("unicode/utf8.first", laid_unicode_utf8_first)], narrowed := true }
def OutlineEdgesUptoSaid : Prop := outlineEdgesUptoRow.holds Tryz.pinned (OpenSpec.upto outlineEdgesSpec)

/-- 'pointillistlaw13.OutlineCloses', WHERE WHAT IT READS IS OF BULK AT MOST 1048576: true; the input reads as it did. -/
def outlineClosesUptoRow : OpenClaim := { program := "ytbjabclgekkpaaagreatdoor", sum := "0e93a0b1590a4c56acf32c8f08949879fa61d85c7b621301befae04410fc1d0a", func := "pointillist/pointillistlaw13.OutlineCloses", spec := "outlineCloses", inPlace := ["internal/bytealg.IndexByteString", "internal/bytealg.IndexString", "math/bits.Add64"], unfollowed := true, recurses := true, named := ["pointillist/scan.isBlank", "pointillist/path.rows", "pointillist/dec.follows", "unicode/utf8.first", "unicode/utf8.acceptRanges", "internal/bytealg.MaxLen", "math/bits.divideError", "math/bits.overflowError"], plainKeys := false, apart := false, laid := [("unicode/utf8.acceptRanges", laid_unicode_utf8_acceptRanges), ("pointillist/dec.follows", laid_pointillist_dec_follows), ("pointillist/scan.isBlank", laid_pointillist_scan_isBlank), ("pointillist/path.rows", laid_pointillist_path_rows), ("unicode/utf8.first", laid_unicode_utf8_first)], narrowed := true }
def OutlineClosesUptoSaid : Prop := outlineClosesUptoRow.holds Tryz.pinned (OpenSpec.upto outlineClosesSpec)

/-- 'pointillistlaw13.OutlineBox', WHERE WHAT IT READS IS OF BULK AT MOST 1048576: true; the input reads as it did. -/
def outlineBoxUptoRow : OpenClaim := { program := "ytbjabclgekkpaaagreatdoor", sum := "0e93a0b1590a4c56acf32c8f08949879fa61d85c7b621301befae04410fc1d0a", func := "pointillist/pointillistlaw13.OutlineBox", spec := "outlineBox", inPlace := ["internal/bytealg.IndexByteString", "internal/bytealg.IndexString", "math/bits.Add64"], unfollowed := true, recurses := true, named := ["pointillist/scan.isBlank", "pointillist/path.rows", "pointillist/dec.follows", "unicode/utf8.first", "unicode/utf8.acceptRanges", "internal/bytealg.MaxLen", "math/bits.divideError", "math/bits.overflowError"], plainKeys := false, apart := false, laid := [("unicode/utf8.acceptRanges", laid_unicode_utf8_acceptRanges), ("pointillist/dec.follows", laid_pointillist_dec_follows), ("pointillist/scan.isBlank", laid_pointillist_scan_isBlank), ("pointillist/path.rows", laid_pointillist_path_rows), ("unicode/utf8.first", laid_unicode_utf8_first)], narrowed := true }
def OutlineBoxUptoSaid : Prop := outlineBoxUptoRow.holds Tryz.pinned (OpenSpec.upto outlineBoxSpec)

/-- 'pointillistlaw13.OutlineMoves', WHERE WHAT IT READS IS OF BULK AT MOST 1048576: true; the input reads as it did. -/
def outlineMovesUptoRow : OpenClaim := { program := "ytbjabclgekkpaaagreatdoor", sum := "0e93a0b1590a4c56acf32c8f08949879fa61d85c7b621301befae04410fc1d0a", func := "pointillist/pointillistlaw13.OutlineMoves", spec := "outlineMoves", inPlace := ["internal/bytealg.IndexByteString", "internal/bytealg.IndexString", "math/bits.Add64"], unfollowed := true, recurses := true, named := ["pointillist/scan.isBlank", "pointillist/path.rows", "pointillist/dec.follows", "unicode/utf8.first", "unicode/utf8.acceptRanges", "internal/bytealg.MaxLen", "math/bits.divideError", "math/bits.overflowError"], plainKeys := false, apart := false, laid := [("unicode/utf8.acceptRanges", laid_unicode_utf8_acceptRanges), ("pointillist/dec.follows", laid_pointillist_dec_follows), ("pointillist/scan.isBlank", laid_pointillist_scan_isBlank), ("pointillist/path.rows", laid_pointillist_path_rows), ("unicode/utf8.first", laid_unicode_utf8_first)], narrowed := true }
def OutlineMovesUptoSaid : Prop := outlineMovesUptoRow.holds Tryz.pinned (OpenSpec.upto outlineMovesSpec)

end Rows
end Go.Proofs.YtbjabclgekkpaaaGreatDoor
