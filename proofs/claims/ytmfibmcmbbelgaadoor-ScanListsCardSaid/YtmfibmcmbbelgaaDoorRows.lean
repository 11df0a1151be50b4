/-
  NARROWER THAN 'FOR EVERY INPUT', by the rows' own cells (each row's printed sentence says how): ScanActs: laid · ScanGaps: laid · ScanNever: laid · ScanLists: laid.
  DERIVED. THE GIVEN ROWS OF THIS SEAT. 4 by the template 'for every input the law returns true; each argument reads behind the call as it read before'; 0 by the template 'total and deterministic' (their statements: YtmfibmcmbbelgaaDoorTotals.lean).
  GIVEN WITH THE SEED: the statements are not yours to turn. If you find one false, say at which input.
  Laid BY PROGRAM, IN A SANDBOX (cutbox-rows.mjs): the forced cells as the released guide's own fill.sh prints them over the translation 571145d48aad1551… (all of the seat's roots in one cut). By AI agents, Wed Nov 11 2026. No macro, syntax, notation, axiom, sorry.
-/
import Derived.Test.YtmfibmcmbbelgaaDoorChecked
import GoSem.PinnedTables
import GoSem.Claim
import GoSem.ClaimJoined
import GoSem.ClaimMapViews
import Derived.JoinedTies
import Derived.KernelRfl
namespace Go.Proofs.YtmfibmcmbbelgaaDoor
/- THE CELL 'sum', in the pinned program and in every row, IS THE sha256 OF THE DUMP (.gsa) THAT YtmfibmcmbbelgaaDoorProg.lean LOADS. Nothing in Lean hashes anything: it is a label: what it is worth is what the hold of that sum in a sandbox is worth. -/
noncomputable def Tryd.pinned : Pinned := { name := "ytmfibmcmbbelgaadoor", sum := "571145d48aad155158f34b44796b5b7573d49c36ef187d1f5d2110d23c459db2", checked := Tryd.checked }
namespace Rows
def none {H : Type} : Left H := { results := [], args := [] }

/- WHAT THE LISTED PACKAGE-LEVEL VARIABLES READ AS WHEN THE CALL BEGINS. Each datum BY PROGRAM (the guide's laid-datum.mjs) off the statement by which the dump's own 'gosem.cut.vars' lays the variable. In a bare row this is a premise. The card (YtmfibmcmbbelgaaDoorCards.lean) ties it to the program's text. -/
def laid_unicode_utf8_acceptRanges {H : Type} : DataW H := .agg [.agg [.lit (.int .u8 128), .lit (.int .u8 191)], .agg [.lit (.int .u8 160), .lit (.int .u8 191)], .agg [.lit (.int .u8 128), .lit (.int .u8 159)], .agg [.lit (.int .u8 144), .lit (.int .u8 191)], .agg [.lit (.int .u8 128), .lit (.int .u8 143)], .agg [.lit (.int .u8 0), .lit (.int .u8 0)], .agg [.lit (.int .u8 0), .lit (.int .u8 0)], .agg [.lit (.int .u8 0), .lit (.int .u8 0)], .agg [.lit (.int .u8 0), .lit (.int .u8 0)], .agg [.lit (.int .u8 0), .lit (.int .u8 0)], .agg [.lit (.int .u8 0), .lit (.int .u8 0)], .agg [.lit (.int .u8 0), .lit (.int .u8 0)], .agg [.lit (.int .u8 0), .lit (.int .u8 0)], .agg [.lit (.int .u8 0), .lit (.int .u8 0)], .agg [.lit (.int .u8 0), .lit (.int .u8 0)], .agg [.lit (.int .u8 0), .lit (.int .u8 0)]]
def laid_pointillist_dec_follows {H : Type} : DataW H := .agg [.agg [.lit (.int .i64 0), .lit (.int .i64 0), .lit (.int .i64 0), .lit (.int .i64 0)], .agg [.lit (.int .i64 3), .lit (.int .i64 2), .lit (.int .i64 4), .lit (.int .i64 0)], .agg [.lit (.int .i64 3), .lit (.int .i64 0), .lit (.int .i64 4), .lit (.int .i64 0)], .agg [.lit (.int .i64 3), .lit (.int .i64 0), .lit (.int .i64 5), .lit (.int .i64 6)], .agg [.lit (.int .i64 5), .lit (.int .i64 0), .lit (.int .i64 0), .lit (.int .i64 0)], .agg [.lit (.int .i64 5), .lit (.int .i64 0), .lit (.int .i64 0), .lit (.int .i64 6)], .agg [.lit (.int .i64 8), .lit (.int .i64 7), .lit (.int .i64 0), .lit (.int .i64 0)], .agg [.lit (.int .i64 8), .lit (.int .i64 0), .lit (.int .i64 0), .lit (.int .i64 0)], .agg [.lit (.int .i64 8), .lit (.int .i64 0), .lit (.int .i64 0), .lit (.int .i64 0)]]
def laid_pointillist_scan_isBlank {H : Type} : DataW H := .agg [.lit (.bool false), .lit (.bool false), .lit (.bool false), .lit (.bool false), .lit (.bool false), .lit (.bool false), .lit (.bool false), .lit (.bool false), .lit (.bool false), .lit (.bool true), .lit (.bool true), .lit (.bool false), .lit (.bool false), .lit (.bool true), .lit (.bool false), .lit (.bool false), .lit (.bool false), .lit (.bool false), .lit (.bool false), .lit (.bool false), .lit (.bool false), .lit (.bool false), .lit (.bool false), .lit (.bool false), .lit (.bool false), .lit (.bool false), .lit (.bool false), .lit (.bool false), .lit (.bool false), .lit (.bool false), .lit (.bool false), .lit (.bool false), .lit (.bool true)]
/-- One of Go's own tables, pinned by name: the form's constant. -/
def laid_unicode_utf8_first : DataW Unit := Go.Pinned.utf8First

/-- 'pointillistlaw05.ScanActs': WHATEVER THE INPUT: true; the input reads as it did. -/
def scanActsSpec : ChangeSpec := { name := "scanActs", fn := fun _ => fun
  | [d1, d2] => { results := [.lit (.bool true)], args := [d1, d2] }
  | _ => none }
def scanActsRow : OpenClaim := { program := "ytmfibmcmbbelgaadoor", sum := "571145d48aad155158f34b44796b5b7573d49c36ef187d1f5d2110d23c459db2", func := "pointillist/pointillistlaw05.ScanActs", spec := "scanActs", inPlace := ["internal/bytealg.IndexByteString", "internal/bytealg.IndexString"], unfollowed := true, recurses := true, named := ["pointillist/dec.follows", "unicode/utf8.first", "unicode/utf8.acceptRanges", "internal/bytealg.MaxLen", "pointillist/scan.isBlank"], apart := false, laid := [("unicode/utf8.acceptRanges", laid_unicode_utf8_acceptRanges), ("pointillist/dec.follows", laid_pointillist_dec_follows), ("pointillist/scan.isBlank", laid_pointillist_scan_isBlank), ("unicode/utf8.first", laid_unicode_utf8_first)] }
def ScanActsSaid : Prop := scanActsRow.holds Tryd.pinned (OpenSpec.ofChange scanActsSpec)

/-- ITS FALSE NEIGHBOUR: 'it returns false'. Refute it at one input. -/
def scanActsWrong : ChangeSpec := { name := "scanActs", fn := fun _ => fun
  | [d1, d2] => { results := [.lit (.bool false)], args := [d1, d2] }
  | _ => none }
def ScanActsWrongFalsely : Prop := scanActsRow.holds Tryd.pinned (OpenSpec.ofChange scanActsWrong)

/-- 'pointillistlaw05.ScanGaps': WHATEVER THE INPUT: true; the input reads as it did. -/
def scanGapsSpec : ChangeSpec := { name := "scanGaps", fn := fun _ => fun
  | [d] => { results := [.lit (.bool true)], args := [d] }
  | _ => none }
def scanGapsRow : OpenClaim := { program := "ytmfibmcmbbelgaadoor", sum := "571145d48aad155158f34b44796b5b7573d49c36ef187d1f5d2110d23c459db2", func := "pointillist/pointillistlaw05.ScanGaps", spec := "scanGaps", inPlace := ["internal/bytealg.IndexByteString", "internal/bytealg.IndexString"], unfollowed := true, recurses := true, named := ["pointillist/dec.follows", "unicode/utf8.first", "unicode/utf8.acceptRanges", "internal/bytealg.MaxLen", "pointillist/scan.isBlank"], apart := false, laid := [("unicode/utf8.acceptRanges", laid_unicode_utf8_acceptRanges), ("pointillist/dec.follows", laid_pointillist_dec_follows), ("pointillist/scan.isBlank", laid_pointillist_scan_isBlank), ("unicode/utf8.first", laid_unicode_utf8_first)] }
def ScanGapsSaid : Prop := scanGapsRow.holds Tryd.pinned (OpenSpec.ofChange scanGapsSpec)

/-- ITS FALSE NEIGHBOUR: 'it returns false'. Refute it at one input. -/
def scanGapsWrong : ChangeSpec := { name := "scanGaps", fn := fun _ => fun
  | [d] => { results := [.lit (.bool false)], args := [d] }
  | _ => none }
def ScanGapsWrongFalsely : Prop := scanGapsRow.holds Tryd.pinned (OpenSpec.ofChange scanGapsWrong)

/-- 'pointillistlaw05.ScanNever': WHATEVER THE INPUT: true; the input reads as it did. -/
def scanNeverSpec : ChangeSpec := { name := "scanNever", fn := fun _ => fun
  | [d1, d2] => { results := [.lit (.bool true)], args := [d1, d2] }
  | _ => none }
def scanNeverRow : OpenClaim := { program := "ytmfibmcmbbelgaadoor", sum := "571145d48aad155158f34b44796b5b7573d49c36ef187d1f5d2110d23c459db2", func := "pointillist/pointillistlaw05.ScanNever", spec := "scanNever", inPlace := ["internal/bytealg.IndexByteString", "internal/bytealg.IndexString"], unfollowed := true, recurses := true, named := ["pointillist/dec.follows", "unicode/utf8.first", "unicode/utf8.acceptRanges", "internal/bytealg.MaxLen", "pointillist/scan.isBlank"], apart := false, laid := [("unicode/utf8.acceptRanges", laid_unicode_utf8_acceptRanges), ("pointillist/dec.follows", laid_pointillist_dec_follows), ("pointillist/scan.isBlank", laid_pointillist_scan_isBlank), ("unicode/utf8.first", laid_unicode_utf8_first)] }
def ScanNeverSaid : Prop := scanNeverRow.holds Tryd.pinned (OpenSpec.ofChange scanNeverSpec)

/-- ITS FALSE NEIGHBOUR: 'it returns false'. Refute it at one input. -/
def scanNeverWrong : ChangeSpec := { name := "scanNever", fn := fun _ => fun
  | [d1, d2] => { results := [.lit (.bool false)], args := [d1, d2] }
  | _ => none }
def ScanNeverWrongFalsely : Prop := scanNeverRow.holds Tryd.pinned (OpenSpec.ofChange scanNeverWrong)

/-- 'pointillistlaw05.ScanLists': WHATEVER THE INPUT: true; the input reads as it did. -/
def scanListsSpec : ChangeSpec := { name := "scanLists", fn := fun _ => fun
  | [d1, d2] => { results := [.lit (.bool true)], args := [d1, d2] }
  | _ => none }
def scanListsRow : OpenClaim := { program := "ytmfibmcmbbelgaadoor", sum := "571145d48aad155158f34b44796b5b7573d49c36ef187d1f5d2110d23c459db2", func := "pointillist/pointillistlaw05.ScanLists", spec := "scanLists", inPlace := ["internal/bytealg.IndexByteString", "internal/bytealg.IndexString"], unfollowed := true, recurses := true, named := ["pointillist/dec.follows", "unicode/utf8.first", "unicode/utf8.acceptRanges", "internal/bytealg.MaxLen", "pointillist/scan.isBlank"], apart := false, laid := [("unicode/utf8.acceptRanges", laid_unicode_utf8_acceptRanges), ("pointillist/dec.follows", laid_pointillist_dec_follows), ("pointillist/scan.isBlank", laid_pointillist_scan_isBlank), ("unicode/utf8.first", laid_unicode_utf8_first)] }
def ScanListsSaid : Prop := scanListsRow.holds Tryd.pinned (OpenSpec.ofChange scanListsSpec)

/-- ITS FALSE NEIGHBOUR: 'it returns false'. Refute it at one input. -/
def scanListsWrong : ChangeSpec := { name := "scanLists", fn := fun _ => fun
  | [d1, d2] => { results := [.lit (.bool false)], args := [d1, d2] }
  | _ => none }
def ScanListsWrongFalsely : Prop := scanListsRow.holds Tryd.pinned (OpenSpec.ofChange scanListsWrong)

/- THE SECOND FORM. 'bulk': how many values and letters a reading holds, each counted each time it is reached (what is shared counts as often as it is met; a slice's spare places count too). A statement '..UptoSaid' is the law's where the arguments, and the package variables that the reading takes, are together of bulk at most 1048576: NARROWER than '..Said'. Prove '..Said' where nothing that the law and all that it calls make is longer than what came in: it says more and counts as full. Else prove '..UptoSaid'. A law counts once. -/
mutual
def uptoBulk {H : Type} : DataW H → Nat
  | .lit (.string bytes) => bytes.length + 1
  | .lit _ => 1
  | .nil => 1
  | .ptr d => uptoBulk d + 1
  | .slice elems spare => uptoBulkAll elems + uptoBulkAll spare + 1
  | .agg parts => uptoBulkAll parts + 1
  | .iface _ d => uptoBulk d + 1
  | .map entries => uptoBulkEntries entries + 1
  | .held _ => 1
def uptoBulkAll {H : Type} : List (DataW H) → Nat
  | [] => 0
  | d :: r => uptoBulk d + uptoBulkAll r
def uptoBulkEntries {H : Type} : List (Lit × DataW H) → Nat
  | [] => 0
  | x :: r => uptoBulkEntry x + uptoBulkEntries r
def uptoBulkEntry {H : Type} : Lit × DataW H → Nat
  | (.string bytes, d) => bytes.length + uptoBulk d + 1
  | (_, d) => uptoBulk d + 1
 end
def uptoSmall : (H : Type) → List (DataW H) → Bool := fun _ ds => decide (uptoBulkAll ds ≤ 1048576)
def OpenSpec.upto (s : _root_.Go.ChangeSpec) : _root_.Go.OpenSpec := { _root_.Go.OpenSpec.ofChange s with cond := some uptoSmall }

/-- 'pointillistlaw05.ScanActs', WHERE WHAT IT READS IS OF BULK AT MOST 1048576: true; the input reads as it did. -/
def scanActsUptoRow : OpenClaim := { program := "ytmfibmcmbbelgaadoor", sum := "571145d48aad155158f34b44796b5b7573d49c36ef187d1f5d2110d23c459db2", func := "pointillist/pointillistlaw05.ScanActs", spec := "scanActs", inPlace := ["internal/bytealg.IndexByteString", "internal/bytealg.IndexString"], unfollowed := true, recurses := true, named := ["pointillist/dec.follows", "unicode/utf8.first", "unicode/utf8.acceptRanges", "internal/bytealg.MaxLen", "pointillist/scan.isBlank"], apart := false, laid := [("unicode/utf8.acceptRanges", laid_unicode_utf8_acceptRanges), ("pointillist/dec.follows", laid_pointillist_dec_follows), ("pointillist/scan.isBlank", laid_pointillist_scan_isBlank), ("unicode/utf8.first", laid_unicode_utf8_first)], narrowed := true }
def ScanActsUptoSaid : Prop := scanActsUptoRow.holds Tryd.pinned (OpenSpec.upto scanActsSpec)

/-- 'pointillistlaw05.ScanGaps', WHERE WHAT IT READS IS OF BULK AT MOST 1048576: true; the input reads as it did. -/
def scanGapsUptoRow : OpenClaim := { program := "ytmfibmcmbbelgaadoor", sum := "571145d48aad155158f34b44796b5b7573d49c36ef187d1f5d2110d23c459db2", func := "pointillist/pointillistlaw05.ScanGaps", spec := "scanGaps", inPlace := ["internal/bytealg.IndexByteString", "internal/bytealg.IndexString"], unfollowed := true, recurses := true, named := ["pointillist/dec.follows", "unicode/utf8.first", "unicode/utf8.acceptRanges", "internal/bytealg.MaxLen", "pointillist/scan.isBlank"], apart := false, laid := [("unicode/utf8.acceptRanges", laid_unicode_utf8_acceptRanges), ("pointillist/dec.follows", laid_pointillist_dec_follows), ("pointillist/scan.isBlank", laid_pointillist_scan_isBlank), ("unicode/utf8.first", laid_unicode_utf8_first)], narrowed := true }
def ScanGapsUptoSaid : Prop := scanGapsUptoRow.holds Tryd.pinned (OpenSpec.upto scanGapsSpec)

/-- 'pointillistlaw05.ScanNever', WHERE WHAT IT READS IS OF BULK AT MOST 1048576: true; the input reads as it did. -/
def scanNeverUptoRow : OpenClaim := { program := "ytmfibmcmbbelgaadoor", sum := "571145d48aad155158f34b44796b5b7573d49c36ef187d1f5d2110d23c459db2", func := "pointillist/pointillistlaw05.ScanNever", spec := "scanNever", inPlace := ["internal/bytealg.IndexByteString", "internal/bytealg.IndexString"], unfollowed := true, recurses := true, named := ["pointillist/dec.follows", "unicode/utf8.first", "unicode/utf8.acceptRanges", "internal/bytealg.MaxLen", "pointillist/scan.isBlank"], apart := false, laid := [("unicode/utf8.acceptRanges", laid_unicode_utf8_acceptRanges), ("pointillist/dec.follows", laid_pointillist_dec_follows), ("pointillist/scan.isBlank", laid_pointillist_scan_isBlank), ("unicode/utf8.first", laid_unicode_utf8_first)], narrowed := true }
def ScanNeverUptoSaid : Prop := scanNeverUptoRow.holds Tryd.pinned (OpenSpec.upto scanNeverSpec)

/-- 'pointillistlaw05.ScanLists', WHERE WHAT IT READS IS OF BULK AT MOST 1048576: true; the input reads as it did. -/
def scanListsUptoRow : OpenClaim := { program := "ytmfibmcmbbelgaadoor", sum := "571145d48aad155158f34b44796b5b7573d49c36ef187d1f5d2110d23c459db2", func := "pointillist/pointillistlaw05.ScanLists", spec := "scanLists", inPlace := ["internal/bytealg.IndexByteString", "internal/bytealg.IndexString"], unfollowed := true, recurses := true, named := ["pointillist/dec.follows", "unicode/utf8.first", "unicode/utf8.acceptRanges", "internal/bytealg.MaxLen", "pointillist/scan.isBlank"], apart := false, laid := [("unicode/utf8.acceptRanges", laid_unicode_utf8_acceptRanges), ("pointillist/dec.follows", laid_pointillist_dec_follows), ("pointillist/scan.isBlank", laid_pointillist_scan_isBlank), ("unicode/utf8.first", laid_unicode_utf8_first)], narrowed := true }
def ScanListsUptoSaid : Prop := scanListsUptoRow.holds Tryd.pinned (OpenSpec.upto scanListsSpec)

end Rows
end Go.Proofs.YtmfibmcmbbelgaaDoor
