/-
  DERIVED. GIVEN WITH THE SEED: THE CARDS: each row of YtgiibcnakiggaaaDoorRows.lean that lists a variable, with what it lists TIED to the program's text (the seventh form; the later family's looks); each row that meets fmt, with fmt's text TOLD by the authors' own Lean function (tested against real Go, not proved from fmt's source: count such statements apart). THE CARD IS WHAT COUNTS. Prove the row's statement (the work); the ties are given (YtgiibcnakiggaaaDoorTie.lean); close each card by the builder's one call (the guide's Derived/Test/ToyasCard.lean, 'card_holds'). Laid BY PROGRAM, IN A SANDBOX (cutbox-door.mjs). By AI agents, Wed Nov 11 2026. No macro, syntax, notation, axiom, sorry.
-/
import Derived.Test.YtgiibcnakiggaaaDoorRows
import GoSem.ClaimSeven
namespace Go.Proofs.YtgiibcnakiggaaaDoor
namespace Rows

/-- THE TIED CARD OF 'pointillistlaw06.PathAll'. -/
def pathAllCard : Claim7 := { stood := { row := pathAllRow, standIns := [], harness := (true, "a91fadd6773017aeedbe330bc28f304e2ff77a55a35594fb0a3b28a178ac557c"), looks := false }, kinds := [], alts := [], laidByText := true, laidKinds := [.data, .data, .data, .data, .pinned], laidTests := true, laidLooks := .later }
def PathAllCardSaid : Prop := Claim7.holds Tryd.pinned (.plain (OpenSpec.ofChange pathAllSpec)) pathAllCard

/-- THE TIED CARD OF 'pointillistlaw07.NormMoves'. -/
def normMovesCard : Claim7 := { stood := { row := normMovesRow, standIns := [], harness := (true, "a91fadd6773017aeedbe330bc28f304e2ff77a55a35594fb0a3b28a178ac557c"), looks := false }, kinds := [], alts := [], laidByText := true, laidKinds := [.data, .data, .data, .data, .pinned], laidTests := true, laidLooks := .later }
def NormMovesCardSaid : Prop := Claim7.holds Tryd.pinned (.plain (OpenSpec.ofChange normMovesSpec)) normMovesCard

/-- THE TIED CARD OF 'pointillistlaw07.NormSplits'. -/
def normSplitsCard : Claim7 := { stood := { row := normSplitsRow, standIns := [], harness := (true, "a91fadd6773017aeedbe330bc28f304e2ff77a55a35594fb0a3b28a178ac557c"), looks := false }, kinds := [], alts := [], laidByText := true, laidKinds := [.data, .data, .data, .data, .pinned], laidTests := true, laidLooks := .later }
def NormSplitsCardSaid : Prop := Claim7.holds Tryd.pinned (.plain (OpenSpec.ofChange normSplitsSpec)) normSplitsCard

/-- THE SECOND FORM's CARD OF 'pointillistlaw06.PathAll'. -/
def pathAllUptoCard : Claim7 := { stood := { row := pathAllUptoRow, standIns := [], harness := (true, "a91fadd6773017aeedbe330bc28f304e2ff77a55a35594fb0a3b28a178ac557c"), looks := false }, kinds := [], alts := [], laidByText := true, laidKinds := [.data, .data, .data, .data, .pinned], laidTests := true, laidLooks := .later }
def PathAllUptoCardSaid : Prop := Claim7.holds Tryd.pinned (.plain (OpenSpec.upto pathAllSpec)) pathAllUptoCard

/-- THE SECOND FORM's CARD OF 'pointillistlaw07.NormMoves'. -/
def normMovesUptoCard : Claim7 := { stood := { row := normMovesUptoRow, standIns := [], harness := (true, "a91fadd6773017aeedbe330bc28f304e2ff77a55a35594fb0a3b28a178ac557c"), looks := false }, kinds := [], alts := [], laidByText := true, laidKinds := [.data, .data, .data, .data, .pinned], laidTests := true, laidLooks := .later }
def NormMovesUptoCardSaid : Prop := Claim7.holds Tryd.pinned (.plain (OpenSpec.upto normMovesSpec)) normMovesUptoCard

/-- THE SECOND FORM's CARD OF 'pointillistlaw07.NormSplits'. -/
def normSplitsUptoCard : Claim7 := { stood := { row := normSplitsUptoRow, standIns := [], harness := (true, "a91fadd6773017aeedbe330bc28f304e2ff77a55a35594fb0a3b28a178ac557c"), looks := false }, kinds := [], alts := [], laidByText := true, laidKinds := [.data, .data, .data, .data, .pinned], laidTests := true, laidLooks := .later }
def NormSplitsUptoCardSaid : Prop := Claim7.holds Tryd.pinned (.plain (OpenSpec.upto normSplitsSpec)) normSplitsUptoCard
end Rows
end Go.Proofs.YtgiibcnakiggaaaDoor
