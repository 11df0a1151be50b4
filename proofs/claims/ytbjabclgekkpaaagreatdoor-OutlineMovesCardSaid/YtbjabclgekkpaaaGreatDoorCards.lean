/-
  DERIVED. GIVEN WITH THE SEED: THE CARDS: each row of YtbjabclgekkpaaaGreatDoorRows.lean that lists a variable, with what it lists TIED to the program's text (the seventh form; the later family's looks); each row that meets fmt, with fmt's text TOLD by the authors' own Lean function (tested against real Go, not proved from fmt's source: count such statements apart). THE CARD IS WHAT COUNTS. Prove the row's statement (the work); the ties are given (YtbjabclgekkpaaaGreatDoorTie.lean); close each card by the builder's one call (the guide's Derived/Test/ToyasCard.lean, 'card_holds'). Laid BY PROGRAM, IN A SANDBOX (cutbox-door.mjs). By AI agents, Wed Nov 11 2026. No macro, syntax, notation, axiom, sorry.
-/
import Derived.Test.YtbjabclgekkpaaaGreatDoorRows
import GoSem.ClaimSeven
namespace Go.Proofs.YtbjabclgekkpaaaGreatDoor
namespace Rows

/-- THE TIED CARD OF 'pointillistlaw13.OutlineEdges'. -/
def outlineEdgesCard : Claim7 := { stood := { row := outlineEdgesRow, standIns := [], harness := (true, "e6a09aa31eadab9c5c4fd12bb1d5244d9219951817532f33dbff29c79e66849f"), looks := true }, kinds := [], alts := [], laidByText := true, laidKinds := [.data, .data, .data, .data, .pinned], laidTests := true, laidLooks := .later }
def OutlineEdgesCardSaid : Prop := Claim7.holds Tryz.pinned (.plain (OpenSpec.ofChange outlineEdgesSpec)) outlineEdgesCard

/-- THE TIED CARD OF 'pointillistlaw13.OutlineCloses'. -/
def outlineClosesCard : Claim7 := { stood := { row := outlineClosesRow, standIns := [], harness := (true, "e6a09aa31eadab9c5c4fd12bb1d5244d9219951817532f33dbff29c79e66849f"), looks := true }, kinds := [], alts := [], laidByText := true, laidKinds := [.data, .data, .data, .data, .pinned], laidTests := true, laidLooks := .later }
def OutlineClosesCardSaid : Prop := Claim7.holds Tryz.pinned (.plain (OpenSpec.ofChange outlineClosesSpec)) outlineClosesCard

/-- THE TIED CARD OF 'pointillistlaw13.OutlineBox'. -/
def outlineBoxCard : Claim7 := { stood := { row := outlineBoxRow, standIns := [], harness := (true, "e6a09aa31eadab9c5c4fd12bb1d5244d9219951817532f33dbff29c79e66849f"), looks := true }, kinds := [], alts := [], laidByText := true, laidKinds := [.data, .data, .data, .data, .pinned], laidTests := true, laidLooks := .later }
def OutlineBoxCardSaid : Prop := Claim7.holds Tryz.pinned (.plain (OpenSpec.ofChange outlineBoxSpec)) outlineBoxCard

/-- THE TIED CARD OF 'pointillistlaw13.OutlineMoves'. -/
def outlineMovesCard : Claim7 := { stood := { row := outlineMovesRow, standIns := [], harness := (true, "e6a09aa31eadab9c5c4fd12bb1d5244d9219951817532f33dbff29c79e66849f"), looks := true }, kinds := [], alts := [], laidByText := true, laidKinds := [.data, .data, .data, .data, .pinned], laidTests := true, laidLooks := .later }
def OutlineMovesCardSaid : Prop := Claim7.holds Tryz.pinned (.plain (OpenSpec.ofChange outlineMovesSpec)) outlineMovesCard

/-- THE SECOND FORM's CARD OF 'pointillistlaw13.OutlineEdges'. -/
def outlineEdgesUptoCard : Claim7 := { stood := { row := outlineEdgesUptoRow, standIns := [], harness := (true, "e6a09aa31eadab9c5c4fd12bb1d5244d9219951817532f33dbff29c79e66849f"), looks := true }, kinds := [], alts := [], laidByText := true, laidKinds := [.data, .data, .data, .data, .pinned], laidTests := true, laidLooks := .later }
def OutlineEdgesUptoCardSaid : Prop := Claim7.holds Tryz.pinned (.plain (OpenSpec.upto outlineEdgesSpec)) outlineEdgesUptoCard

/-- THE SECOND FORM's CARD OF 'pointillistlaw13.OutlineCloses'. -/
def outlineClosesUptoCard : Claim7 := { stood := { row := outlineClosesUptoRow, standIns := [], harness := (true, "e6a09aa31eadab9c5c4fd12bb1d5244d9219951817532f33dbff29c79e66849f"), looks := true }, kinds := [], alts := [], laidByText := true, laidKinds := [.data, .data, .data, .data, .pinned], laidTests := true, laidLooks := .later }
def OutlineClosesUptoCardSaid : Prop := Claim7.holds Tryz.pinned (.plain (OpenSpec.upto outlineClosesSpec)) outlineClosesUptoCard

/-- THE SECOND FORM's CARD OF 'pointillistlaw13.OutlineBox'. -/
def outlineBoxUptoCard : Claim7 := { stood := { row := outlineBoxUptoRow, standIns := [], harness := (true, "e6a09aa31eadab9c5c4fd12bb1d5244d9219951817532f33dbff29c79e66849f"), looks := true }, kinds := [], alts := [], laidByText := true, laidKinds := [.data, .data, .data, .data, .pinned], laidTests := true, laidLooks := .later }
def OutlineBoxUptoCardSaid : Prop := Claim7.holds Tryz.pinned (.plain (OpenSpec.upto outlineBoxSpec)) outlineBoxUptoCard

/-- THE SECOND FORM's CARD OF 'pointillistlaw13.OutlineMoves'. -/
def outlineMovesUptoCard : Claim7 := { stood := { row := outlineMovesUptoRow, standIns := [], harness := (true, "e6a09aa31eadab9c5c4fd12bb1d5244d9219951817532f33dbff29c79e66849f"), looks := true }, kinds := [], alts := [], laidByText := true, laidKinds := [.data, .data, .data, .data, .pinned], laidTests := true, laidLooks := .later }
def OutlineMovesUptoCardSaid : Prop := Claim7.holds Tryz.pinned (.plain (OpenSpec.upto outlineMovesSpec)) outlineMovesUptoCard
end Rows
end Go.Proofs.YtbjabclgekkpaaaGreatDoor
