/-
  DERIVED. GIVEN WITH THE SEED: THE CARDS: each row of YtgiibcnakiggaaaGreatDoorRows.lean that lists a variable, with what it lists TIED to the program's text (the seventh form; the later family's looks); each row that meets fmt, with fmt's text TOLD by the authors' own Lean function (tested against real Go, not proved from fmt's source: count such statements apart). THE CARD IS WHAT COUNTS. Prove the row's statement (the work); the ties are given (YtgiibcnakiggaaaGreatDoorTie.lean); close each card by the builder's one call (the guide's Derived/Test/ToyasCard.lean, 'card_holds'). Laid BY PROGRAM, IN A SANDBOX (cutbox-door.mjs). By AI agents, Wed Nov 11 2026. No macro, syntax, notation, axiom, sorry.
-/
import Derived.Test.YtgiibcnakiggaaaGreatDoorRows
import GoSem.ClaimSeven
namespace Go.Proofs.YtgiibcnakiggaaaGreatDoor
namespace Rows

/-- THE TIED CARD OF 'pointillistlaw07.NormParses'. -/
def normParsesCard : Claim7 := { stood := { row := normParsesRow, standIns := [], harness := (true, "40b9d7f28d889098f6a036aee84c0132980ed52c8696fe269ef9e0ea3ed574e1"), looks := false }, kinds := [], alts := [], laidByText := true, laidKinds := [.data, .data, .data, .data, .pinned], laidTests := true, laidLooks := .later }
def NormParsesCardSaid : Prop := Claim7.holds Tryz.pinned (.plain (OpenSpec.ofChange normParsesSpec)) normParsesCard

/-- THE TIED CARD OF 'pointillistlaw07.NormRights'. -/
def normRightsCard : Claim7 := { stood := { row := normRightsRow, standIns := [], harness := (true, "40b9d7f28d889098f6a036aee84c0132980ed52c8696fe269ef9e0ea3ed574e1"), looks := false }, kinds := [], alts := [], laidByText := true, laidKinds := [.data, .data, .data, .data, .pinned], laidTests := true, laidLooks := .later }
def NormRightsCardSaid : Prop := Claim7.holds Tryz.pinned (.plain (OpenSpec.ofChange normRightsSpec)) normRightsCard

/-- THE SECOND FORM's CARD OF 'pointillistlaw07.NormParses'. -/
def normParsesUptoCard : Claim7 := { stood := { row := normParsesUptoRow, standIns := [], harness := (true, "40b9d7f28d889098f6a036aee84c0132980ed52c8696fe269ef9e0ea3ed574e1"), looks := false }, kinds := [], alts := [], laidByText := true, laidKinds := [.data, .data, .data, .data, .pinned], laidTests := true, laidLooks := .later }
def NormParsesUptoCardSaid : Prop := Claim7.holds Tryz.pinned (.plain (OpenSpec.upto normParsesSpec)) normParsesUptoCard

/-- THE SECOND FORM's CARD OF 'pointillistlaw07.NormRights'. -/
def normRightsUptoCard : Claim7 := { stood := { row := normRightsUptoRow, standIns := [], harness := (true, "40b9d7f28d889098f6a036aee84c0132980ed52c8696fe269ef9e0ea3ed574e1"), looks := false }, kinds := [], alts := [], laidByText := true, laidKinds := [.data, .data, .data, .data, .pinned], laidTests := true, laidLooks := .later }
def NormRightsUptoCardSaid : Prop := Claim7.holds Tryz.pinned (.plain (OpenSpec.upto normRightsSpec)) normRightsUptoCard
end Rows
end Go.Proofs.YtgiibcnakiggaaaGreatDoor
