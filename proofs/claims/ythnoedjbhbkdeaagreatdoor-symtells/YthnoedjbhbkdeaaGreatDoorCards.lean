/-
  DERIVED. GIVEN WITH THE SEED: THE CARDS: each row of YthnoedjbhbkdeaaGreatDoorRows.lean that lists a variable, with what it lists TIED to the program's text (the seventh form; the later family's looks); each row that meets fmt, with fmt's text TOLD by the authors' own Lean function (tested against real Go, not proved from fmt's source: count such statements apart). THE CARD IS WHAT COUNTS. Prove the row's statement (the work); the ties are given (YthnoedjbhbkdeaaGreatDoorTie.lean); close each card by the builder's one call (the guide's Derived/Test/ToyasCard.lean, 'card_holds'). Laid BY PROGRAM, IN A SANDBOX (cutbox-door.mjs). By AI agents, Wed Nov 11 2026. No macro, syntax, notation, axiom, sorry.
-/
import Derived.Test.YthnoedjbhbkdeaaGreatDoorRows
import GoSem.ClaimSeven
namespace Go.Proofs.YthnoedjbhbkdeaaGreatDoor
namespace Rows

/-- THE TIED CARD OF 'marquetrylaw.TreeReads'. -/
def treeReadsCard : Claim7 := { stood := { row := treeReadsRow, standIns := [], harness := (true, "9107481c15543ea7d9772ecc96c673bbfc7338bb9959df5d20fa5430b9a323b6"), looks := true }, kinds := [], alts := [], laidByText := true, laidKinds := [.data, .data, .data, .data, .handle, .sentinel, .sentinel, .data, .data, .data, .data, .pinned], laidTests := true, laidLooks := .later }
def TreeReadsCardSaid : Prop := Claim7.holds Tryz.pinned (.plain (OpenSpec.ofChange treeReadsSpec)) treeReadsCard

/-- THE TIED CARD OF 'marquetrylaw.SymTells'. -/
def symTellsCard : Claim7 := { stood := { row := symTellsRow, standIns := [], harness := (true, "9107481c15543ea7d9772ecc96c673bbfc7338bb9959df5d20fa5430b9a323b6"), looks := true }, kinds := [], alts := [], laidByText := true, laidKinds := [.data, .data, .data, .handle, .sentinel, .sentinel, .data, .data, .data, .data], laidTests := true, laidLooks := .later }
def SymTellsCardSaid : Prop := Claim7.holds Tryz.pinned (.plain (OpenSpec.ofChange symTellsSpec)) symTellsCard

/-- THE TIED CARD OF 'marquetrylaw.CheckFinds'. -/
def checkFindsCard : Claim7 := { stood := { row := checkFindsRow, standIns := [], harness := (true, "9107481c15543ea7d9772ecc96c673bbfc7338bb9959df5d20fa5430b9a323b6"), looks := true }, kinds := [], alts := [], laidByText := true, laidKinds := [.data, .data, .data, .handle, .sentinel, .sentinel, .data, .data, .data, .data], laidTests := true, laidLooks := .later }
def CheckFindsCardSaid : Prop := Claim7.holds Tryz.pinned (.plain (OpenSpec.ofChange checkFindsSpec)) checkFindsCard

/-- THE SECOND FORM's CARD OF 'marquetrylaw.TreeReads'. -/
def treeReadsUptoCard : Claim7 := { stood := { row := treeReadsUptoRow, standIns := [], harness := (true, "9107481c15543ea7d9772ecc96c673bbfc7338bb9959df5d20fa5430b9a323b6"), looks := true }, kinds := [], alts := [], laidByText := true, laidKinds := [.data, .data, .data, .data, .handle, .sentinel, .sentinel, .data, .data, .data, .data, .pinned], laidTests := true, laidLooks := .later }
def TreeReadsUptoCardSaid : Prop := Claim7.holds Tryz.pinned (.plain (OpenSpec.upto treeReadsSpec)) treeReadsUptoCard

/-- THE SECOND FORM's CARD OF 'marquetrylaw.SymTells'. -/
def symTellsUptoCard : Claim7 := { stood := { row := symTellsUptoRow, standIns := [], harness := (true, "9107481c15543ea7d9772ecc96c673bbfc7338bb9959df5d20fa5430b9a323b6"), looks := true }, kinds := [], alts := [], laidByText := true, laidKinds := [.data, .data, .data, .handle, .sentinel, .sentinel, .data, .data, .data, .data], laidTests := true, laidLooks := .later }
def SymTellsUptoCardSaid : Prop := Claim7.holds Tryz.pinned (.plain (OpenSpec.upto symTellsSpec)) symTellsUptoCard

/-- THE SECOND FORM's CARD OF 'marquetrylaw.CheckFinds'. -/
def checkFindsUptoCard : Claim7 := { stood := { row := checkFindsUptoRow, standIns := [], harness := (true, "9107481c15543ea7d9772ecc96c673bbfc7338bb9959df5d20fa5430b9a323b6"), looks := true }, kinds := [], alts := [], laidByText := true, laidKinds := [.data, .data, .data, .handle, .sentinel, .sentinel, .data, .data, .data, .data], laidTests := true, laidLooks := .later }
def CheckFindsUptoCardSaid : Prop := Claim7.holds Tryz.pinned (.plain (OpenSpec.upto checkFindsSpec)) checkFindsUptoCard
end Rows
end Go.Proofs.YthnoedjbhbkdeaaGreatDoor
