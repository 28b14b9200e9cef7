/-
  DERIVED. GIVEN WITH THE SEED: THE CARDS: each row of YtiolfelekiopdaaGreatDoorRows.lean that lists a variable, with what it lists TIED to the program's text (the seventh form; the later family's looks); each row that meets fmt, with fmt's text TOLD by the authors' own Lean function (tested against real Go, not proved from fmt's source: count such statements apart). THE CARD IS WHAT COUNTS. Prove the row's statement (the work); the ties are given (YtiolfelekiopdaaGreatDoorTie.lean); close each card by the builder's one call (the guide's Derived/Test/ToyasCard.lean, 'card_holds'). Laid BY PROGRAM, IN A SANDBOX (cutbox-door.mjs). By AI agents, Wed Nov 11 2026. No macro, syntax, notation, axiom, sorry.
-/
import Derived.Test.YtiolfelekiopdaaGreatDoorRows
import GoSem.ClaimSeven
namespace Go.Proofs.YtiolfelekiopdaaGreatDoor
namespace Rows

/-- THE TIED CARD OF 'marquetrykeep.CheckTurns'. -/
def checkTurnsCard : Claim7 := { stood := { row := checkTurnsRow, standIns := [], harness := (true, "e7a9771a8b2457eb9b78dea2d89a899c88c121a1d0cc73f91d11d00befe090d6"), looks := true }, kinds := [], alts := [], laidByText := true, laidKinds := [.handle, .data, .data], laidTests := true, laidLooks := .later }
def CheckTurnsCardSaid : Prop := Claim7.holds Tryz.pinned (.plain (OpenSpec.ofChange checkTurnsSpec)) checkTurnsCard

/-- THE TIED CARD OF 'marquetrykeep.CheckImports'. -/
def checkImportsCard : Claim7 := { stood := { row := checkImportsRow, standIns := [], harness := (true, "e7a9771a8b2457eb9b78dea2d89a899c88c121a1d0cc73f91d11d00befe090d6"), looks := true }, kinds := [], alts := [], laidByText := true, laidKinds := [.handle, .data, .data], laidTests := true, laidLooks := .later }
def CheckImportsCardSaid : Prop := Claim7.holds Tryz.pinned (.plain (OpenSpec.ofChange checkImportsSpec)) checkImportsCard

/-- THE SECOND FORM's CARD OF 'marquetrykeep.CheckTurns'. -/
def checkTurnsUptoCard : Claim7 := { stood := { row := checkTurnsUptoRow, standIns := [], harness := (true, "e7a9771a8b2457eb9b78dea2d89a899c88c121a1d0cc73f91d11d00befe090d6"), looks := true }, kinds := [], alts := [], laidByText := true, laidKinds := [.handle, .data, .data], laidTests := true, laidLooks := .later }
def CheckTurnsUptoCardSaid : Prop := Claim7.holds Tryz.pinned (.plain (OpenSpec.upto checkTurnsSpec)) checkTurnsUptoCard

/-- THE SECOND FORM's CARD OF 'marquetrykeep.CheckImports'. -/
def checkImportsUptoCard : Claim7 := { stood := { row := checkImportsUptoRow, standIns := [], harness := (true, "e7a9771a8b2457eb9b78dea2d89a899c88c121a1d0cc73f91d11d00befe090d6"), looks := true }, kinds := [], alts := [], laidByText := true, laidKinds := [.handle, .data, .data], laidTests := true, laidLooks := .later }
def CheckImportsUptoCardSaid : Prop := Claim7.holds Tryz.pinned (.plain (OpenSpec.upto checkImportsSpec)) checkImportsUptoCard
end Rows
end Go.Proofs.YtiolfelekiopdaaGreatDoor
