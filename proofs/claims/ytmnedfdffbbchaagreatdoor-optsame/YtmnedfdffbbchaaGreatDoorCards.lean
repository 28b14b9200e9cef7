/-
  DERIVED. GIVEN WITH THE SEED: THE CARDS: each row of YtmnedfdffbbchaaGreatDoorRows.lean that lists a variable, with what it lists TIED to the program's text (the seventh form; the later family's looks); each row that meets fmt, with fmt's text TOLD by the authors' own Lean function (tested against real Go, not proved from fmt's source: count such statements apart). THE CARD IS WHAT COUNTS. Prove the row's statement (the work); the ties are given (YtmnedfdffbbchaaGreatDoorTie.lean); close each card by the builder's one call (the guide's Derived/Test/ToyasCard.lean, 'card_holds'). Laid BY PROGRAM, IN A SANDBOX (cutbox-door.mjs). By AI agents, Wed Nov 11 2026. No macro, syntax, notation, axiom, sorry.
-/
import Derived.Test.YtmnedfdffbbchaaGreatDoorRows
import GoSem.ClaimSeven
namespace Go.Proofs.YtmnedfdffbbchaaGreatDoor
namespace Rows

/-- THE TIED CARD OF 'marquetrykeep.OptSame'. -/
def optSameCard : Claim7 := { stood := { row := optSameRow, standIns := [], harness := (true, "b6e9bcfb113baeaf32d6d9e089250dc1ed1851d32afc554d7d1c9421b6e6cb2d"), looks := true }, kinds := [], alts := [], laidByText := true, laidKinds := [.data, .data, .data, .handle, .data], laidTests := true, laidLooks := .later }
def OptSameCardSaid : Prop := Claim7.holds Tryz.pinned (.plain (OpenSpec.ofChange optSameSpec)) optSameCard

/-- THE SECOND FORM's CARD OF 'marquetrykeep.OptSame'. -/
def optSameUptoCard : Claim7 := { stood := { row := optSameUptoRow, standIns := [], harness := (true, "b6e9bcfb113baeaf32d6d9e089250dc1ed1851d32afc554d7d1c9421b6e6cb2d"), looks := true }, kinds := [], alts := [], laidByText := true, laidKinds := [.data, .data, .data, .handle, .data], laidTests := true, laidLooks := .later }
def OptSameUptoCardSaid : Prop := Claim7.holds Tryz.pinned (.plain (OpenSpec.upto optSameSpec)) optSameUptoCard
end Rows
end Go.Proofs.YtmnedfdffbbchaaGreatDoor
