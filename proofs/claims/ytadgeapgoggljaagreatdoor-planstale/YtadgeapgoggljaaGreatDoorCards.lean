/-
  DERIVED. GIVEN WITH THE SEED: THE CARDS: each row of YtadgeapgoggljaaGreatDoorRows.lean that lists a variable, with what it lists TIED to the program's text (the seventh form; the later family's looks); each row that meets fmt, with fmt's text TOLD by the authors' own Lean function (tested against real Go, not proved from fmt's source: count such statements apart). THE CARD IS WHAT COUNTS. Prove the row's statement (the work); the ties are given (YtadgeapgoggljaaGreatDoorTie.lean); close each card by the builder's one call (the guide's Derived/Test/ToyasCard.lean, 'card_holds'). Laid BY PROGRAM, IN A SANDBOX (cutbox-door.mjs). By AI agents, Wed Nov 11 2026. No macro, syntax, notation, axiom, sorry.
-/
import Derived.Test.YtadgeapgoggljaaGreatDoorRows
import GoSem.ClaimSeven
namespace Go.Proofs.YtadgeapgoggljaaGreatDoor
namespace Rows

/-- THE TIED CARD OF 'marquetrykeep.PlanStale'. -/
def planStaleCard : Claim7 := { stood := { row := planStaleRow, standIns := [], harness := (true, "b8e2214917f727d783b0a12edd3a005c0266f51b86fe28099c109cb8fb856f7a"), looks := true }, kinds := [], alts := [], laidByText := true, laidKinds := [.data, .data, .data, .handle, .data, .data], laidTests := true, laidLooks := .later }
def PlanStaleCardSaid : Prop := Claim7.holds Tryz.pinned (.plain (OpenSpec.ofChange planStaleSpec)) planStaleCard

/-- THE SECOND FORM's CARD OF 'marquetrykeep.PlanStale'. -/
def planStaleUptoCard : Claim7 := { stood := { row := planStaleUptoRow, standIns := [], harness := (true, "b8e2214917f727d783b0a12edd3a005c0266f51b86fe28099c109cb8fb856f7a"), looks := true }, kinds := [], alts := [], laidByText := true, laidKinds := [.data, .data, .data, .handle, .data, .data], laidTests := true, laidLooks := .later }
def PlanStaleUptoCardSaid : Prop := Claim7.holds Tryz.pinned (.plain (OpenSpec.upto planStaleSpec)) planStaleUptoCard
end Rows
end Go.Proofs.YtadgeapgoggljaaGreatDoor
