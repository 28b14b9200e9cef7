/-
  DERIVED. GIVEN WITH THE SEED: THE CARDS: each row of YtadgeapgoggljaaDoorRows.lean that lists a variable, with what it lists TIED to the program's text (the seventh form; the later family's looks); each row that meets fmt, with fmt's text TOLD by the authors' own Lean function (tested against real Go, not proved from fmt's source: count such statements apart). THE CARD IS WHAT COUNTS. Prove the row's statement (the work); the ties are given (YtadgeapgoggljaaDoorTie.lean); close each card by the builder's one call (the guide's Derived/Test/ToyasCard.lean, 'card_holds'). Laid BY PROGRAM, IN A SANDBOX (cutbox-door.mjs). By AI agents, Wed Nov 11 2026. No macro, syntax, notation, axiom, sorry.
-/
import Derived.Test.YtadgeapgoggljaaDoorRows
import GoSem.ClaimSeven
namespace Go.Proofs.YtadgeapgoggljaaDoor
namespace Rows

/-- THE TIED CARD OF 'marquetrykeep.PlanRounds'. -/
def planRoundsCard : Claim7 := { stood := { row := planRoundsRow, standIns := [], harness := (true, "2d2c91fc5a358fb37d3d00fa75adad25490f01bcf04bb95ec98372de99828176"), looks := true }, kinds := [], alts := [], laidByText := true, laidKinds := [.handle, .data, .data], laidTests := true, laidLooks := .later }
def PlanRoundsCardSaid : Prop := Claim7.holds Tryd.pinned (.plain (OpenSpec.ofChange planRoundsSpec)) planRoundsCard

/-- THE SECOND FORM's CARD OF 'marquetrykeep.PlanRounds'. -/
def planRoundsUptoCard : Claim7 := { stood := { row := planRoundsUptoRow, standIns := [], harness := (true, "2d2c91fc5a358fb37d3d00fa75adad25490f01bcf04bb95ec98372de99828176"), looks := true }, kinds := [], alts := [], laidByText := true, laidKinds := [.handle, .data, .data], laidTests := true, laidLooks := .later }
def PlanRoundsUptoCardSaid : Prop := Claim7.holds Tryd.pinned (.plain (OpenSpec.upto planRoundsSpec)) planRoundsUptoCard
end Rows
end Go.Proofs.YtadgeapgoggljaaDoor
