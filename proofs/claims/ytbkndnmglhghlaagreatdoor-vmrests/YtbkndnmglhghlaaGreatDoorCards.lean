/-
  DERIVED. GIVEN WITH THE SEED: THE CARDS: each row of YtbkndnmglhghlaaGreatDoorRows.lean that lists a variable, with what it lists TIED to the program's text (the seventh form; the later family's looks); each row that meets fmt, with fmt's text TOLD by the authors' own Lean function (tested against real Go, not proved from fmt's source: count such statements apart). THE CARD IS WHAT COUNTS. Prove the row's statement (the work); the ties are given (YtbkndnmglhghlaaGreatDoorTie.lean); close each card by the builder's one call (the guide's Derived/Test/ToyasCard.lean, 'card_holds'). Laid BY PROGRAM, IN A SANDBOX (cutbox-door.mjs). By AI agents, Wed Nov 11 2026. No macro, syntax, notation, axiom, sorry.
-/
import Derived.Test.YtbkndnmglhghlaaGreatDoorRows
import GoSem.ClaimSeven
namespace Go.Proofs.YtbkndnmglhghlaaGreatDoor
namespace Rows

/-- THE TIED CARD OF 'marquetrykeep.VmRests'. -/
def vmRestsCard : Claim7 := { stood := { row := vmRestsRow, standIns := [], harness := (true, "ed96b5bb178990398104a471f398245668e27afb36aedaef58e2c29b0cfd70be"), looks := true }, kinds := [], alts := [], laidByText := true, laidKinds := [.data, .data, .data, .handle, .data, .data, .data], laidTests := true, laidLooks := .later }
def VmRestsCardSaid : Prop := Claim7.holds Tryz.pinned (.plain (OpenSpec.ofChange vmRestsSpec)) vmRestsCard

/-- THE SECOND FORM's CARD OF 'marquetrykeep.VmRests'. -/
def vmRestsUptoCard : Claim7 := { stood := { row := vmRestsUptoRow, standIns := [], harness := (true, "ed96b5bb178990398104a471f398245668e27afb36aedaef58e2c29b0cfd70be"), looks := true }, kinds := [], alts := [], laidByText := true, laidKinds := [.data, .data, .data, .handle, .data, .data, .data], laidTests := true, laidLooks := .later }
def VmRestsUptoCardSaid : Prop := Claim7.holds Tryz.pinned (.plain (OpenSpec.upto vmRestsSpec)) vmRestsUptoCard
end Rows
end Go.Proofs.YtbkndnmglhghlaaGreatDoor
