/-
  DERIVED. GIVEN WITH THE SEED: THE CARDS: each row of YthkdefhngkangaaDoorRows.lean that lists a variable, with what it lists TIED to the program's text (the seventh form; the later family's looks); each row that meets fmt, with fmt's text TOLD by the authors' own Lean function (tested against real Go, not proved from fmt's source: count such statements apart). THE CARD IS WHAT COUNTS. Prove the row's statement (the work); the ties are given (YthkdefhngkangaaDoorTie.lean); close each card by the builder's one call (the guide's Derived/Test/ToyasCard.lean, 'card_holds'). Laid BY PROGRAM, IN A SANDBOX (cutbox-door.mjs). By AI agents, Wed Nov 11 2026. No macro, syntax, notation, axiom, sorry.
-/
import Derived.Test.YthkdefhngkangaaDoorRows
import GoSem.ClaimSeven
namespace Go.Proofs.YthkdefhngkangaaDoor
namespace Rows

/-- THE TIED CARD OF 'marquetrykeep.TreeBack'. -/
def treeBackCard : Claim7 := { stood := { row := treeBackRow, standIns := [], harness := (true, "2dc66490e22e5106440927a0e9eaeb672504b9aa853c973014f50084cf9768b2"), looks := true }, kinds := [], alts := [], laidByText := true, laidKinds := [.data, .data, .data, .data, .data], laidTests := true, laidLooks := .later }
def TreeBackCardSaid : Prop := Claim7.holds Tryd.pinned (.plain (OpenSpec.ofChange treeBackSpec)) treeBackCard

/-- THE TIED CARD OF 'marquetrykeep.TreeBlanks'. -/
def treeBlanksCard : Claim7 := { stood := { row := treeBlanksRow, standIns := [], harness := (true, "2dc66490e22e5106440927a0e9eaeb672504b9aa853c973014f50084cf9768b2"), looks := true }, kinds := [], alts := [], laidByText := true, laidKinds := [.data, .data, .data, .data, .data], laidTests := true, laidLooks := .later }
def TreeBlanksCardSaid : Prop := Claim7.holds Tryd.pinned (.plain (OpenSpec.ofChange treeBlanksSpec)) treeBlanksCard

/-- THE TIED CARD OF 'marquetrykeep.SymBodies'. -/
def symBodiesCard : Claim7 := { stood := { row := symBodiesRow, standIns := [], harness := (true, "2dc66490e22e5106440927a0e9eaeb672504b9aa853c973014f50084cf9768b2"), looks := true }, kinds := [], alts := [], laidByText := true, laidKinds := [.data, .data, .data, .data, .data], laidTests := true, laidLooks := .later }
def SymBodiesCardSaid : Prop := Claim7.holds Tryd.pinned (.plain (OpenSpec.ofChange symBodiesSpec)) symBodiesCard

/-- THE TIED CARD OF 'marquetrykeep.SymNeeds'. -/
def symNeedsCard : Claim7 := { stood := { row := symNeedsRow, standIns := [], harness := (true, "2dc66490e22e5106440927a0e9eaeb672504b9aa853c973014f50084cf9768b2"), looks := true }, kinds := [], alts := [], laidByText := true, laidKinds := [.data, .data, .data, .data, .data], laidTests := true, laidLooks := .later }
def SymNeedsCardSaid : Prop := Claim7.holds Tryd.pinned (.plain (OpenSpec.ofChange symNeedsSpec)) symNeedsCard

/-- THE SECOND FORM's CARD OF 'marquetrykeep.TreeBack'. -/
def treeBackUptoCard : Claim7 := { stood := { row := treeBackUptoRow, standIns := [], harness := (true, "2dc66490e22e5106440927a0e9eaeb672504b9aa853c973014f50084cf9768b2"), looks := true }, kinds := [], alts := [], laidByText := true, laidKinds := [.data, .data, .data, .data, .data], laidTests := true, laidLooks := .later }
def TreeBackUptoCardSaid : Prop := Claim7.holds Tryd.pinned (.plain (OpenSpec.upto treeBackSpec)) treeBackUptoCard

/-- THE SECOND FORM's CARD OF 'marquetrykeep.TreeBlanks'. -/
def treeBlanksUptoCard : Claim7 := { stood := { row := treeBlanksUptoRow, standIns := [], harness := (true, "2dc66490e22e5106440927a0e9eaeb672504b9aa853c973014f50084cf9768b2"), looks := true }, kinds := [], alts := [], laidByText := true, laidKinds := [.data, .data, .data, .data, .data], laidTests := true, laidLooks := .later }
def TreeBlanksUptoCardSaid : Prop := Claim7.holds Tryd.pinned (.plain (OpenSpec.upto treeBlanksSpec)) treeBlanksUptoCard

/-- THE SECOND FORM's CARD OF 'marquetrykeep.SymBodies'. -/
def symBodiesUptoCard : Claim7 := { stood := { row := symBodiesUptoRow, standIns := [], harness := (true, "2dc66490e22e5106440927a0e9eaeb672504b9aa853c973014f50084cf9768b2"), looks := true }, kinds := [], alts := [], laidByText := true, laidKinds := [.data, .data, .data, .data, .data], laidTests := true, laidLooks := .later }
def SymBodiesUptoCardSaid : Prop := Claim7.holds Tryd.pinned (.plain (OpenSpec.upto symBodiesSpec)) symBodiesUptoCard

/-- THE SECOND FORM's CARD OF 'marquetrykeep.SymNeeds'. -/
def symNeedsUptoCard : Claim7 := { stood := { row := symNeedsUptoRow, standIns := [], harness := (true, "2dc66490e22e5106440927a0e9eaeb672504b9aa853c973014f50084cf9768b2"), looks := true }, kinds := [], alts := [], laidByText := true, laidKinds := [.data, .data, .data, .data, .data], laidTests := true, laidLooks := .later }
def SymNeedsUptoCardSaid : Prop := Claim7.holds Tryd.pinned (.plain (OpenSpec.upto symNeedsSpec)) symNeedsUptoCard
end Rows
end Go.Proofs.YthkdefhngkangaaDoor
