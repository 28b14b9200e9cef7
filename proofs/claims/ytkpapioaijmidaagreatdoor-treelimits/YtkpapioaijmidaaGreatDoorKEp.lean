import Derived.Test.YtkpapioaijmidaaGreatDoorKEo
/- The document's reader: name. -/
namespace Go.Proofs.YtkpapioaijmidaaGreatDoor
open Go.RowKit
open Tp (Tok hd tx at' stp)
open Nr (Fl fine)
def nmR (r : List Tok) (bad : Fl) : List UInt8 × List Tok × Fl :=
  if bad = fine then match Tp.name r with
    | .ok (n, r1) => (n, r1, fine)
    | .error (e, p) => ([], r, ((e : Int), (p : Int)))
  else ([], r, bad)
def keptW : List UInt8 := [109, 111, 100, 117, 108, 101, 32, 105, 109, 112, 111, 114, 116, 32, 118, 97, 114, 32, 112, 114, 111, 99, 32, 98, 101, 103, 105, 110, 32, 101, 110, 100, 32, 105, 102, 32, 116, 104, 101, 110, 32, 101, 108, 115, 105, 102, 32, 101, 108, 115, 101, 32, 119, 104, 105, 108, 101, 32, 100, 111, 32, 114, 101, 116, 117, 114, 110, 32, 119, 114, 105, 116, 101, 32, 105, 110, 116, 32, 97, 114, 114, 97, 121, 32, 111, 114, 32, 97, 110, 100, 32, 110, 111, 116, 32, 100, 105, 118, 32, 109, 111, 100]
open Tp in
theorem kept_one (s : List UInt8) : oneB s keptW = decide (s ∈ Tp.kept) := by
  have h := oneB_iff (s := s) (ws := [wModule, wImport, wVar, wProc, wBegin, wEnd, wIf, wThen, wElsif, wElse, wWhile, wDo, wReturn, wWrite, wInt, wArray, wOr, wAnd, wNot, wDiv, wMod]) (y := keptW) (by decide) (by decide)
  rw [Bool.eq_iff_iff, h, decide_eq_true_iff]
  simp only [kept, List.mem_cons, List.not_mem_nil, or_false]
  constructor <;> (intro x; rcases x with x | x | x | x | x | x | x | x | x | x | x | x | x | x | x | x | x | x | x | x | x <;> simp [x])
end Go.Proofs.YtkpapioaijmidaaGreatDoor
