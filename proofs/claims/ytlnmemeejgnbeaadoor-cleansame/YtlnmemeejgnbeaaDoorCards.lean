/-
  DERIVED. GIVEN WITH THE SEED: THE CARDS: each row of YtlnmemeejgnbeaaDoorRows.lean that lists a variable, with what it lists TIED to the program's text (the seventh form; the later family's looks); each row that meets fmt, with fmt's text TOLD by the authors' own Lean function (tested against real Go, not proved from fmt's source: count such statements apart). THE CARD IS WHAT COUNTS. Prove the row's statement (the work); the ties are given (YtlnmemeejgnbeaaDoorTie.lean); close each card by the builder's one call (the guide's Derived/Test/ToyasCard.lean, 'card_holds'). Laid BY PROGRAM, IN A SANDBOX (cutbox-door.mjs). By AI agents, Wed Nov 11 2026. No macro, syntax, notation, axiom, sorry.
-/
import Derived.Test.YtlnmemeejgnbeaaDoorRows
import GoSem.ClaimSeven
namespace Go.Proofs.YtlnmemeejgnbeaaDoor
namespace Rows

/-- THE TIED CARD OF 'rungworkkeep.CleanSame'. -/
def cleanSameCard : Claim7 := { stood := { row := cleanSameRow, standIns := [], harness := (true, "5da89b02345e7573d5ad972a4ef4a2e985c56079efb78e05316aa0cd857b5320"), looks := true }, kinds := [], alts := [], laidByText := true, laidKinds := [.handle], laidTests := true, laidLooks := .later }
def CleanSameCardSaid : Prop := Claim7.holds Tryd.pinned (.plain (OpenSpec.ofChange cleanSameSpec)) cleanSameCard

/-- THE SECOND FORM's CARD OF 'rungworkkeep.CleanSame'. -/
def cleanSameUptoCard : Claim7 := { stood := { row := cleanSameUptoRow, standIns := [], harness := (true, "5da89b02345e7573d5ad972a4ef4a2e985c56079efb78e05316aa0cd857b5320"), looks := true }, kinds := [], alts := [], laidByText := true, laidKinds := [.handle], laidTests := true, laidLooks := .later }
def CleanSameUptoCardSaid : Prop := Claim7.holds Tryd.pinned (.plain (OpenSpec.upto cleanSameSpec)) cleanSameUptoCard
end Rows
end Go.Proofs.YtlnmemeejgnbeaaDoor
