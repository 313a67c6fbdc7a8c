/-
  DERIVED. GIVEN WITH THE SEED: THE CARDS: each row of YtjomaepncibjpaaDoorRows.lean that lists a variable, with what it lists TIED to the program's text (the seventh form; the later family's looks); each row that meets fmt, with fmt's text TOLD by the authors' own Lean function (tested against real Go, not proved from fmt's source: count such statements apart). THE CARD IS WHAT COUNTS. Prove the row's statement (the work); the ties are given (YtjomaepncibjpaaDoorTie.lean); close each card by the builder's one call (the guide's Derived/Test/ToyasCard.lean, 'card_holds'). Laid BY PROGRAM, IN A SANDBOX (cutbox-door.mjs). By AI agents, Wed Nov 11 2026. No macro, syntax, notation, axiom, sorry.
-/
import Derived.Test.YtjomaepncibjpaaDoorRows
import GoSem.ClaimSeven
namespace Go.Proofs.YtjomaepncibjpaaDoor
namespace Rows

/-- THE TIED CARD OF 'rungworklaw.LutSteps'. -/
def lutStepsCard : Claim7 := { stood := { row := lutStepsRow, standIns := [], harness := (true, "395edd22d002e83627030065c34f68e76b61af2927924a415c105743ef361fd3"), looks := true }, kinds := [], alts := [], laidByText := true, laidKinds := [.handle], laidTests := true, laidLooks := .later }
def LutStepsCardSaid : Prop := Claim7.holds Tryd.pinned (.plain (OpenSpec.ofChange lutStepsSpec)) lutStepsCard

/-- THE SECOND FORM's CARD OF 'rungworklaw.LutSteps'. -/
def lutStepsUptoCard : Claim7 := { stood := { row := lutStepsUptoRow, standIns := [], harness := (true, "395edd22d002e83627030065c34f68e76b61af2927924a415c105743ef361fd3"), looks := true }, kinds := [], alts := [], laidByText := true, laidKinds := [.handle], laidTests := true, laidLooks := .later }
def LutStepsUptoCardSaid : Prop := Claim7.holds Tryd.pinned (.plain (OpenSpec.upto lutStepsSpec)) lutStepsUptoCard
end Rows
end Go.Proofs.YtjomaepncibjpaaDoor
