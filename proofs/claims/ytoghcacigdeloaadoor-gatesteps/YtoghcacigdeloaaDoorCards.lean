/-
  DERIVED. GIVEN WITH THE SEED: THE CARDS: each row of YtoghcacigdeloaaDoorRows.lean that lists a variable, with what it lists TIED to the program's text (the seventh form; the later family's looks); each row that meets fmt, with fmt's text TOLD by the authors' own Lean function (tested against real Go, not proved from fmt's source: count such statements apart). THE CARD IS WHAT COUNTS. Prove the row's statement (the work); the ties are given (YtoghcacigdeloaaDoorTie.lean); close each card by the builder's one call (the guide's Derived/Test/ToyasCard.lean, 'card_holds'). Laid BY PROGRAM, IN A SANDBOX (cutbox-door.mjs). By AI agents, Wed Nov 11 2026. No macro, syntax, notation, axiom, sorry.
-/
import Derived.Test.YtoghcacigdeloaaDoorRows
import GoSem.ClaimSeven
namespace Go.Proofs.YtoghcacigdeloaaDoor
namespace Rows

/-- THE TIED CARD OF 'rungworklaw.GateSteps'. -/
def gateStepsCard : Claim7 := { stood := { row := gateStepsRow, standIns := [], harness := (true, "2512f916ef7d72b263645ae032425cbb97c0593ebe955fa4a187017107797c10"), looks := true }, kinds := [], alts := [], laidByText := true, laidKinds := [.handle], laidTests := true, laidLooks := .later }
def GateStepsCardSaid : Prop := Claim7.holds Tryd.pinned (.plain (OpenSpec.ofChange gateStepsSpec)) gateStepsCard

/-- THE SECOND FORM's CARD OF 'rungworklaw.GateSteps'. -/
def gateStepsUptoCard : Claim7 := { stood := { row := gateStepsUptoRow, standIns := [], harness := (true, "2512f916ef7d72b263645ae032425cbb97c0593ebe955fa4a187017107797c10"), looks := true }, kinds := [], alts := [], laidByText := true, laidKinds := [.handle], laidTests := true, laidLooks := .later }
def GateStepsUptoCardSaid : Prop := Claim7.holds Tryd.pinned (.plain (OpenSpec.upto gateStepsSpec)) gateStepsUptoCard
end Rows
end Go.Proofs.YtoghcacigdeloaaDoor
