/-
  DERIVED. GIVEN WITH THE SEED: THE CARDS: each row of YtndpehjbepfbkaaGreatDoorRows.lean that lists a variable, with what it lists TIED to the program's text (the seventh form; the later family's looks); each row that meets fmt, with fmt's text TOLD by the authors' own Lean function (tested against real Go, not proved from fmt's source: count such statements apart). THE CARD IS WHAT COUNTS. Prove the row's statement (the work); the ties are given (YtndpehjbepfbkaaGreatDoorTie.lean); close each card by the builder's one call (the guide's Derived/Test/ToyasCard.lean, 'card_holds'). Laid BY PROGRAM, IN A SANDBOX (cutbox-door.mjs). By AI agents, Wed Nov 11 2026. No macro, syntax, notation, axiom, sorry.
-/
import Derived.Test.YtndpehjbepfbkaaGreatDoorRows
import GoSem.ClaimSeven
namespace Go.Proofs.YtndpehjbepfbkaaGreatDoor
namespace Rows

/-- THE TIED CARD OF 'rungworklaw.DeviceSteps'. -/
def deviceStepsCard : Claim7 := { stood := { row := deviceStepsRow, standIns := [], harness := (true, "c74cf8e2e2b91a010a88c7259514ae8e10c3699c775b351df9837e46dfacdd70"), looks := true }, kinds := [], alts := [], laidByText := true, laidKinds := [.data, .handle, .pinned], laidTests := true, laidLooks := .later }
def DeviceStepsCardSaid : Prop := Claim7.holds Tryz.pinned (.plain (OpenSpec.ofChange deviceStepsSpec)) deviceStepsCard

/-- THE SECOND FORM's CARD OF 'rungworklaw.DeviceSteps'. -/
def deviceStepsUptoCard : Claim7 := { stood := { row := deviceStepsUptoRow, standIns := [], harness := (true, "c74cf8e2e2b91a010a88c7259514ae8e10c3699c775b351df9837e46dfacdd70"), looks := true }, kinds := [], alts := [], laidByText := true, laidKinds := [.data, .handle, .pinned], laidTests := true, laidLooks := .later }
def DeviceStepsUptoCardSaid : Prop := Claim7.holds Tryz.pinned (.plain (OpenSpec.upto deviceStepsSpec)) deviceStepsUptoCard
end Rows
end Go.Proofs.YtndpehjbepfbkaaGreatDoor
