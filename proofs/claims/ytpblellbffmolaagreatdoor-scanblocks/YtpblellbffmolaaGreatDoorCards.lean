/-
  DERIVED. GIVEN WITH THE SEED: THE CARDS: each row of YtpblellbffmolaaGreatDoorRows.lean that lists a variable, with what it lists TIED to the program's text (the seventh form; the later family's looks); each row that meets fmt, with fmt's text TOLD by the authors' own Lean function (tested against real Go, not proved from fmt's source: count such statements apart). THE CARD IS WHAT COUNTS. Prove the row's statement (the work); the ties are given (YtpblellbffmolaaGreatDoorTie.lean); close each card by the builder's one call (the guide's Derived/Test/ToyasCard.lean, 'card_holds'). Laid BY PROGRAM, IN A SANDBOX (cutbox-door.mjs). By AI agents, Wed Nov 11 2026. No macro, syntax, notation, axiom, sorry.
-/
import Derived.Test.YtpblellbffmolaaGreatDoorRows
import GoSem.ClaimSeven
namespace Go.Proofs.YtpblellbffmolaaGreatDoor
namespace Rows

/-- THE TIED CARD OF 'rungworkkeep.ScanBlocks'. -/
def scanBlocksCard : Claim7 := { stood := { row := scanBlocksRow, standIns := [], harness := (true, "f7ee3a3578a56abde1e6b159ff7e0c4c2c7f11607b8e2c109d4c9416f32df9f8"), looks := true }, kinds := [], alts := [], laidByText := true, laidKinds := [.data, .data, .data, .data, .data, .data, .data, .data, .pinned], laidTests := true, laidLooks := .later }
def ScanBlocksCardSaid : Prop := Claim7.holds Tryz.pinned (.plain (OpenSpec.ofChange scanBlocksSpec)) scanBlocksCard

/-- THE TIED CARD OF 'rungworkkeep.ScanPrinted'. -/
def scanPrintedCard : Claim7 := { stood := { row := scanPrintedRow, standIns := [], harness := (true, "f7ee3a3578a56abde1e6b159ff7e0c4c2c7f11607b8e2c109d4c9416f32df9f8"), looks := true }, kinds := [], alts := [], laidByText := true, laidKinds := [.data, .data, .data, .data, .data, .data, .data, .data, .pinned], laidTests := true, laidLooks := .later }
def ScanPrintedCardSaid : Prop := Claim7.holds Tryz.pinned (.plain (OpenSpec.ofChange scanPrintedSpec)) scanPrintedCard

/-- THE SECOND FORM's CARD OF 'rungworkkeep.ScanBlocks'. -/
def scanBlocksUptoCard : Claim7 := { stood := { row := scanBlocksUptoRow, standIns := [], harness := (true, "f7ee3a3578a56abde1e6b159ff7e0c4c2c7f11607b8e2c109d4c9416f32df9f8"), looks := true }, kinds := [], alts := [], laidByText := true, laidKinds := [.data, .data, .data, .data, .data, .data, .data, .data, .pinned], laidTests := true, laidLooks := .later }
def ScanBlocksUptoCardSaid : Prop := Claim7.holds Tryz.pinned (.plain (OpenSpec.upto scanBlocksSpec)) scanBlocksUptoCard

/-- THE SECOND FORM's CARD OF 'rungworkkeep.ScanPrinted'. -/
def scanPrintedUptoCard : Claim7 := { stood := { row := scanPrintedUptoRow, standIns := [], harness := (true, "f7ee3a3578a56abde1e6b159ff7e0c4c2c7f11607b8e2c109d4c9416f32df9f8"), looks := true }, kinds := [], alts := [], laidByText := true, laidKinds := [.data, .data, .data, .data, .data, .data, .data, .data, .pinned], laidTests := true, laidLooks := .later }
def ScanPrintedUptoCardSaid : Prop := Claim7.holds Tryz.pinned (.plain (OpenSpec.upto scanPrintedSpec)) scanPrintedUptoCard
end Rows
end Go.Proofs.YtpblellbffmolaaGreatDoor
