/-
  DERIVED. GIVEN WITH THE SEED: THE CARDS: each row of YtdiackcefojfkaaGreatDoorRows.lean that lists a variable, with what it lists TIED to the program's text (the seventh form; the later family's looks); each row that meets fmt, with fmt's text TOLD by the authors' own Lean function (tested against real Go, not proved from fmt's source: count such statements apart). THE CARD IS WHAT COUNTS. Prove the row's statement (the work); the ties are given (YtdiackcefojfkaaGreatDoorTie.lean); close each card by the builder's one call (the guide's Derived/Test/ToyasCard.lean, 'card_holds'). Laid BY PROGRAM, IN A SANDBOX (cutbox-door.mjs). By AI agents, Wed Nov 11 2026. No macro, syntax, notation, axiom, sorry.
-/
import Derived.Test.YtdiackcefojfkaaGreatDoorRows
import GoSem.ClaimSeven
namespace Go.Proofs.YtdiackcefojfkaaGreatDoor
namespace Rows

/-- THE TIED CARD OF 'testbenchlaw08.ExprShapes'. -/
def exprShapesCard : Claim7 := { stood := { row := exprShapesRow, standIns := [], harness := (true, "87a97efec43b54f8deef063d6ef1d04cc595149a9221ba977ec2681d836af86b"), looks := true }, kinds := [], alts := [], laidByText := true, laidKinds := [.data, .data, .data, .sentinel, .sentinel], laidTests := true, laidLooks := .later }
def ExprShapesCardSaid : Prop := Claim7.holds Tryz.pinned (.plain (OpenSpec.ofChange exprShapesSpec)) exprShapesCard

/-- THE TIED CARD OF 'testbenchlaw08.ExprChecks'. -/
def exprChecksCard : Claim7 := { stood := { row := exprChecksRow, standIns := [], harness := (true, "87a97efec43b54f8deef063d6ef1d04cc595149a9221ba977ec2681d836af86b"), looks := true }, kinds := [], alts := [], laidByText := true, laidKinds := [.data, .data, .data, .sentinel, .sentinel], laidTests := true, laidLooks := .later }
def ExprChecksCardSaid : Prop := Claim7.holds Tryz.pinned (.plain (OpenSpec.ofChange exprChecksSpec)) exprChecksCard

/-- THE TIED CARD OF 'testbenchlaw08.ExprEvals'. -/
def exprEvalsCard : Claim7 := { stood := { row := exprEvalsRow, standIns := [], harness := (true, "87a97efec43b54f8deef063d6ef1d04cc595149a9221ba977ec2681d836af86b"), looks := true }, kinds := [], alts := [], laidByText := true, laidKinds := [.data, .data, .data, .sentinel, .sentinel], laidTests := true, laidLooks := .later }
def ExprEvalsCardSaid : Prop := Claim7.holds Tryz.pinned (.plain (OpenSpec.ofChange exprEvalsSpec)) exprEvalsCard

/-- THE TIED CARD OF 'testbenchlaw08.ExprFolds'. -/
def exprFoldsCard : Claim7 := { stood := { row := exprFoldsRow, standIns := [], harness := (true, "87a97efec43b54f8deef063d6ef1d04cc595149a9221ba977ec2681d836af86b"), looks := true }, kinds := [], alts := [], laidByText := true, laidKinds := [.data, .data, .data, .sentinel, .sentinel], laidTests := true, laidLooks := .later }
def ExprFoldsCardSaid : Prop := Claim7.holds Tryz.pinned (.plain (OpenSpec.ofChange exprFoldsSpec)) exprFoldsCard

/-- THE TIED CARD OF 'testbenchlaw08.ExprSubsts'. -/
def exprSubstsCard : Claim7 := { stood := { row := exprSubstsRow, standIns := [], harness := (true, "87a97efec43b54f8deef063d6ef1d04cc595149a9221ba977ec2681d836af86b"), looks := true }, kinds := [], alts := [], laidByText := true, laidKinds := [.data, .data, .data, .sentinel, .sentinel], laidTests := true, laidLooks := .later }
def ExprSubstsCardSaid : Prop := Claim7.holds Tryz.pinned (.plain (OpenSpec.ofChange exprSubstsSpec)) exprSubstsCard

/-- THE TIED CARD OF 'testbenchlaw08.ExprReplaces'. -/
def exprReplacesCard : Claim7 := { stood := { row := exprReplacesRow, standIns := [], harness := (true, "87a97efec43b54f8deef063d6ef1d04cc595149a9221ba977ec2681d836af86b"), looks := true }, kinds := [], alts := [], laidByText := true, laidKinds := [.data, .data, .data, .sentinel, .sentinel], laidTests := true, laidLooks := .later }
def ExprReplacesCardSaid : Prop := Claim7.holds Tryz.pinned (.plain (OpenSpec.ofChange exprReplacesSpec)) exprReplacesCard

/-- THE TIED CARD OF 'testbenchlaw08.ExprSame'. -/
def exprSameCard : Claim7 := { stood := { row := exprSameRow, standIns := [], harness := (true, "87a97efec43b54f8deef063d6ef1d04cc595149a9221ba977ec2681d836af86b"), looks := true }, kinds := [], alts := [], laidByText := true, laidKinds := [.data, .data, .data, .sentinel, .sentinel], laidTests := true, laidLooks := .later }
def ExprSameCardSaid : Prop := Claim7.holds Tryz.pinned (.plain (OpenSpec.ofChange exprSameSpec)) exprSameCard

/-- THE TIED CARD OF 'testbenchlaw08.ExprKnows'. -/
def exprKnowsCard : Claim7 := { stood := { row := exprKnowsRow, standIns := [], harness := (true, "87a97efec43b54f8deef063d6ef1d04cc595149a9221ba977ec2681d836af86b"), looks := true }, kinds := [], alts := [], laidByText := true, laidKinds := [.data, .data, .data, .sentinel, .sentinel], laidTests := true, laidLooks := .later }
def ExprKnowsCardSaid : Prop := Claim7.holds Tryz.pinned (.plain (OpenSpec.ofChange exprKnowsSpec)) exprKnowsCard

/-- THE SECOND FORM's CARD OF 'testbenchlaw08.ExprShapes'. -/
def exprShapesUptoCard : Claim7 := { stood := { row := exprShapesUptoRow, standIns := [], harness := (true, "87a97efec43b54f8deef063d6ef1d04cc595149a9221ba977ec2681d836af86b"), looks := true }, kinds := [], alts := [], laidByText := true, laidKinds := [.data, .data, .data, .sentinel, .sentinel], laidTests := true, laidLooks := .later }
def ExprShapesUptoCardSaid : Prop := Claim7.holds Tryz.pinned (.plain (OpenSpec.upto exprShapesSpec)) exprShapesUptoCard

/-- THE SECOND FORM's CARD OF 'testbenchlaw08.ExprChecks'. -/
def exprChecksUptoCard : Claim7 := { stood := { row := exprChecksUptoRow, standIns := [], harness := (true, "87a97efec43b54f8deef063d6ef1d04cc595149a9221ba977ec2681d836af86b"), looks := true }, kinds := [], alts := [], laidByText := true, laidKinds := [.data, .data, .data, .sentinel, .sentinel], laidTests := true, laidLooks := .later }
def ExprChecksUptoCardSaid : Prop := Claim7.holds Tryz.pinned (.plain (OpenSpec.upto exprChecksSpec)) exprChecksUptoCard

/-- THE SECOND FORM's CARD OF 'testbenchlaw08.ExprEvals'. -/
def exprEvalsUptoCard : Claim7 := { stood := { row := exprEvalsUptoRow, standIns := [], harness := (true, "87a97efec43b54f8deef063d6ef1d04cc595149a9221ba977ec2681d836af86b"), looks := true }, kinds := [], alts := [], laidByText := true, laidKinds := [.data, .data, .data, .sentinel, .sentinel], laidTests := true, laidLooks := .later }
def ExprEvalsUptoCardSaid : Prop := Claim7.holds Tryz.pinned (.plain (OpenSpec.upto exprEvalsSpec)) exprEvalsUptoCard

/-- THE SECOND FORM's CARD OF 'testbenchlaw08.ExprFolds'. -/
def exprFoldsUptoCard : Claim7 := { stood := { row := exprFoldsUptoRow, standIns := [], harness := (true, "87a97efec43b54f8deef063d6ef1d04cc595149a9221ba977ec2681d836af86b"), looks := true }, kinds := [], alts := [], laidByText := true, laidKinds := [.data, .data, .data, .sentinel, .sentinel], laidTests := true, laidLooks := .later }
def ExprFoldsUptoCardSaid : Prop := Claim7.holds Tryz.pinned (.plain (OpenSpec.upto exprFoldsSpec)) exprFoldsUptoCard

/-- THE SECOND FORM's CARD OF 'testbenchlaw08.ExprSubsts'. -/
def exprSubstsUptoCard : Claim7 := { stood := { row := exprSubstsUptoRow, standIns := [], harness := (true, "87a97efec43b54f8deef063d6ef1d04cc595149a9221ba977ec2681d836af86b"), looks := true }, kinds := [], alts := [], laidByText := true, laidKinds := [.data, .data, .data, .sentinel, .sentinel], laidTests := true, laidLooks := .later }
def ExprSubstsUptoCardSaid : Prop := Claim7.holds Tryz.pinned (.plain (OpenSpec.upto exprSubstsSpec)) exprSubstsUptoCard

/-- THE SECOND FORM's CARD OF 'testbenchlaw08.ExprReplaces'. -/
def exprReplacesUptoCard : Claim7 := { stood := { row := exprReplacesUptoRow, standIns := [], harness := (true, "87a97efec43b54f8deef063d6ef1d04cc595149a9221ba977ec2681d836af86b"), looks := true }, kinds := [], alts := [], laidByText := true, laidKinds := [.data, .data, .data, .sentinel, .sentinel], laidTests := true, laidLooks := .later }
def ExprReplacesUptoCardSaid : Prop := Claim7.holds Tryz.pinned (.plain (OpenSpec.upto exprReplacesSpec)) exprReplacesUptoCard

/-- THE SECOND FORM's CARD OF 'testbenchlaw08.ExprSame'. -/
def exprSameUptoCard : Claim7 := { stood := { row := exprSameUptoRow, standIns := [], harness := (true, "87a97efec43b54f8deef063d6ef1d04cc595149a9221ba977ec2681d836af86b"), looks := true }, kinds := [], alts := [], laidByText := true, laidKinds := [.data, .data, .data, .sentinel, .sentinel], laidTests := true, laidLooks := .later }
def ExprSameUptoCardSaid : Prop := Claim7.holds Tryz.pinned (.plain (OpenSpec.upto exprSameSpec)) exprSameUptoCard

/-- THE SECOND FORM's CARD OF 'testbenchlaw08.ExprKnows'. -/
def exprKnowsUptoCard : Claim7 := { stood := { row := exprKnowsUptoRow, standIns := [], harness := (true, "87a97efec43b54f8deef063d6ef1d04cc595149a9221ba977ec2681d836af86b"), looks := true }, kinds := [], alts := [], laidByText := true, laidKinds := [.data, .data, .data, .sentinel, .sentinel], laidTests := true, laidLooks := .later }
def ExprKnowsUptoCardSaid : Prop := Claim7.holds Tryz.pinned (.plain (OpenSpec.upto exprKnowsSpec)) exprKnowsUptoCard
end Rows
end Go.Proofs.YtdiackcefojfkaaGreatDoor
