/-
  DERIVED. GIVEN WITH THE SEED: THE CARDS: each row of YtoigjeoncdfdmaaGreatDoorRows.lean that lists a variable, with what it lists TIED to the program's text (the seventh form; the later family's looks); each row that meets fmt, with fmt's text TOLD by the authors' own Lean function (tested against real Go, not proved from fmt's source: count such statements apart). THE CARD IS WHAT COUNTS. Prove the row's statement (the work); the ties are given (YtoigjeoncdfdmaaGreatDoorTie.lean); close each card by the builder's one call (the guide's Derived/Test/ToyasCard.lean, 'card_holds'). Laid BY PROGRAM, IN A SANDBOX (cutbox-door.mjs). By AI agents, Wed Nov 11 2026. No macro, syntax, notation, axiom, sorry.
-/
import Derived.Test.YtoigjeoncdfdmaaGreatDoorRows
import GoSem.ClaimSeven
namespace Go.Proofs.YtoigjeoncdfdmaaGreatDoor
namespace Rows

/-- THE TIED CARD OF 'testbenchlaw10.ClassValid'. -/
def classValidCard : Claim7 := { stood := { row := classValidRow, standIns := [], harness := (true, "e78d7f2e0ebb00c70662654fc089d1b5a52011909eebb79d9e369bc81ddcfbc6"), looks := true }, kinds := [], alts := [], laidByText := true, laidKinds := [.data, .data, .data, .sentinel, .sentinel], laidTests := true, laidLooks := .later }
def ClassValidCardSaid : Prop := Claim7.holds Tryz.pinned (.plain (OpenSpec.ofChange classValidSpec)) classValidCard

/-- THE TIED CARD OF 'testbenchlaw10.ClassChecks'. -/
def classChecksCard : Claim7 := { stood := { row := classChecksRow, standIns := [], harness := (true, "e78d7f2e0ebb00c70662654fc089d1b5a52011909eebb79d9e369bc81ddcfbc6"), looks := true }, kinds := [], alts := [], laidByText := true, laidKinds := [.data, .data, .data, .sentinel, .sentinel], laidTests := true, laidLooks := .later }
def ClassChecksCardSaid : Prop := Claim7.holds Tryz.pinned (.plain (OpenSpec.ofChange classChecksSpec)) classChecksCard

/-- THE TIED CARD OF 'testbenchlaw10.ClassLines'. -/
def classLinesCard : Claim7 := { stood := { row := classLinesRow, standIns := [], harness := (true, "e78d7f2e0ebb00c70662654fc089d1b5a52011909eebb79d9e369bc81ddcfbc6"), looks := true }, kinds := [], alts := [], laidByText := true, laidKinds := [.data, .data, .data, .sentinel, .sentinel], laidTests := true, laidLooks := .later }
def ClassLinesCardSaid : Prop := Claim7.holds Tryz.pinned (.plain (OpenSpec.ofChange classLinesSpec)) classLinesCard

/-- THE TIED CARD OF 'testbenchlaw10.ClassFlattens'. -/
def classFlattensCard : Claim7 := { stood := { row := classFlattensRow, standIns := [], harness := (true, "e78d7f2e0ebb00c70662654fc089d1b5a52011909eebb79d9e369bc81ddcfbc6"), looks := true }, kinds := [], alts := [], laidByText := true, laidKinds := [.data, .data, .data, .sentinel, .sentinel], laidTests := true, laidLooks := .later }
def ClassFlattensCardSaid : Prop := Claim7.holds Tryz.pinned (.plain (OpenSpec.ofChange classFlattensSpec)) classFlattensCard

/-- THE TIED CARD OF 'testbenchlaw10.ClassTurns'. -/
def classTurnsCard : Claim7 := { stood := { row := classTurnsRow, standIns := [], harness := (true, "e78d7f2e0ebb00c70662654fc089d1b5a52011909eebb79d9e369bc81ddcfbc6"), looks := true }, kinds := [], alts := [], laidByText := true, laidKinds := [.data, .data, .data, .sentinel, .sentinel], laidTests := true, laidLooks := .later }
def ClassTurnsCardSaid : Prop := Claim7.holds Tryz.pinned (.plain (OpenSpec.ofChange classTurnsSpec)) classTurnsCard

/-- THE TIED CARD OF 'testbenchlaw10.ClassBlocks'. -/
def classBlocksCard : Claim7 := { stood := { row := classBlocksRow, standIns := [], harness := (true, "e78d7f2e0ebb00c70662654fc089d1b5a52011909eebb79d9e369bc81ddcfbc6"), looks := true }, kinds := [], alts := [], laidByText := true, laidKinds := [.data, .data, .data, .sentinel, .sentinel], laidTests := true, laidLooks := .later }
def ClassBlocksCardSaid : Prop := Claim7.holds Tryz.pinned (.plain (OpenSpec.ofChange classBlocksSpec)) classBlocksCard

/-- THE SECOND FORM's CARD OF 'testbenchlaw10.ClassValid'. -/
def classValidUptoCard : Claim7 := { stood := { row := classValidUptoRow, standIns := [], harness := (true, "e78d7f2e0ebb00c70662654fc089d1b5a52011909eebb79d9e369bc81ddcfbc6"), looks := true }, kinds := [], alts := [], laidByText := true, laidKinds := [.data, .data, .data, .sentinel, .sentinel], laidTests := true, laidLooks := .later }
def ClassValidUptoCardSaid : Prop := Claim7.holds Tryz.pinned (.plain (OpenSpec.upto classValidSpec)) classValidUptoCard

/-- THE SECOND FORM's CARD OF 'testbenchlaw10.ClassChecks'. -/
def classChecksUptoCard : Claim7 := { stood := { row := classChecksUptoRow, standIns := [], harness := (true, "e78d7f2e0ebb00c70662654fc089d1b5a52011909eebb79d9e369bc81ddcfbc6"), looks := true }, kinds := [], alts := [], laidByText := true, laidKinds := [.data, .data, .data, .sentinel, .sentinel], laidTests := true, laidLooks := .later }
def ClassChecksUptoCardSaid : Prop := Claim7.holds Tryz.pinned (.plain (OpenSpec.upto classChecksSpec)) classChecksUptoCard

/-- THE SECOND FORM's CARD OF 'testbenchlaw10.ClassLines'. -/
def classLinesUptoCard : Claim7 := { stood := { row := classLinesUptoRow, standIns := [], harness := (true, "e78d7f2e0ebb00c70662654fc089d1b5a52011909eebb79d9e369bc81ddcfbc6"), looks := true }, kinds := [], alts := [], laidByText := true, laidKinds := [.data, .data, .data, .sentinel, .sentinel], laidTests := true, laidLooks := .later }
def ClassLinesUptoCardSaid : Prop := Claim7.holds Tryz.pinned (.plain (OpenSpec.upto classLinesSpec)) classLinesUptoCard

/-- THE SECOND FORM's CARD OF 'testbenchlaw10.ClassFlattens'. -/
def classFlattensUptoCard : Claim7 := { stood := { row := classFlattensUptoRow, standIns := [], harness := (true, "e78d7f2e0ebb00c70662654fc089d1b5a52011909eebb79d9e369bc81ddcfbc6"), looks := true }, kinds := [], alts := [], laidByText := true, laidKinds := [.data, .data, .data, .sentinel, .sentinel], laidTests := true, laidLooks := .later }
def ClassFlattensUptoCardSaid : Prop := Claim7.holds Tryz.pinned (.plain (OpenSpec.upto classFlattensSpec)) classFlattensUptoCard

/-- THE SECOND FORM's CARD OF 'testbenchlaw10.ClassTurns'. -/
def classTurnsUptoCard : Claim7 := { stood := { row := classTurnsUptoRow, standIns := [], harness := (true, "e78d7f2e0ebb00c70662654fc089d1b5a52011909eebb79d9e369bc81ddcfbc6"), looks := true }, kinds := [], alts := [], laidByText := true, laidKinds := [.data, .data, .data, .sentinel, .sentinel], laidTests := true, laidLooks := .later }
def ClassTurnsUptoCardSaid : Prop := Claim7.holds Tryz.pinned (.plain (OpenSpec.upto classTurnsSpec)) classTurnsUptoCard

/-- THE SECOND FORM's CARD OF 'testbenchlaw10.ClassBlocks'. -/
def classBlocksUptoCard : Claim7 := { stood := { row := classBlocksUptoRow, standIns := [], harness := (true, "e78d7f2e0ebb00c70662654fc089d1b5a52011909eebb79d9e369bc81ddcfbc6"), looks := true }, kinds := [], alts := [], laidByText := true, laidKinds := [.data, .data, .data, .sentinel, .sentinel], laidTests := true, laidLooks := .later }
def ClassBlocksUptoCardSaid : Prop := Claim7.holds Tryz.pinned (.plain (OpenSpec.upto classBlocksSpec)) classBlocksUptoCard
end Rows
end Go.Proofs.YtoigjeoncdfdmaaGreatDoor
