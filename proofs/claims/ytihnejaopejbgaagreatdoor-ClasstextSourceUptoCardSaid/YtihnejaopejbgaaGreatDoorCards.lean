/-
  DERIVED. GIVEN WITH THE SEED: THE CARDS: each row of YtihnejaopejbgaaGreatDoorRows.lean that lists a variable, with what it lists TIED to the program's text (the seventh form; the later family's looks); each row that meets fmt, with fmt's text TOLD by the authors' own Lean function (tested against real Go, not proved from fmt's source: count such statements apart). THE CARD IS WHAT COUNTS. Prove the row's statement (the work); the ties are given (YtihnejaopejbgaaGreatDoorTie.lean); close each card by the builder's one call (the guide's Derived/Test/ToyasCard.lean, 'card_holds'). Laid BY PROGRAM, IN A SANDBOX (cutbox-door.mjs). By AI agents, Wed Nov 11 2026. No macro, syntax, notation, axiom, sorry.
-/
import Derived.Test.YtihnejaopejbgaaGreatDoorRows
import GoSem.ClaimSeven
namespace Go.Proofs.YtihnejaopejbgaaGreatDoor
namespace Rows

/-- THE TIED CARD OF 'testbenchlaw12.ClasstextWeights'. -/
def classtextWeightsCard : Claim7 := { stood := { row := classtextWeightsRow, standIns := [], harness := (true, "24f72ff85ac127947badd7f3b2e6a35b60e9000e30a9e638d92fc92f76f04333"), looks := true }, kinds := [], alts := [], laidByText := true, laidKinds := [.data, .data, .data, .sentinel, .sentinel, .data, .data], laidTests := true, laidLooks := .later }
def ClasstextWeightsCardSaid : Prop := Claim7.holds Tryz.pinned (.plain (OpenSpec.ofChange classtextWeightsSpec)) classtextWeightsCard

/-- THE TIED CARD OF 'testbenchlaw12.ClasstextItems'. -/
def classtextItemsCard : Claim7 := { stood := { row := classtextItemsRow, standIns := [], harness := (true, "24f72ff85ac127947badd7f3b2e6a35b60e9000e30a9e638d92fc92f76f04333"), looks := true }, kinds := [], alts := [], laidByText := true, laidKinds := [.data, .data, .data, .sentinel, .sentinel, .data, .data], laidTests := true, laidLooks := .later }
def ClasstextItemsCardSaid : Prop := Claim7.holds Tryz.pinned (.plain (OpenSpec.ofChange classtextItemsSpec)) classtextItemsCard

/-- THE TIED CARD OF 'testbenchlaw12.ClasstextPrints'. -/
def classtextPrintsCard : Claim7 := { stood := { row := classtextPrintsRow, standIns := [], harness := (true, "24f72ff85ac127947badd7f3b2e6a35b60e9000e30a9e638d92fc92f76f04333"), looks := true }, kinds := [], alts := [], laidByText := true, laidKinds := [.data, .data, .data, .sentinel, .sentinel, .data, .data], laidTests := true, laidLooks := .later }
def ClasstextPrintsCardSaid : Prop := Claim7.holds Tryz.pinned (.plain (OpenSpec.ofChange classtextPrintsSpec)) classtextPrintsCard

/-- THE TIED CARD OF 'testbenchlaw12.ClasstextSource'. -/
def classtextSourceCard : Claim7 := { stood := { row := classtextSourceRow, standIns := [], harness := (true, "24f72ff85ac127947badd7f3b2e6a35b60e9000e30a9e638d92fc92f76f04333"), looks := true }, kinds := [], alts := [], laidByText := true, laidKinds := [.data, .data, .data, .sentinel, .sentinel, .data, .data], laidTests := true, laidLooks := .later }
def ClasstextSourceCardSaid : Prop := Claim7.holds Tryz.pinned (.plain (OpenSpec.ofChange classtextSourceSpec)) classtextSourceCard

/-- THE TIED CARD OF 'testbenchlaw12.ClasstextDistinct'. -/
def classtextDistinctCard : Claim7 := { stood := { row := classtextDistinctRow, standIns := [], harness := (true, "24f72ff85ac127947badd7f3b2e6a35b60e9000e30a9e638d92fc92f76f04333"), looks := true }, kinds := [], alts := [], laidByText := true, laidKinds := [.data, .data, .data, .sentinel, .sentinel, .data, .data], laidTests := true, laidLooks := .later }
def ClasstextDistinctCardSaid : Prop := Claim7.holds Tryz.pinned (.plain (OpenSpec.ofChange classtextDistinctSpec)) classtextDistinctCard

/-- THE TIED CARD OF 'testbenchlaw12.ClasstextComposes'. -/
def classtextComposesCard : Claim7 := { stood := { row := classtextComposesRow, standIns := [], harness := (true, "24f72ff85ac127947badd7f3b2e6a35b60e9000e30a9e638d92fc92f76f04333"), looks := true }, kinds := [], alts := [], laidByText := true, laidKinds := [.data, .data, .data, .sentinel, .sentinel, .data, .data], laidTests := true, laidLooks := .later }
def ClasstextComposesCardSaid : Prop := Claim7.holds Tryz.pinned (.plain (OpenSpec.ofChange classtextComposesSpec)) classtextComposesCard

/-- THE TIED CARD OF 'testbenchlaw12.ClasstextLines'. -/
def classtextLinesCard : Claim7 := { stood := { row := classtextLinesRow, standIns := [], harness := (true, "24f72ff85ac127947badd7f3b2e6a35b60e9000e30a9e638d92fc92f76f04333"), looks := true }, kinds := [], alts := [], laidByText := true, laidKinds := [.data, .data, .data, .sentinel, .sentinel, .data, .data], laidTests := true, laidLooks := .later }
def ClasstextLinesCardSaid : Prop := Claim7.holds Tryz.pinned (.plain (OpenSpec.ofChange classtextLinesSpec)) classtextLinesCard

/-- THE SECOND FORM's CARD OF 'testbenchlaw12.ClasstextWeights'. -/
def classtextWeightsUptoCard : Claim7 := { stood := { row := classtextWeightsUptoRow, standIns := [], harness := (true, "24f72ff85ac127947badd7f3b2e6a35b60e9000e30a9e638d92fc92f76f04333"), looks := true }, kinds := [], alts := [], laidByText := true, laidKinds := [.data, .data, .data, .sentinel, .sentinel, .data, .data], laidTests := true, laidLooks := .later }
def ClasstextWeightsUptoCardSaid : Prop := Claim7.holds Tryz.pinned (.plain (OpenSpec.upto classtextWeightsSpec)) classtextWeightsUptoCard

/-- THE SECOND FORM's CARD OF 'testbenchlaw12.ClasstextItems'. -/
def classtextItemsUptoCard : Claim7 := { stood := { row := classtextItemsUptoRow, standIns := [], harness := (true, "24f72ff85ac127947badd7f3b2e6a35b60e9000e30a9e638d92fc92f76f04333"), looks := true }, kinds := [], alts := [], laidByText := true, laidKinds := [.data, .data, .data, .sentinel, .sentinel, .data, .data], laidTests := true, laidLooks := .later }
def ClasstextItemsUptoCardSaid : Prop := Claim7.holds Tryz.pinned (.plain (OpenSpec.upto classtextItemsSpec)) classtextItemsUptoCard

/-- THE SECOND FORM's CARD OF 'testbenchlaw12.ClasstextPrints'. -/
def classtextPrintsUptoCard : Claim7 := { stood := { row := classtextPrintsUptoRow, standIns := [], harness := (true, "24f72ff85ac127947badd7f3b2e6a35b60e9000e30a9e638d92fc92f76f04333"), looks := true }, kinds := [], alts := [], laidByText := true, laidKinds := [.data, .data, .data, .sentinel, .sentinel, .data, .data], laidTests := true, laidLooks := .later }
def ClasstextPrintsUptoCardSaid : Prop := Claim7.holds Tryz.pinned (.plain (OpenSpec.upto classtextPrintsSpec)) classtextPrintsUptoCard

/-- THE SECOND FORM's CARD OF 'testbenchlaw12.ClasstextSource'. -/
def classtextSourceUptoCard : Claim7 := { stood := { row := classtextSourceUptoRow, standIns := [], harness := (true, "24f72ff85ac127947badd7f3b2e6a35b60e9000e30a9e638d92fc92f76f04333"), looks := true }, kinds := [], alts := [], laidByText := true, laidKinds := [.data, .data, .data, .sentinel, .sentinel, .data, .data], laidTests := true, laidLooks := .later }
def ClasstextSourceUptoCardSaid : Prop := Claim7.holds Tryz.pinned (.plain (OpenSpec.upto classtextSourceSpec)) classtextSourceUptoCard

/-- THE SECOND FORM's CARD OF 'testbenchlaw12.ClasstextDistinct'. -/
def classtextDistinctUptoCard : Claim7 := { stood := { row := classtextDistinctUptoRow, standIns := [], harness := (true, "24f72ff85ac127947badd7f3b2e6a35b60e9000e30a9e638d92fc92f76f04333"), looks := true }, kinds := [], alts := [], laidByText := true, laidKinds := [.data, .data, .data, .sentinel, .sentinel, .data, .data], laidTests := true, laidLooks := .later }
def ClasstextDistinctUptoCardSaid : Prop := Claim7.holds Tryz.pinned (.plain (OpenSpec.upto classtextDistinctSpec)) classtextDistinctUptoCard

/-- THE SECOND FORM's CARD OF 'testbenchlaw12.ClasstextComposes'. -/
def classtextComposesUptoCard : Claim7 := { stood := { row := classtextComposesUptoRow, standIns := [], harness := (true, "24f72ff85ac127947badd7f3b2e6a35b60e9000e30a9e638d92fc92f76f04333"), looks := true }, kinds := [], alts := [], laidByText := true, laidKinds := [.data, .data, .data, .sentinel, .sentinel, .data, .data], laidTests := true, laidLooks := .later }
def ClasstextComposesUptoCardSaid : Prop := Claim7.holds Tryz.pinned (.plain (OpenSpec.upto classtextComposesSpec)) classtextComposesUptoCard

/-- THE SECOND FORM's CARD OF 'testbenchlaw12.ClasstextLines'. -/
def classtextLinesUptoCard : Claim7 := { stood := { row := classtextLinesUptoRow, standIns := [], harness := (true, "24f72ff85ac127947badd7f3b2e6a35b60e9000e30a9e638d92fc92f76f04333"), looks := true }, kinds := [], alts := [], laidByText := true, laidKinds := [.data, .data, .data, .sentinel, .sentinel, .data, .data], laidTests := true, laidLooks := .later }
def ClasstextLinesUptoCardSaid : Prop := Claim7.holds Tryz.pinned (.plain (OpenSpec.upto classtextLinesSpec)) classtextLinesUptoCard
end Rows
end Go.Proofs.YtihnejaopejbgaaGreatDoor
