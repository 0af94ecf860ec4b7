/-
  No cell of these rows narrows 'for every input' (looked for: loops, veiled, ifaces, maps, wideKeys, modest, calm, conditions, laid).
  DERIVED. THE GIVEN ROWS OF THIS SEAT. 7 by the template 'for every input the law returns true; each argument reads behind the call as it read before'; 0 by the template 'total and deterministic' (their statements: YtahjgepjhihhjaaTotals.lean).
  GIVEN WITH THE SEED: the statements are not yours to turn. If you find one false, say at which input.
  Laid BY PROGRAM, IN A SANDBOX (cutbox-rows.mjs): the forced cells as the released guide's own fill.sh prints them over the translation 6824f6bd53be1ae8… (all of the seat's roots in one cut). By AI agents, Wed Nov 11 2026. No macro, syntax, notation, axiom, sorry.
-/
import Derived.Test.YtahjgepjhihhjaaChecked
import GoSem.Claim
import GoSem.ClaimJoined
import GoSem.ClaimMapViews
import Derived.JoinedTies
import Derived.KernelRfl
namespace Go.Proofs.Ytahjgepjhihhjaa
/- THE CELL 'sum', in the pinned program and in every row, IS THE sha256 OF THE DUMP (.gsa) THAT YtahjgepjhihhjaaProg.lean LOADS. Nothing in Lean hashes anything: it is a label: what it is worth is what the hold of that sum in a sandbox is worth. -/
noncomputable def Try.pinned : Pinned := { name := "ytahjgepjhihhjaa", sum := "6824f6bd53be1ae8428bd4f3b30907ddb535853a2b845c370ffe84166db14028", checked := Try.checked }
namespace Rows
def none {H : Type} : Left H := { results := [], args := [] }

/-- 'testbenchlaw06.RngStreams': WHATEVER THE INPUT: true; the input reads as it did. -/
def rngStreamsSpec : ChangeSpec := { name := "rngStreams", fn := fun _ => fun
  | [d1, d2, d3] => { results := [.lit (.bool true)], args := [d1, d2, d3] }
  | _ => none }
def rngStreamsRow : OpenClaim := { program := "ytahjgepjhihhjaa", sum := "6824f6bd53be1ae8428bd4f3b30907ddb535853a2b845c370ffe84166db14028", func := "testbench/testbenchlaw06.RngStreams", spec := "rngStreams", unfollowed := true, recurses := true, apart := false }
def RngStreamsSaid : Prop := rngStreamsRow.holds Try.pinned (OpenSpec.ofChange rngStreamsSpec)

/-- ITS FALSE NEIGHBOUR: 'it returns false'. Refute it at one input. -/
def rngStreamsWrong : ChangeSpec := { name := "rngStreams", fn := fun _ => fun
  | [d1, d2, d3] => { results := [.lit (.bool false)], args := [d1, d2, d3] }
  | _ => none }
def RngStreamsWrongFalsely : Prop := rngStreamsRow.holds Try.pinned (OpenSpec.ofChange rngStreamsWrong)

/-- 'testbenchlaw06.RngBelow': WHATEVER THE INPUT: true; the input reads as it did. -/
def rngBelowSpec : ChangeSpec := { name := "rngBelow", fn := fun _ => fun
  | [d1, d2] => { results := [.lit (.bool true)], args := [d1, d2] }
  | _ => none }
def rngBelowRow : OpenClaim := { program := "ytahjgepjhihhjaa", sum := "6824f6bd53be1ae8428bd4f3b30907ddb535853a2b845c370ffe84166db14028", func := "testbench/testbenchlaw06.RngBelow", spec := "rngBelow", unfollowed := true, recurses := true, apart := false }
def RngBelowSaid : Prop := rngBelowRow.holds Try.pinned (OpenSpec.ofChange rngBelowSpec)

/-- ITS FALSE NEIGHBOUR: 'it returns false'. Refute it at one input. -/
def rngBelowWrong : ChangeSpec := { name := "rngBelow", fn := fun _ => fun
  | [d1, d2] => { results := [.lit (.bool false)], args := [d1, d2] }
  | _ => none }
def RngBelowWrongFalsely : Prop := rngBelowRow.holds Try.pinned (OpenSpec.ofChange rngBelowWrong)

/-- 'testbenchlaw06.RngWeighted': WHATEVER THE INPUT: true; the input reads as it did. -/
def rngWeightedSpec : ChangeSpec := { name := "rngWeighted", fn := fun _ => fun
  | [d1, d2] => { results := [.lit (.bool true)], args := [d1, d2] }
  | _ => none }
def rngWeightedRow : OpenClaim := { program := "ytahjgepjhihhjaa", sum := "6824f6bd53be1ae8428bd4f3b30907ddb535853a2b845c370ffe84166db14028", func := "testbench/testbenchlaw06.RngWeighted", spec := "rngWeighted", unfollowed := true, recurses := true, apart := false }
def RngWeightedSaid : Prop := rngWeightedRow.holds Try.pinned (OpenSpec.ofChange rngWeightedSpec)

/-- ITS FALSE NEIGHBOUR: 'it returns false'. Refute it at one input. -/
def rngWeightedWrong : ChangeSpec := { name := "rngWeighted", fn := fun _ => fun
  | [d1, d2] => { results := [.lit (.bool false)], args := [d1, d2] }
  | _ => none }
def RngWeightedWrongFalsely : Prop := rngWeightedRow.holds Try.pinned (OpenSpec.ofChange rngWeightedWrong)

/-- 'testbenchlaw06.RngShuffle': WHATEVER THE INPUT: true; the input reads as it did. -/
def rngShuffleSpec : ChangeSpec := { name := "rngShuffle", fn := fun _ => fun
  | [d1, d2] => { results := [.lit (.bool true)], args := [d1, d2] }
  | _ => none }
def rngShuffleRow : OpenClaim := { program := "ytahjgepjhihhjaa", sum := "6824f6bd53be1ae8428bd4f3b30907ddb535853a2b845c370ffe84166db14028", func := "testbench/testbenchlaw06.RngShuffle", spec := "rngShuffle", unfollowed := true, recurses := true, apart := false }
def RngShuffleSaid : Prop := rngShuffleRow.holds Try.pinned (OpenSpec.ofChange rngShuffleSpec)

/-- ITS FALSE NEIGHBOUR: 'it returns false'. Refute it at one input. -/
def rngShuffleWrong : ChangeSpec := { name := "rngShuffle", fn := fun _ => fun
  | [d1, d2] => { results := [.lit (.bool false)], args := [d1, d2] }
  | _ => none }
def RngShuffleWrongFalsely : Prop := rngShuffleRow.holds Try.pinned (OpenSpec.ofChange rngShuffleWrong)

/-- 'testbenchlaw06.RngHierarchy': WHATEVER THE INPUT: true; the input reads as it did. -/
def rngHierarchySpec : ChangeSpec := { name := "rngHierarchy", fn := fun _ => fun
  | [d1, d2, d3] => { results := [.lit (.bool true)], args := [d1, d2, d3] }
  | _ => none }
def rngHierarchyRow : OpenClaim := { program := "ytahjgepjhihhjaa", sum := "6824f6bd53be1ae8428bd4f3b30907ddb535853a2b845c370ffe84166db14028", func := "testbench/testbenchlaw06.RngHierarchy", spec := "rngHierarchy", unfollowed := true, recurses := true, apart := false }
def RngHierarchySaid : Prop := rngHierarchyRow.holds Try.pinned (OpenSpec.ofChange rngHierarchySpec)

/-- ITS FALSE NEIGHBOUR: 'it returns false'. Refute it at one input. -/
def rngHierarchyWrong : ChangeSpec := { name := "rngHierarchy", fn := fun _ => fun
  | [d1, d2, d3] => { results := [.lit (.bool false)], args := [d1, d2, d3] }
  | _ => none }
def RngHierarchyWrongFalsely : Prop := rngHierarchyRow.holds Try.pinned (OpenSpec.ofChange rngHierarchyWrong)

/-- 'testbenchlaw06.RngDifferent': WHATEVER THE INPUT: true; the input reads as it did. -/
def rngDifferentSpec : ChangeSpec := { name := "rngDifferent", fn := fun _ => fun
  | [d1, d2] => { results := [.lit (.bool true)], args := [d1, d2] }
  | _ => none }
def rngDifferentRow : OpenClaim := { program := "ytahjgepjhihhjaa", sum := "6824f6bd53be1ae8428bd4f3b30907ddb535853a2b845c370ffe84166db14028", func := "testbench/testbenchlaw06.RngDifferent", spec := "rngDifferent", unfollowed := true, recurses := true, apart := false }
def RngDifferentSaid : Prop := rngDifferentRow.holds Try.pinned (OpenSpec.ofChange rngDifferentSpec)

/-- ITS FALSE NEIGHBOUR: 'it returns false'. Refute it at one input. -/
def rngDifferentWrong : ChangeSpec := { name := "rngDifferent", fn := fun _ => fun
  | [d1, d2] => { results := [.lit (.bool false)], args := [d1, d2] }
  | _ => none }
def RngDifferentWrongFalsely : Prop := rngDifferentRow.holds Try.pinned (OpenSpec.ofChange rngDifferentWrong)

/-- 'testbenchlaw06.RngPermutes': WHATEVER THE INPUT: true; the input reads as it did. -/
def rngPermutesSpec : ChangeSpec := { name := "rngPermutes", fn := fun _ => fun
  | [d1, d2] => { results := [.lit (.bool true)], args := [d1, d2] }
  | _ => none }
def rngPermutesRow : OpenClaim := { program := "ytahjgepjhihhjaa", sum := "6824f6bd53be1ae8428bd4f3b30907ddb535853a2b845c370ffe84166db14028", func := "testbench/testbenchlaw06.RngPermutes", spec := "rngPermutes", unfollowed := true, recurses := true, apart := false }
def RngPermutesSaid : Prop := rngPermutesRow.holds Try.pinned (OpenSpec.ofChange rngPermutesSpec)

/-- ITS FALSE NEIGHBOUR: 'it returns false'. Refute it at one input. -/
def rngPermutesWrong : ChangeSpec := { name := "rngPermutes", fn := fun _ => fun
  | [d1, d2] => { results := [.lit (.bool false)], args := [d1, d2] }
  | _ => none }
def RngPermutesWrongFalsely : Prop := rngPermutesRow.holds Try.pinned (OpenSpec.ofChange rngPermutesWrong)

/- THE SECOND FORM. 'bulk': how many values and letters a reading holds, each counted each time it is reached (what is shared counts as often as it is met; a slice's spare places count too). A statement '..UptoSaid' is the law's where the arguments, and the package variables that the reading takes, are together of bulk at most 1048576: NARROWER than '..Said'. Prove '..Said' where nothing that the law and all that it calls make is longer than what came in: it says more and counts as full. Else prove '..UptoSaid'. A law counts once. -/
mutual
def uptoBulk {H : Type} : DataW H → Nat
  | .lit (.string bytes) => bytes.length + 1
  | .lit _ => 1
  | .nil => 1
  | .ptr d => uptoBulk d + 1
  | .slice elems spare => uptoBulkAll elems + uptoBulkAll spare + 1
  | .agg parts => uptoBulkAll parts + 1
  | .iface _ d => uptoBulk d + 1
  | .map entries => uptoBulkEntries entries + 1
  | .held _ => 1
def uptoBulkAll {H : Type} : List (DataW H) → Nat
  | [] => 0
  | d :: r => uptoBulk d + uptoBulkAll r
def uptoBulkEntries {H : Type} : List (Lit × DataW H) → Nat
  | [] => 0
  | x :: r => uptoBulkEntry x + uptoBulkEntries r
def uptoBulkEntry {H : Type} : Lit × DataW H → Nat
  | (.string bytes, d) => bytes.length + uptoBulk d + 1
  | (_, d) => uptoBulk d + 1
 end
def uptoSmall : (H : Type) → List (DataW H) → Bool := fun _ ds => decide (uptoBulkAll ds ≤ 1048576)
def OpenSpec.upto (s : _root_.Go.ChangeSpec) : _root_.Go.OpenSpec := { _root_.Go.OpenSpec.ofChange s with cond := some uptoSmall }

/-- 'testbenchlaw06.RngStreams', WHERE WHAT IT READS IS OF BULK AT MOST 1048576: true; the input reads as it did. -/
def rngStreamsUptoRow : OpenClaim := { program := "ytahjgepjhihhjaa", sum := "6824f6bd53be1ae8428bd4f3b30907ddb535853a2b845c370ffe84166db14028", func := "testbench/testbenchlaw06.RngStreams", spec := "rngStreams", unfollowed := true, recurses := true, apart := false, narrowed := true }
def RngStreamsUptoSaid : Prop := rngStreamsUptoRow.holds Try.pinned (OpenSpec.upto rngStreamsSpec)

/-- 'testbenchlaw06.RngBelow', WHERE WHAT IT READS IS OF BULK AT MOST 1048576: true; the input reads as it did. -/
def rngBelowUptoRow : OpenClaim := { program := "ytahjgepjhihhjaa", sum := "6824f6bd53be1ae8428bd4f3b30907ddb535853a2b845c370ffe84166db14028", func := "testbench/testbenchlaw06.RngBelow", spec := "rngBelow", unfollowed := true, recurses := true, apart := false, narrowed := true }
def RngBelowUptoSaid : Prop := rngBelowUptoRow.holds Try.pinned (OpenSpec.upto rngBelowSpec)

/-- 'testbenchlaw06.RngWeighted', WHERE WHAT IT READS IS OF BULK AT MOST 1048576: true; the input reads as it did. -/
def rngWeightedUptoRow : OpenClaim := { program := "ytahjgepjhihhjaa", sum := "6824f6bd53be1ae8428bd4f3b30907ddb535853a2b845c370ffe84166db14028", func := "testbench/testbenchlaw06.RngWeighted", spec := "rngWeighted", unfollowed := true, recurses := true, apart := false, narrowed := true }
def RngWeightedUptoSaid : Prop := rngWeightedUptoRow.holds Try.pinned (OpenSpec.upto rngWeightedSpec)

/-- 'testbenchlaw06.RngShuffle', WHERE WHAT IT READS IS OF BULK AT MOST 1048576: true; the input reads as it did. -/
def rngShuffleUptoRow : OpenClaim := { program := "ytahjgepjhihhjaa", sum := "6824f6bd53be1ae8428bd4f3b30907ddb535853a2b845c370ffe84166db14028", func := "testbench/testbenchlaw06.RngShuffle", spec := "rngShuffle", unfollowed := true, recurses := true, apart := false, narrowed := true }
def RngShuffleUptoSaid : Prop := rngShuffleUptoRow.holds Try.pinned (OpenSpec.upto rngShuffleSpec)

/-- 'testbenchlaw06.RngHierarchy', WHERE WHAT IT READS IS OF BULK AT MOST 1048576: true; the input reads as it did. -/
def rngHierarchyUptoRow : OpenClaim := { program := "ytahjgepjhihhjaa", sum := "6824f6bd53be1ae8428bd4f3b30907ddb535853a2b845c370ffe84166db14028", func := "testbench/testbenchlaw06.RngHierarchy", spec := "rngHierarchy", unfollowed := true, recurses := true, apart := false, narrowed := true }
def RngHierarchyUptoSaid : Prop := rngHierarchyUptoRow.holds Try.pinned (OpenSpec.upto rngHierarchySpec)

/-- 'testbenchlaw06.RngDifferent', WHERE WHAT IT READS IS OF BULK AT MOST 1048576: true; the input reads as it did. -/
def rngDifferentUptoRow : OpenClaim := { program := "ytahjgepjhihhjaa", sum := "6824f6bd53be1ae8428bd4f3b30907ddb535853a2b845c370ffe84166db14028", func := "testbench/testbenchlaw06.RngDifferent", spec := "rngDifferent", unfollowed := true, recurses := true, apart := false, narrowed := true }
def RngDifferentUptoSaid : Prop := rngDifferentUptoRow.holds Try.pinned (OpenSpec.upto rngDifferentSpec)

/-- 'testbenchlaw06.RngPermutes', WHERE WHAT IT READS IS OF BULK AT MOST 1048576: true; the input reads as it did. -/
def rngPermutesUptoRow : OpenClaim := { program := "ytahjgepjhihhjaa", sum := "6824f6bd53be1ae8428bd4f3b30907ddb535853a2b845c370ffe84166db14028", func := "testbench/testbenchlaw06.RngPermutes", spec := "rngPermutes", unfollowed := true, recurses := true, apart := false, narrowed := true }
def RngPermutesUptoSaid : Prop := rngPermutesUptoRow.holds Try.pinned (OpenSpec.upto rngPermutesSpec)

end Rows
end Go.Proofs.Ytahjgepjhihhjaa
