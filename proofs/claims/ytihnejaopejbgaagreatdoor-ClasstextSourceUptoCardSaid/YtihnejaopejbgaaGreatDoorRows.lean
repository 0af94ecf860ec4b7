/-
  NARROWER THAN 'FOR EVERY INPUT', by the rows' own cells (each row's printed sentence says how): ClasstextWeights: laid · ClasstextItems: loops, laid · ClasstextPrints: loops, laid · ClasstextSource: loops, laid · ClasstextDistinct: loops, laid · ClasstextComposes: loops, laid · ClasstextLines: loops, laid.
  DERIVED. THE GIVEN ROWS OF THIS SEAT. 7 by the template 'for every input the law returns true; each argument reads behind the call as it read before'; 0 by the template 'total and deterministic' (their statements: YtihnejaopejbgaaGreatDoorTotals.lean).
  GIVEN WITH THE SEED: the statements are not yours to turn. If you find one false, say at which input.
  Laid BY PROGRAM, IN A SANDBOX (cutbox-rows.mjs): the forced cells as the released guide's own fill.sh prints them over the translation cfec96b691cc0b98… (all of the seat's roots in one cut). By AI agents, Wed Nov 11 2026. No macro, syntax, notation, axiom, sorry.
-/
import Derived.Test.YtihnejaopejbgaaGreatDoorChecked
import GoSem.Claim
import GoSem.ClaimJoined
import GoSem.ClaimMapViews
import Derived.JoinedTies
import Derived.KernelRfl
namespace Go.Proofs.YtihnejaopejbgaaGreatDoor
/- THE CELL 'sum', in the pinned program and in every row, IS THE sha256 OF THE DUMP (.gsa) THAT YtihnejaopejbgaaGreatDoorProg.lean LOADS. Nothing in Lean hashes anything: it is a label: what it is worth is what the hold of that sum in a sandbox is worth. -/
noncomputable def Tryz.pinned : Pinned := { name := "ytihnejaopejbgaagreatdoor", sum := "cfec96b691cc0b982746d40e0a1960747dc769c1e1d9485f7451422e16fee07b", checked := Tryz.checked }
namespace Rows
def none {H : Type} : Left H := { results := [], args := [] }

/- WHAT THE LISTED PACKAGE-LEVEL VARIABLES READ AS WHEN THE CALL BEGINS. Each datum BY PROGRAM (the guide's laid-datum.mjs) off the statement by which the dump's own 'gosem.cut.vars' lays the variable. In a bare row this is a premise. The card (YtihnejaopejbgaaGreatDoorCards.lean) ties it to the program's text. -/
def laid_math_bits_deBruijn32tab {H : Type} : DataW H := .agg [.lit (.int .u8 0), .lit (.int .u8 1), .lit (.int .u8 28), .lit (.int .u8 2), .lit (.int .u8 29), .lit (.int .u8 14), .lit (.int .u8 24), .lit (.int .u8 3), .lit (.int .u8 30), .lit (.int .u8 22), .lit (.int .u8 20), .lit (.int .u8 15), .lit (.int .u8 25), .lit (.int .u8 17), .lit (.int .u8 4), .lit (.int .u8 8), .lit (.int .u8 31), .lit (.int .u8 27), .lit (.int .u8 13), .lit (.int .u8 23), .lit (.int .u8 21), .lit (.int .u8 19), .lit (.int .u8 16), .lit (.int .u8 7), .lit (.int .u8 26), .lit (.int .u8 12), .lit (.int .u8 18), .lit (.int .u8 6), .lit (.int .u8 11), .lit (.int .u8 5), .lit (.int .u8 10), .lit (.int .u8 9)]
def laid_math_bits_deBruijn64tab {H : Type} : DataW H := .agg [.lit (.int .u8 0), .lit (.int .u8 1), .lit (.int .u8 56), .lit (.int .u8 2), .lit (.int .u8 57), .lit (.int .u8 49), .lit (.int .u8 28), .lit (.int .u8 3), .lit (.int .u8 61), .lit (.int .u8 58), .lit (.int .u8 42), .lit (.int .u8 50), .lit (.int .u8 38), .lit (.int .u8 29), .lit (.int .u8 17), .lit (.int .u8 4), .lit (.int .u8 62), .lit (.int .u8 47), .lit (.int .u8 59), .lit (.int .u8 36), .lit (.int .u8 45), .lit (.int .u8 43), .lit (.int .u8 51), .lit (.int .u8 22), .lit (.int .u8 53), .lit (.int .u8 39), .lit (.int .u8 33), .lit (.int .u8 30), .lit (.int .u8 24), .lit (.int .u8 18), .lit (.int .u8 12), .lit (.int .u8 5), .lit (.int .u8 63), .lit (.int .u8 55), .lit (.int .u8 48), .lit (.int .u8 27), .lit (.int .u8 60), .lit (.int .u8 41), .lit (.int .u8 37), .lit (.int .u8 16), .lit (.int .u8 46), .lit (.int .u8 35), .lit (.int .u8 44), .lit (.int .u8 21), .lit (.int .u8 52), .lit (.int .u8 32), .lit (.int .u8 23), .lit (.int .u8 11), .lit (.int .u8 54), .lit (.int .u8 26), .lit (.int .u8 40), .lit (.int .u8 15), .lit (.int .u8 34), .lit (.int .u8 20), .lit (.int .u8 31), .lit (.int .u8 10), .lit (.int .u8 25), .lit (.int .u8 14), .lit (.int .u8 19), .lit (.int .u8 9), .lit (.int .u8 13), .lit (.int .u8 8), .lit (.int .u8 7), .lit (.int .u8 6)]
def laid_internal_strconv_uint64pow10 {H : Type} : DataW H := .agg [.lit (.int .u64 1), .lit (.int .u64 10), .lit (.int .u64 100), .lit (.int .u64 1000), .lit (.int .u64 10000), .lit (.int .u64 100000), .lit (.int .u64 1000000), .lit (.int .u64 10000000), .lit (.int .u64 100000000), .lit (.int .u64 1000000000), .lit (.int .u64 10000000000), .lit (.int .u64 100000000000), .lit (.int .u64 1000000000000), .lit (.int .u64 10000000000000), .lit (.int .u64 100000000000000), .lit (.int .u64 1000000000000000), .lit (.int .u64 10000000000000000), .lit (.int .u64 100000000000000000), .lit (.int .u64 1000000000000000000), .lit (.int .u64 10000000000000000000)]
def laid_strconv_ErrRange {H : Type} : DataW H := .iface "*errors.errorString" (.ptr (.agg [.lit (.string [118, 97, 108, 117, 101, 32, 111, 117, 116, 32, 111, 102, 32, 114, 97, 110, 103, 101])]))
def laid_strconv_ErrSyntax {H : Type} : DataW H := .iface "*errors.errorString" (.ptr (.agg [.lit (.string [105, 110, 118, 97, 108, 105, 100, 32, 115, 121, 110, 116, 97, 120])]))
def laid_testbench_exprtext_binaries {H : Type} : DataW H := .slice [.agg [.lit (.string [61, 62]), .lit (.int .i64 2), .lit (.int .i64 21), .lit (.bool false)], .agg [.lit (.string [124, 124]), .lit (.int .i64 3), .lit (.int .i64 20), .lit (.bool false)], .agg [.lit (.string [38, 38]), .lit (.int .i64 4), .lit (.int .i64 19), .lit (.bool false)], .agg [.lit (.string [124]), .lit (.int .i64 5), .lit (.int .i64 11), .lit (.bool false)], .agg [.lit (.string [94]), .lit (.int .i64 6), .lit (.int .i64 12), .lit (.bool false)], .agg [.lit (.string [38]), .lit (.int .i64 7), .lit (.int .i64 10), .lit (.bool false)], .agg [.lit (.string [61, 61]), .lit (.int .i64 8), .lit (.int .i64 15), .lit (.bool false)], .agg [.lit (.string [33, 61]), .lit (.int .i64 8), .lit (.int .i64 16), .lit (.bool false)], .agg [.lit (.string [60]), .lit (.int .i64 9), .lit (.int .i64 17), .lit (.bool false)], .agg [.lit (.string [60, 61]), .lit (.int .i64 9), .lit (.int .i64 18), .lit (.bool false)], .agg [.lit (.string [62]), .lit (.int .i64 9), .lit (.int .i64 17), .lit (.bool true)], .agg [.lit (.string [62, 61]), .lit (.int .i64 9), .lit (.int .i64 18), .lit (.bool true)], .agg [.lit (.string [60, 60]), .lit (.int .i64 10), .lit (.int .i64 13), .lit (.bool false)], .agg [.lit (.string [62, 62]), .lit (.int .i64 10), .lit (.int .i64 14), .lit (.bool false)], .agg [.lit (.string [43]), .lit (.int .i64 11), .lit (.int .i64 7), .lit (.bool false)], .agg [.lit (.string [45]), .lit (.int .i64 11), .lit (.int .i64 8), .lit (.bool false)], .agg [.lit (.string [42]), .lit (.int .i64 12), .lit (.int .i64 9), .lit (.bool false)]] []
def laid_testbench_exprtext_prefixes {H : Type} : DataW H := .slice [.agg [.lit (.string [33]), .lit (.int .i64 4)], .agg [.lit (.string [126]), .lit (.int .i64 5)], .agg [.lit (.string [45]), .lit (.int .i64 6)]] []

/-- 'testbenchlaw12.ClasstextWeights': WHATEVER THE INPUT: true; the input reads as it did. -/
def classtextWeightsSpec : ChangeSpec := { name := "classtextWeights", fn := fun _ => fun
  | [d] => { results := [.lit (.bool true)], args := [d] }
  | _ => none }
def classtextWeightsRow : OpenClaim := { program := "ytihnejaopejbgaagreatdoor", sum := "cfec96b691cc0b982746d40e0a1960747dc769c1e1d9485f7451422e16fee07b", func := "testbench/testbenchlaw12.ClasstextWeights", spec := "classtextWeights", inPlace := ["internal/abi.NoEscape", "internal/bytealg.MakeNoZero", "internal/bytealg.IndexByteString", "internal/bytealg.IndexString"], unfollowed := true, recurses := true, named := ["internal/strconv.uint64pow10", "math/bits.deBruijn32tab", "math/bits.deBruijn64tab", "strconv.ErrSyntax", "strconv.ErrRange", "internal/bytealg.MaxLen", "testbench/exprtext.binaries", "testbench/exprtext.prefixes"], apart := false, laid := [("math/bits.deBruijn32tab", laid_math_bits_deBruijn32tab), ("math/bits.deBruijn64tab", laid_math_bits_deBruijn64tab), ("internal/strconv.uint64pow10", laid_internal_strconv_uint64pow10), ("strconv.ErrRange", laid_strconv_ErrRange), ("strconv.ErrSyntax", laid_strconv_ErrSyntax), ("testbench/exprtext.binaries", laid_testbench_exprtext_binaries), ("testbench/exprtext.prefixes", laid_testbench_exprtext_prefixes)] }
def ClasstextWeightsSaid : Prop := classtextWeightsRow.holds Tryz.pinned (OpenSpec.ofChange classtextWeightsSpec)

/-- ITS FALSE NEIGHBOUR: 'it returns false'. Refute it at one input. -/
def classtextWeightsWrong : ChangeSpec := { name := "classtextWeights", fn := fun _ => fun
  | [d] => { results := [.lit (.bool false)], args := [d] }
  | _ => none }
def ClasstextWeightsWrongFalsely : Prop := classtextWeightsRow.holds Tryz.pinned (OpenSpec.ofChange classtextWeightsWrong)

/-- 'testbenchlaw12.ClasstextItems': WHATEVER THE INPUT: true; the input reads as it did. -/
def classtextItemsSpec : ChangeSpec := { name := "classtextItems", fn := fun _ => fun
  | [d1, d2] => { results := [.lit (.bool true)], args := [d1, d2] }
  | _ => none }
def classtextItemsRow : OpenClaim := { program := "ytihnejaopejbgaagreatdoor", sum := "cfec96b691cc0b982746d40e0a1960747dc769c1e1d9485f7451422e16fee07b", func := "testbench/testbenchlaw12.ClasstextItems", spec := "classtextItems", inPlace := ["internal/bytealg.IndexByteString", "internal/bytealg.IndexString", "internal/abi.NoEscape", "internal/bytealg.MakeNoZero"], unfollowed := true, recurses := true, named := ["internal/bytealg.MaxLen", "strconv.ErrSyntax", "strconv.ErrRange", "internal/strconv.uint64pow10", "math/bits.deBruijn32tab", "math/bits.deBruijn64tab", "testbench/exprtext.binaries", "testbench/exprtext.prefixes"], loops := true, apart := false, laid := [("math/bits.deBruijn32tab", laid_math_bits_deBruijn32tab), ("math/bits.deBruijn64tab", laid_math_bits_deBruijn64tab), ("internal/strconv.uint64pow10", laid_internal_strconv_uint64pow10), ("strconv.ErrRange", laid_strconv_ErrRange), ("strconv.ErrSyntax", laid_strconv_ErrSyntax), ("testbench/exprtext.binaries", laid_testbench_exprtext_binaries), ("testbench/exprtext.prefixes", laid_testbench_exprtext_prefixes)] }
def ClasstextItemsSaid : Prop := classtextItemsRow.holds Tryz.pinned (OpenSpec.ofChange classtextItemsSpec)

/-- ITS FALSE NEIGHBOUR: 'it returns false'. Refute it at one input. -/
def classtextItemsWrong : ChangeSpec := { name := "classtextItems", fn := fun _ => fun
  | [d1, d2] => { results := [.lit (.bool false)], args := [d1, d2] }
  | _ => none }
def ClasstextItemsWrongFalsely : Prop := classtextItemsRow.holds Tryz.pinned (OpenSpec.ofChange classtextItemsWrong)

/-- 'testbenchlaw12.ClasstextPrints': WHATEVER THE INPUT: true; the input reads as it did. -/
def classtextPrintsSpec : ChangeSpec := { name := "classtextPrints", fn := fun _ => fun
  | [d] => { results := [.lit (.bool true)], args := [d] }
  | _ => none }
def classtextPrintsRow : OpenClaim := { program := "ytihnejaopejbgaagreatdoor", sum := "cfec96b691cc0b982746d40e0a1960747dc769c1e1d9485f7451422e16fee07b", func := "testbench/testbenchlaw12.ClasstextPrints", spec := "classtextPrints", inPlace := ["internal/bytealg.IndexByteString", "internal/bytealg.IndexString", "internal/abi.NoEscape", "internal/bytealg.MakeNoZero"], unfollowed := true, recurses := true, named := ["strconv.ErrSyntax", "strconv.ErrRange", "internal/strconv.uint64pow10", "math/bits.deBruijn32tab", "math/bits.deBruijn64tab", "internal/bytealg.MaxLen", "testbench/exprtext.binaries", "testbench/exprtext.prefixes"], loops := true, apart := false, laid := [("math/bits.deBruijn32tab", laid_math_bits_deBruijn32tab), ("math/bits.deBruijn64tab", laid_math_bits_deBruijn64tab), ("internal/strconv.uint64pow10", laid_internal_strconv_uint64pow10), ("strconv.ErrRange", laid_strconv_ErrRange), ("strconv.ErrSyntax", laid_strconv_ErrSyntax), ("testbench/exprtext.binaries", laid_testbench_exprtext_binaries), ("testbench/exprtext.prefixes", laid_testbench_exprtext_prefixes)] }
def ClasstextPrintsSaid : Prop := classtextPrintsRow.holds Tryz.pinned (OpenSpec.ofChange classtextPrintsSpec)

/-- ITS FALSE NEIGHBOUR: 'it returns false'. Refute it at one input. -/
def classtextPrintsWrong : ChangeSpec := { name := "classtextPrints", fn := fun _ => fun
  | [d] => { results := [.lit (.bool false)], args := [d] }
  | _ => none }
def ClasstextPrintsWrongFalsely : Prop := classtextPrintsRow.holds Tryz.pinned (OpenSpec.ofChange classtextPrintsWrong)

/-- 'testbenchlaw12.ClasstextSource': WHATEVER THE INPUT: true; the input reads as it did. -/
def classtextSourceSpec : ChangeSpec := { name := "classtextSource", fn := fun _ => fun
  | [d] => { results := [.lit (.bool true)], args := [d] }
  | _ => none }
def classtextSourceRow : OpenClaim := { program := "ytihnejaopejbgaagreatdoor", sum := "cfec96b691cc0b982746d40e0a1960747dc769c1e1d9485f7451422e16fee07b", func := "testbench/testbenchlaw12.ClasstextSource", spec := "classtextSource", inPlace := ["internal/bytealg.IndexByteString", "internal/bytealg.IndexString", "internal/abi.NoEscape", "internal/bytealg.MakeNoZero"], unfollowed := true, recurses := true, named := ["strconv.ErrSyntax", "strconv.ErrRange", "internal/strconv.uint64pow10", "math/bits.deBruijn32tab", "math/bits.deBruijn64tab", "internal/bytealg.MaxLen", "testbench/exprtext.binaries", "testbench/exprtext.prefixes"], loops := true, apart := false, laid := [("math/bits.deBruijn32tab", laid_math_bits_deBruijn32tab), ("math/bits.deBruijn64tab", laid_math_bits_deBruijn64tab), ("internal/strconv.uint64pow10", laid_internal_strconv_uint64pow10), ("strconv.ErrRange", laid_strconv_ErrRange), ("strconv.ErrSyntax", laid_strconv_ErrSyntax), ("testbench/exprtext.binaries", laid_testbench_exprtext_binaries), ("testbench/exprtext.prefixes", laid_testbench_exprtext_prefixes)] }
def ClasstextSourceSaid : Prop := classtextSourceRow.holds Tryz.pinned (OpenSpec.ofChange classtextSourceSpec)

/-- ITS FALSE NEIGHBOUR: 'it returns false'. Refute it at one input. -/
def classtextSourceWrong : ChangeSpec := { name := "classtextSource", fn := fun _ => fun
  | [d] => { results := [.lit (.bool false)], args := [d] }
  | _ => none }
def ClasstextSourceWrongFalsely : Prop := classtextSourceRow.holds Tryz.pinned (OpenSpec.ofChange classtextSourceWrong)

/-- 'testbenchlaw12.ClasstextDistinct': WHATEVER THE INPUT: true; the input reads as it did. -/
def classtextDistinctSpec : ChangeSpec := { name := "classtextDistinct", fn := fun _ => fun
  | [d1, d2] => { results := [.lit (.bool true)], args := [d1, d2] }
  | _ => none }
def classtextDistinctRow : OpenClaim := { program := "ytihnejaopejbgaagreatdoor", sum := "cfec96b691cc0b982746d40e0a1960747dc769c1e1d9485f7451422e16fee07b", func := "testbench/testbenchlaw12.ClasstextDistinct", spec := "classtextDistinct", inPlace := ["internal/abi.NoEscape", "internal/bytealg.MakeNoZero", "internal/bytealg.IndexByteString", "internal/bytealg.IndexString"], unfollowed := true, recurses := true, named := ["internal/strconv.uint64pow10", "math/bits.deBruijn32tab", "math/bits.deBruijn64tab", "strconv.ErrSyntax", "strconv.ErrRange", "internal/bytealg.MaxLen", "testbench/exprtext.binaries", "testbench/exprtext.prefixes"], loops := true, apart := false, laid := [("math/bits.deBruijn32tab", laid_math_bits_deBruijn32tab), ("math/bits.deBruijn64tab", laid_math_bits_deBruijn64tab), ("internal/strconv.uint64pow10", laid_internal_strconv_uint64pow10), ("strconv.ErrRange", laid_strconv_ErrRange), ("strconv.ErrSyntax", laid_strconv_ErrSyntax), ("testbench/exprtext.binaries", laid_testbench_exprtext_binaries), ("testbench/exprtext.prefixes", laid_testbench_exprtext_prefixes)] }
def ClasstextDistinctSaid : Prop := classtextDistinctRow.holds Tryz.pinned (OpenSpec.ofChange classtextDistinctSpec)

/-- ITS FALSE NEIGHBOUR: 'it returns false'. Refute it at one input. -/
def classtextDistinctWrong : ChangeSpec := { name := "classtextDistinct", fn := fun _ => fun
  | [d1, d2] => { results := [.lit (.bool false)], args := [d1, d2] }
  | _ => none }
def ClasstextDistinctWrongFalsely : Prop := classtextDistinctRow.holds Tryz.pinned (OpenSpec.ofChange classtextDistinctWrong)

/-- 'testbenchlaw12.ClasstextComposes': WHATEVER THE INPUT: true; the input reads as it did. -/
def classtextComposesSpec : ChangeSpec := { name := "classtextComposes", fn := fun _ => fun
  | [d1, d2, d3] => { results := [.lit (.bool true)], args := [d1, d2, d3] }
  | _ => none }
def classtextComposesRow : OpenClaim := { program := "ytihnejaopejbgaagreatdoor", sum := "cfec96b691cc0b982746d40e0a1960747dc769c1e1d9485f7451422e16fee07b", func := "testbench/testbenchlaw12.ClasstextComposes", spec := "classtextComposes", inPlace := ["internal/abi.NoEscape", "internal/bytealg.MakeNoZero", "internal/bytealg.IndexByteString", "internal/bytealg.IndexString"], unfollowed := true, recurses := true, named := ["internal/strconv.uint64pow10", "math/bits.deBruijn32tab", "math/bits.deBruijn64tab", "strconv.ErrSyntax", "strconv.ErrRange", "internal/bytealg.MaxLen", "testbench/exprtext.binaries", "testbench/exprtext.prefixes"], loops := true, apart := false, laid := [("math/bits.deBruijn32tab", laid_math_bits_deBruijn32tab), ("math/bits.deBruijn64tab", laid_math_bits_deBruijn64tab), ("internal/strconv.uint64pow10", laid_internal_strconv_uint64pow10), ("strconv.ErrRange", laid_strconv_ErrRange), ("strconv.ErrSyntax", laid_strconv_ErrSyntax), ("testbench/exprtext.binaries", laid_testbench_exprtext_binaries), ("testbench/exprtext.prefixes", laid_testbench_exprtext_prefixes)] }
def ClasstextComposesSaid : Prop := classtextComposesRow.holds Tryz.pinned (OpenSpec.ofChange classtextComposesSpec)

/-- ITS FALSE NEIGHBOUR: 'it returns false'. Refute it at one input. -/
def classtextComposesWrong : ChangeSpec := { name := "classtextComposes", fn := fun _ => fun
  | [d1, d2, d3] => { results := [.lit (.bool false)], args := [d1, d2, d3] }
  | _ => none }
def ClasstextComposesWrongFalsely : Prop := classtextComposesRow.holds Tryz.pinned (OpenSpec.ofChange classtextComposesWrong)

/-- 'testbenchlaw12.ClasstextLines': WHATEVER THE INPUT: true; the input reads as it did. -/
def classtextLinesSpec : ChangeSpec := { name := "classtextLines", fn := fun _ => fun
  | [d] => { results := [.lit (.bool true)], args := [d] }
  | _ => none }
def classtextLinesRow : OpenClaim := { program := "ytihnejaopejbgaagreatdoor", sum := "cfec96b691cc0b982746d40e0a1960747dc769c1e1d9485f7451422e16fee07b", func := "testbench/testbenchlaw12.ClasstextLines", spec := "classtextLines", inPlace := ["internal/bytealg.IndexByteString", "internal/bytealg.IndexString", "internal/abi.NoEscape", "internal/bytealg.MakeNoZero"], unfollowed := true, recurses := true, named := ["strconv.ErrSyntax", "strconv.ErrRange", "internal/strconv.uint64pow10", "math/bits.deBruijn32tab", "math/bits.deBruijn64tab", "internal/bytealg.MaxLen", "testbench/exprtext.binaries", "testbench/exprtext.prefixes"], loops := true, apart := false, laid := [("math/bits.deBruijn32tab", laid_math_bits_deBruijn32tab), ("math/bits.deBruijn64tab", laid_math_bits_deBruijn64tab), ("internal/strconv.uint64pow10", laid_internal_strconv_uint64pow10), ("strconv.ErrRange", laid_strconv_ErrRange), ("strconv.ErrSyntax", laid_strconv_ErrSyntax), ("testbench/exprtext.binaries", laid_testbench_exprtext_binaries), ("testbench/exprtext.prefixes", laid_testbench_exprtext_prefixes)] }
def ClasstextLinesSaid : Prop := classtextLinesRow.holds Tryz.pinned (OpenSpec.ofChange classtextLinesSpec)

/-- ITS FALSE NEIGHBOUR: 'it returns false'. Refute it at one input. -/
def classtextLinesWrong : ChangeSpec := { name := "classtextLines", fn := fun _ => fun
  | [d] => { results := [.lit (.bool false)], args := [d] }
  | _ => none }
def ClasstextLinesWrongFalsely : Prop := classtextLinesRow.holds Tryz.pinned (OpenSpec.ofChange classtextLinesWrong)

/- THE SECOND FORM. 'bulk': how many values and letters a reading holds, each counted each time it is reached (what is shared counts as often as it is met; a slice's spare places count too). A statement '..UptoSaid' is the law's where the arguments, and the package variables that the reading takes, are together of bulk at most 1048576: NARROWER than '..Said'. Prove '..Said' where nothing that the law and all that it calls make is longer than what came in: it says more and counts as full. Else prove '..UptoSaid'. A law counts once. -/
mutual
def uptoBulk {H : Type} : DataW H → Nat
  | .lit (.string bytes) => bytes.length + 1
  | .lit _ => 1
  | .nil => 1
  | .ptr d => uptoBulk d + 1
  | .slice elems spare => uptoBulkAll elems + uptoBulkAll spare + 1
  | .agg parts => uptoBulkAll parts + 1
  | .iface _ d => uptoBulk d + 1
  | .map entries => uptoBulkEntries entries + 1
  | .held _ => 1
def uptoBulkAll {H : Type} : List (DataW H) → Nat
  | [] => 0
  | d :: r => uptoBulk d + uptoBulkAll r
def uptoBulkEntries {H : Type} : List (Lit × DataW H) → Nat
  | [] => 0
  | x :: r => uptoBulkEntry x + uptoBulkEntries r
def uptoBulkEntry {H : Type} : Lit × DataW H → Nat
  | (.string bytes, d) => bytes.length + uptoBulk d + 1
  | (_, d) => uptoBulk d + 1
 end
def uptoSmall : (H : Type) → List (DataW H) → Bool := fun _ ds => decide (uptoBulkAll ds ≤ 1048576)
def OpenSpec.upto (s : _root_.Go.ChangeSpec) : _root_.Go.OpenSpec := { _root_.Go.OpenSpec.ofChange s with cond := some uptoSmall }

/-- 'testbenchlaw12.ClasstextWeights', WHERE WHAT IT READS IS OF BULK AT MOST 1048576: true; the input reads as it did. -/
def classtextWeightsUptoRow : OpenClaim := { program := "ytihnejaopejbgaagreatdoor", sum := "cfec96b691cc0b982746d40e0a1960747dc769c1e1d9485f7451422e16fee07b", func := "testbench/testbenchlaw12.ClasstextWeights", spec := "classtextWeights", inPlace := ["internal/abi.NoEscape", "internal/bytealg.MakeNoZero", "internal/bytealg.IndexByteString", "internal/bytealg.IndexString"], unfollowed := true, recurses := true, named := ["internal/strconv.uint64pow10", "math/bits.deBruijn32tab", "math/bits.deBruijn64tab", "strconv.ErrSyntax", "strconv.ErrRange", "internal/bytealg.MaxLen", "testbench/exprtext.binaries", "testbench/exprtext.prefixes"], apart := false, laid := [("math/bits.deBruijn32tab", laid_math_bits_deBruijn32tab), ("math/bits.deBruijn64tab", laid_math_bits_deBruijn64tab), ("internal/strconv.uint64pow10", laid_internal_strconv_uint64pow10), ("strconv.ErrRange", laid_strconv_ErrRange), ("strconv.ErrSyntax", laid_strconv_ErrSyntax), ("testbench/exprtext.binaries", laid_testbench_exprtext_binaries), ("testbench/exprtext.prefixes", laid_testbench_exprtext_prefixes)], narrowed := true }
def ClasstextWeightsUptoSaid : Prop := classtextWeightsUptoRow.holds Tryz.pinned (OpenSpec.upto classtextWeightsSpec)

/-- 'testbenchlaw12.ClasstextItems', WHERE WHAT IT READS IS OF BULK AT MOST 1048576: true; the input reads as it did. -/
def classtextItemsUptoRow : OpenClaim := { program := "ytihnejaopejbgaagreatdoor", sum := "cfec96b691cc0b982746d40e0a1960747dc769c1e1d9485f7451422e16fee07b", func := "testbench/testbenchlaw12.ClasstextItems", spec := "classtextItems", inPlace := ["internal/bytealg.IndexByteString", "internal/bytealg.IndexString", "internal/abi.NoEscape", "internal/bytealg.MakeNoZero"], unfollowed := true, recurses := true, named := ["internal/bytealg.MaxLen", "strconv.ErrSyntax", "strconv.ErrRange", "internal/strconv.uint64pow10", "math/bits.deBruijn32tab", "math/bits.deBruijn64tab", "testbench/exprtext.binaries", "testbench/exprtext.prefixes"], loops := true, apart := false, laid := [("math/bits.deBruijn32tab", laid_math_bits_deBruijn32tab), ("math/bits.deBruijn64tab", laid_math_bits_deBruijn64tab), ("internal/strconv.uint64pow10", laid_internal_strconv_uint64pow10), ("strconv.ErrRange", laid_strconv_ErrRange), ("strconv.ErrSyntax", laid_strconv_ErrSyntax), ("testbench/exprtext.binaries", laid_testbench_exprtext_binaries), ("testbench/exprtext.prefixes", laid_testbench_exprtext_prefixes)], narrowed := true }
def ClasstextItemsUptoSaid : Prop := classtextItemsUptoRow.holds Tryz.pinned (OpenSpec.upto classtextItemsSpec)

/-- 'testbenchlaw12.ClasstextPrints', WHERE WHAT IT READS IS OF BULK AT MOST 1048576: true; the input reads as it did. -/
def classtextPrintsUptoRow : OpenClaim := { program := "ytihnejaopejbgaagreatdoor", sum := "cfec96b691cc0b982746d40e0a1960747dc769c1e1d9485f7451422e16fee07b", func := "testbench/testbenchlaw12.ClasstextPrints", spec := "classtextPrints", inPlace := ["internal/bytealg.IndexByteString", "internal/bytealg.IndexString", "internal/abi.NoEscape", "internal/bytealg.MakeNoZero"], unfollowed := true, recurses := true, named := ["strconv.ErrSyntax", "strconv.ErrRange", "internal/strconv.uint64pow10", "math/bits.deBruijn32tab", "math/bits.deBruijn64tab", "internal/bytealg.MaxLen", "testbench/exprtext.binaries", "testbench/exprtext.prefixes"], loops := true, apart := false, laid := [("math/bits.deBruijn32tab", laid_math_bits_deBruijn32tab), ("math/bits.deBruijn64tab", laid_math_bits_deBruijn64tab), ("internal/strconv.uint64pow10", laid_internal_strconv_uint64pow10), ("strconv.ErrRange", laid_strconv_ErrRange), ("strconv.ErrSyntax", laid_strconv_ErrSyntax), ("testbench/exprtext.binaries", laid_testbench_exprtext_binaries), ("testbench/exprtext.prefixes", laid_testbench_exprtext_prefixes)], narrowed := true }
def ClasstextPrintsUptoSaid : Prop := classtextPrintsUptoRow.holds Tryz.pinned (OpenSpec.upto classtextPrintsSpec)

/-- 'testbenchlaw12.ClasstextSource', WHERE WHAT IT READS IS OF BULK AT MOST 1048576: true; the input reads as it did. -/
def classtextSourceUptoRow : OpenClaim := { program := "ytihnejaopejbgaagreatdoor", sum := "cfec96b691cc0b982746d40e0a1960747dc769c1e1d9485f7451422e16fee07b", func := "testbench/testbenchlaw12.ClasstextSource", spec := "classtextSource", inPlace := ["internal/bytealg.IndexByteString", "internal/bytealg.IndexString", "internal/abi.NoEscape", "internal/bytealg.MakeNoZero"], unfollowed := true, recurses := true, named := ["strconv.ErrSyntax", "strconv.ErrRange", "internal/strconv.uint64pow10", "math/bits.deBruijn32tab", "math/bits.deBruijn64tab", "internal/bytealg.MaxLen", "testbench/exprtext.binaries", "testbench/exprtext.prefixes"], loops := true, apart := false, laid := [("math/bits.deBruijn32tab", laid_math_bits_deBruijn32tab), ("math/bits.deBruijn64tab", laid_math_bits_deBruijn64tab), ("internal/strconv.uint64pow10", laid_internal_strconv_uint64pow10), ("strconv.ErrRange", laid_strconv_ErrRange), ("strconv.ErrSyntax", laid_strconv_ErrSyntax), ("testbench/exprtext.binaries", laid_testbench_exprtext_binaries), ("testbench/exprtext.prefixes", laid_testbench_exprtext_prefixes)], narrowed := true }
def ClasstextSourceUptoSaid : Prop := classtextSourceUptoRow.holds Tryz.pinned (OpenSpec.upto classtextSourceSpec)

/-- 'testbenchlaw12.ClasstextDistinct', WHERE WHAT IT READS IS OF BULK AT MOST 1048576: true; the input reads as it did. -/
def classtextDistinctUptoRow : OpenClaim := { program := "ytihnejaopejbgaagreatdoor", sum := "cfec96b691cc0b982746d40e0a1960747dc769c1e1d9485f7451422e16fee07b", func := "testbench/testbenchlaw12.ClasstextDistinct", spec := "classtextDistinct", inPlace := ["internal/abi.NoEscape", "internal/bytealg.MakeNoZero", "internal/bytealg.IndexByteString", "internal/bytealg.IndexString"], unfollowed := true, recurses := true, named := ["internal/strconv.uint64pow10", "math/bits.deBruijn32tab", "math/bits.deBruijn64tab", "strconv.ErrSyntax", "strconv.ErrRange", "internal/bytealg.MaxLen", "testbench/exprtext.binaries", "testbench/exprtext.prefixes"], loops := true, apart := false, laid := [("math/bits.deBruijn32tab", laid_math_bits_deBruijn32tab), ("math/bits.deBruijn64tab", laid_math_bits_deBruijn64tab), ("internal/strconv.uint64pow10", laid_internal_strconv_uint64pow10), ("strconv.ErrRange", laid_strconv_ErrRange), ("strconv.ErrSyntax", laid_strconv_ErrSyntax), ("testbench/exprtext.binaries", laid_testbench_exprtext_binaries), ("testbench/exprtext.prefixes", laid_testbench_exprtext_prefixes)], narrowed := true }
def ClasstextDistinctUptoSaid : Prop := classtextDistinctUptoRow.holds Tryz.pinned (OpenSpec.upto classtextDistinctSpec)

/-- 'testbenchlaw12.ClasstextComposes', WHERE WHAT IT READS IS OF BULK AT MOST 1048576: true; the input reads as it did. -/
def classtextComposesUptoRow : OpenClaim := { program := "ytihnejaopejbgaagreatdoor", sum := "cfec96b691cc0b982746d40e0a1960747dc769c1e1d9485f7451422e16fee07b", func := "testbench/testbenchlaw12.ClasstextComposes", spec := "classtextComposes", inPlace := ["internal/abi.NoEscape", "internal/bytealg.MakeNoZero", "internal/bytealg.IndexByteString", "internal/bytealg.IndexString"], unfollowed := true, recurses := true, named := ["internal/strconv.uint64pow10", "math/bits.deBruijn32tab", "math/bits.deBruijn64tab", "strconv.ErrSyntax", "strconv.ErrRange", "internal/bytealg.MaxLen", "testbench/exprtext.binaries", "testbench/exprtext.prefixes"], loops := true, apart := false, laid := [("math/bits.deBruijn32tab", laid_math_bits_deBruijn32tab), ("math/bits.deBruijn64tab", laid_math_bits_deBruijn64tab), ("internal/strconv.uint64pow10", laid_internal_strconv_uint64pow10), ("strconv.ErrRange", laid_strconv_ErrRange), ("strconv.ErrSyntax", laid_strconv_ErrSyntax), ("testbench/exprtext.binaries", laid_testbench_exprtext_binaries), ("testbench/exprtext.prefixes", laid_testbench_exprtext_prefixes)], narrowed := true }
def ClasstextComposesUptoSaid : Prop := classtextComposesUptoRow.holds Tryz.pinned (OpenSpec.upto classtextComposesSpec)

/-- 'testbenchlaw12.ClasstextLines', WHERE WHAT IT READS IS OF BULK AT MOST 1048576: true; the input reads as it did. -/
def classtextLinesUptoRow : OpenClaim := { program := "ytihnejaopejbgaagreatdoor", sum := "cfec96b691cc0b982746d40e0a1960747dc769c1e1d9485f7451422e16fee07b", func := "testbench/testbenchlaw12.ClasstextLines", spec := "classtextLines", inPlace := ["internal/bytealg.IndexByteString", "internal/bytealg.IndexString", "internal/abi.NoEscape", "internal/bytealg.MakeNoZero"], unfollowed := true, recurses := true, named := ["strconv.ErrSyntax", "strconv.ErrRange", "internal/strconv.uint64pow10", "math/bits.deBruijn32tab", "math/bits.deBruijn64tab", "internal/bytealg.MaxLen", "testbench/exprtext.binaries", "testbench/exprtext.prefixes"], loops := true, apart := false, laid := [("math/bits.deBruijn32tab", laid_math_bits_deBruijn32tab), ("math/bits.deBruijn64tab", laid_math_bits_deBruijn64tab), ("internal/strconv.uint64pow10", laid_internal_strconv_uint64pow10), ("strconv.ErrRange", laid_strconv_ErrRange), ("strconv.ErrSyntax", laid_strconv_ErrSyntax), ("testbench/exprtext.binaries", laid_testbench_exprtext_binaries), ("testbench/exprtext.prefixes", laid_testbench_exprtext_prefixes)], narrowed := true }
def ClasstextLinesUptoSaid : Prop := classtextLinesUptoRow.holds Tryz.pinned (OpenSpec.upto classtextLinesSpec)

end Rows
end Go.Proofs.YtihnejaopejbgaaGreatDoor
