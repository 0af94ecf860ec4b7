/-
  No cell of these rows narrows 'for every input' (looked for: loops, veiled, ifaces, maps, wideKeys, modest, calm, conditions, laid).
  DERIVED. THE GIVEN ROWS OF THIS SEAT. 6 by the template 'for every input the law returns true; each argument reads behind the call as it read before'; 0 by the template 'total and deterministic' (their statements: YtejmhhijmglopaaTotals.lean).
  GIVEN WITH THE SEED: the statements are not yours to turn. If you find one false, say at which input.
  Laid BY PROGRAM, IN A SANDBOX (cutbox-rows.mjs): the forced cells as the released guide's own fill.sh prints them over the translation 99ff64bda0aa6e7b… (all of the seat's roots in one cut). By AI agents, Wed Nov 11 2026. No macro, syntax, notation, axiom, sorry.
-/
import Derived.Test.YtejmhhijmglopaaChecked
import GoSem.Claim
import GoSem.ClaimJoined
import GoSem.ClaimMapViews
import Derived.JoinedTies
import Derived.KernelRfl
namespace Go.Proofs.Ytejmhhijmglopaa
/- THE CELL 'sum', in the pinned program and in every row, IS THE sha256 OF THE DUMP (.gsa) THAT YtejmhhijmglopaaProg.lean LOADS. Nothing in Lean hashes anything: it is a label: what it is worth is what the hold of that sum in a sandbox is worth. -/
noncomputable def Try.pinned : Pinned := { name := "ytejmhhijmglopaa", sum := "99ff64bda0aa6e7b7f9b7f2ba6e899e32741eb61178f4bfbbe3056d967aa30f1", checked := Try.checked }
namespace Rows
def none {H : Type} : Left H := { results := [], args := [] }

/-- 'testbenchlaw04.HashTexts': WHATEVER THE INPUT: true; the input reads as it did. -/
def hashTextsSpec : ChangeSpec := { name := "hashTexts", fn := fun _ => fun
  | [d] => { results := [.lit (.bool true)], args := [d] }
  | _ => none }
def hashTextsRow : OpenClaim := { program := "ytejmhhijmglopaa", sum := "99ff64bda0aa6e7b7f9b7f2ba6e899e32741eb61178f4bfbbe3056d967aa30f1", func := "testbench/testbenchlaw04.HashTexts", spec := "hashTexts", inPlace := ["internal/bytealg.IndexByteString"], apart := false }
def HashTextsSaid : Prop := hashTextsRow.holds Try.pinned (OpenSpec.ofChange hashTextsSpec)

/-- ITS FALSE NEIGHBOUR: 'it returns false'. Refute it at one input. -/
def hashTextsWrong : ChangeSpec := { name := "hashTexts", fn := fun _ => fun
  | [d] => { results := [.lit (.bool false)], args := [d] }
  | _ => none }
def HashTextsWrongFalsely : Prop := hashTextsRow.holds Try.pinned (OpenSpec.ofChange hashTextsWrong)

/-- 'testbenchlaw04.HashMixes': WHATEVER THE INPUT: true; the input reads as it did. -/
def hashMixesSpec : ChangeSpec := { name := "hashMixes", fn := fun _ => fun
  | [d1, d2] => { results := [.lit (.bool true)], args := [d1, d2] }
  | _ => none }
def hashMixesRow : OpenClaim := { program := "ytejmhhijmglopaa", sum := "99ff64bda0aa6e7b7f9b7f2ba6e899e32741eb61178f4bfbbe3056d967aa30f1", func := "testbench/testbenchlaw04.HashMixes", spec := "hashMixes", inPlace := ["internal/bytealg.IndexByteString"], apart := false }
def HashMixesSaid : Prop := hashMixesRow.holds Try.pinned (OpenSpec.ofChange hashMixesSpec)

/-- ITS FALSE NEIGHBOUR: 'it returns false'. Refute it at one input. -/
def hashMixesWrong : ChangeSpec := { name := "hashMixes", fn := fun _ => fun
  | [d1, d2] => { results := [.lit (.bool false)], args := [d1, d2] }
  | _ => none }
def HashMixesWrongFalsely : Prop := hashMixesRow.holds Try.pinned (OpenSpec.ofChange hashMixesWrong)

/-- 'testbenchlaw04.HashReads': WHATEVER THE INPUT: true; the input reads as it did. -/
def hashReadsSpec : ChangeSpec := { name := "hashReads", fn := fun _ => fun
  | [d] => { results := [.lit (.bool true)], args := [d] }
  | _ => none }
def hashReadsRow : OpenClaim := { program := "ytejmhhijmglopaa", sum := "99ff64bda0aa6e7b7f9b7f2ba6e899e32741eb61178f4bfbbe3056d967aa30f1", func := "testbench/testbenchlaw04.HashReads", spec := "hashReads", inPlace := ["internal/bytealg.IndexByteString"], apart := false }
def HashReadsSaid : Prop := hashReadsRow.holds Try.pinned (OpenSpec.ofChange hashReadsSpec)

/-- ITS FALSE NEIGHBOUR: 'it returns false'. Refute it at one input. -/
def hashReadsWrong : ChangeSpec := { name := "hashReads", fn := fun _ => fun
  | [d] => { results := [.lit (.bool false)], args := [d] }
  | _ => none }
def HashReadsWrongFalsely : Prop := hashReadsRow.holds Try.pinned (OpenSpec.ofChange hashReadsWrong)

/-- 'testbenchlaw04.HashOpens': WHATEVER THE INPUT: true; the input reads as it did. -/
def hashOpensSpec : ChangeSpec := { name := "hashOpens", fn := fun _ => fun
  | [d1, d2, d3] => { results := [.lit (.bool true)], args := [d1, d2, d3] }
  | _ => none }
def hashOpensRow : OpenClaim := { program := "ytejmhhijmglopaa", sum := "99ff64bda0aa6e7b7f9b7f2ba6e899e32741eb61178f4bfbbe3056d967aa30f1", func := "testbench/testbenchlaw04.HashOpens", spec := "hashOpens", inPlace := ["internal/bytealg.IndexByteString"], apart := false }
def HashOpensSaid : Prop := hashOpensRow.holds Try.pinned (OpenSpec.ofChange hashOpensSpec)

/-- ITS FALSE NEIGHBOUR: 'it returns false'. Refute it at one input. -/
def hashOpensWrong : ChangeSpec := { name := "hashOpens", fn := fun _ => fun
  | [d1, d2, d3] => { results := [.lit (.bool false)], args := [d1, d2, d3] }
  | _ => none }
def HashOpensWrongFalsely : Prop := hashOpensRow.holds Try.pinned (OpenSpec.ofChange hashOpensWrong)

/-- 'testbenchlaw04.HashInverts': WHATEVER THE INPUT: true; the input reads as it did. -/
def hashInvertsSpec : ChangeSpec := { name := "hashInverts", fn := fun _ => fun
  | [d1, d2] => { results := [.lit (.bool true)], args := [d1, d2] }
  | _ => none }
def hashInvertsRow : OpenClaim := { program := "ytejmhhijmglopaa", sum := "99ff64bda0aa6e7b7f9b7f2ba6e899e32741eb61178f4bfbbe3056d967aa30f1", func := "testbench/testbenchlaw04.HashInverts", spec := "hashInverts", inPlace := ["internal/bytealg.IndexByteString"], apart := false }
def HashInvertsSaid : Prop := hashInvertsRow.holds Try.pinned (OpenSpec.ofChange hashInvertsSpec)

/-- ITS FALSE NEIGHBOUR: 'it returns false'. Refute it at one input. -/
def hashInvertsWrong : ChangeSpec := { name := "hashInverts", fn := fun _ => fun
  | [d1, d2] => { results := [.lit (.bool false)], args := [d1, d2] }
  | _ => none }
def HashInvertsWrongFalsely : Prop := hashInvertsRow.holds Try.pinned (OpenSpec.ofChange hashInvertsWrong)

/-- 'testbenchlaw04.HashGrows': WHATEVER THE INPUT: true; the input reads as it did. -/
def hashGrowsSpec : ChangeSpec := { name := "hashGrows", fn := fun _ => fun
  | [d1, d2] => { results := [.lit (.bool true)], args := [d1, d2] }
  | _ => none }
def hashGrowsRow : OpenClaim := { program := "ytejmhhijmglopaa", sum := "99ff64bda0aa6e7b7f9b7f2ba6e899e32741eb61178f4bfbbe3056d967aa30f1", func := "testbench/testbenchlaw04.HashGrows", spec := "hashGrows", inPlace := ["internal/bytealg.IndexByteString"], apart := false }
def HashGrowsSaid : Prop := hashGrowsRow.holds Try.pinned (OpenSpec.ofChange hashGrowsSpec)

/-- ITS FALSE NEIGHBOUR: 'it returns false'. Refute it at one input. -/
def hashGrowsWrong : ChangeSpec := { name := "hashGrows", fn := fun _ => fun
  | [d1, d2] => { results := [.lit (.bool false)], args := [d1, d2] }
  | _ => none }
def HashGrowsWrongFalsely : Prop := hashGrowsRow.holds Try.pinned (OpenSpec.ofChange hashGrowsWrong)

/- THE SECOND FORM. 'bulk': how many values and letters a reading holds, each counted each time it is reached (what is shared counts as often as it is met; a slice's spare places count too). A statement '..UptoSaid' is the law's where the arguments, and the package variables that the reading takes, are together of bulk at most 1048576: NARROWER than '..Said'. Prove '..Said' where nothing that the law and all that it calls make is longer than what came in: it says more and counts as full. Else prove '..UptoSaid'. A law counts once. -/
mutual
def uptoBulk {H : Type} : DataW H → Nat
  | .lit (.string bytes) => bytes.length + 1
  | .lit _ => 1
  | .nil => 1
  | .ptr d => uptoBulk d + 1
  | .slice elems spare => uptoBulkAll elems + uptoBulkAll spare + 1
  | .agg parts => uptoBulkAll parts + 1
  | .iface _ d => uptoBulk d + 1
  | .map entries => uptoBulkEntries entries + 1
  | .held _ => 1
def uptoBulkAll {H : Type} : List (DataW H) → Nat
  | [] => 0
  | d :: r => uptoBulk d + uptoBulkAll r
def uptoBulkEntries {H : Type} : List (Lit × DataW H) → Nat
  | [] => 0
  | x :: r => uptoBulkEntry x + uptoBulkEntries r
def uptoBulkEntry {H : Type} : Lit × DataW H → Nat
  | (.string bytes, d) => bytes.length + uptoBulk d + 1
  | (_, d) => uptoBulk d + 1
 end
def uptoSmall : (H : Type) → List (DataW H) → Bool := fun _ ds => decide (uptoBulkAll ds ≤ 1048576)
def OpenSpec.upto (s : _root_.Go.ChangeSpec) : _root_.Go.OpenSpec := { _root_.Go.OpenSpec.ofChange s with cond := some uptoSmall }

/-- 'testbenchlaw04.HashTexts', WHERE WHAT IT READS IS OF BULK AT MOST 1048576: true; the input reads as it did. -/
def hashTextsUptoRow : OpenClaim := { program := "ytejmhhijmglopaa", sum := "99ff64bda0aa6e7b7f9b7f2ba6e899e32741eb61178f4bfbbe3056d967aa30f1", func := "testbench/testbenchlaw04.HashTexts", spec := "hashTexts", inPlace := ["internal/bytealg.IndexByteString"], apart := false, narrowed := true }
def HashTextsUptoSaid : Prop := hashTextsUptoRow.holds Try.pinned (OpenSpec.upto hashTextsSpec)

/-- 'testbenchlaw04.HashMixes', WHERE WHAT IT READS IS OF BULK AT MOST 1048576: true; the input reads as it did. -/
def hashMixesUptoRow : OpenClaim := { program := "ytejmhhijmglopaa", sum := "99ff64bda0aa6e7b7f9b7f2ba6e899e32741eb61178f4bfbbe3056d967aa30f1", func := "testbench/testbenchlaw04.HashMixes", spec := "hashMixes", inPlace := ["internal/bytealg.IndexByteString"], apart := false, narrowed := true }
def HashMixesUptoSaid : Prop := hashMixesUptoRow.holds Try.pinned (OpenSpec.upto hashMixesSpec)

/-- 'testbenchlaw04.HashReads', WHERE WHAT IT READS IS OF BULK AT MOST 1048576: true; the input reads as it did. -/
def hashReadsUptoRow : OpenClaim := { program := "ytejmhhijmglopaa", sum := "99ff64bda0aa6e7b7f9b7f2ba6e899e32741eb61178f4bfbbe3056d967aa30f1", func := "testbench/testbenchlaw04.HashReads", spec := "hashReads", inPlace := ["internal/bytealg.IndexByteString"], apart := false, narrowed := true }
def HashReadsUptoSaid : Prop := hashReadsUptoRow.holds Try.pinned (OpenSpec.upto hashReadsSpec)

/-- 'testbenchlaw04.HashOpens', WHERE WHAT IT READS IS OF BULK AT MOST 1048576: true; the input reads as it did. -/
def hashOpensUptoRow : OpenClaim := { program := "ytejmhhijmglopaa", sum := "99ff64bda0aa6e7b7f9b7f2ba6e899e32741eb61178f4bfbbe3056d967aa30f1", func := "testbench/testbenchlaw04.HashOpens", spec := "hashOpens", inPlace := ["internal/bytealg.IndexByteString"], apart := false, narrowed := true }
def HashOpensUptoSaid : Prop := hashOpensUptoRow.holds Try.pinned (OpenSpec.upto hashOpensSpec)

/-- 'testbenchlaw04.HashInverts', WHERE WHAT IT READS IS OF BULK AT MOST 1048576: true; the input reads as it did. -/
def hashInvertsUptoRow : OpenClaim := { program := "ytejmhhijmglopaa", sum := "99ff64bda0aa6e7b7f9b7f2ba6e899e32741eb61178f4bfbbe3056d967aa30f1", func := "testbench/testbenchlaw04.HashInverts", spec := "hashInverts", inPlace := ["internal/bytealg.IndexByteString"], apart := false, narrowed := true }
def HashInvertsUptoSaid : Prop := hashInvertsUptoRow.holds Try.pinned (OpenSpec.upto hashInvertsSpec)

/-- 'testbenchlaw04.HashGrows', WHERE WHAT IT READS IS OF BULK AT MOST 1048576: true; the input reads as it did. -/
def hashGrowsUptoRow : OpenClaim := { program := "ytejmhhijmglopaa", sum := "99ff64bda0aa6e7b7f9b7f2ba6e899e32741eb61178f4bfbbe3056d967aa30f1", func := "testbench/testbenchlaw04.HashGrows", spec := "hashGrows", inPlace := ["internal/bytealg.IndexByteString"], apart := false, narrowed := true }
def HashGrowsUptoSaid : Prop := hashGrowsUptoRow.holds Try.pinned (OpenSpec.upto hashGrowsSpec)

end Rows
end Go.Proofs.Ytejmhhijmglopaa
