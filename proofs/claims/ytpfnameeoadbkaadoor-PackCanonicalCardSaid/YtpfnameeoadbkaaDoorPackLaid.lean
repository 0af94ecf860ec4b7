/-
  What the package-level variables that a row of this seat lists give its walk, and the world of the witness.
-/
import Derived.Test.YtpfnameeoadbkaaDoorCards
import Derived.Test.YtpfnameeoadbkaaDoorTie
import Derived.Test.YtpfnameeoadbkaaDoorPackAwake
import Derived.ProofKit
import Derived.LaidMore
import Derived.OpenShut
import Derived.Stop.Joined
import Derived.Stop.LaidErr
import Derived.Lib.LaidTab
namespace Go.Proofs.YtpfnameeoadbkaaDoor.PackW
open Go Go.RowKit Go.ChangeShapes Go.WideShapes Go.ChangeAt

/-- The list that every row of this seat bears. -/
def laidAll : List (String × DataW Unit) := Rows.packTextsRow.laid

theorem own : ownKnob Tryd.prog.godebug = none := by kernel_rfl
theorem tPow10 : (Tryd.prog.globals[0]?).map (·.type) = some 73 := by kernel_rfl
theorem tRange : (Tryd.prog.globals[2]?).map (·.type) = some 53 := by kernel_rfl
theorem cellsU64 : Tryd.prog.cellsOf 59 = 1 := by kernel_rfl
theorem cellsPow10 : Tryd.prog.cellsOf 73 = 20 := by kernel_rfl
theorem cellsErr : Tryd.prog.cellsOf 90 = 1 := by kernel_rfl
theorem cellsStr : Tryd.prog.cellsOf 9 = 1 := by kernel_rfl
theorem star : "*" ++ "errors.errorString" = "*errors.errorString" := by decide
theorem rowErr (u : TypeId) (h : Tryd.prog.typeName? 3 u = some "*errors.errorString") : u = 88 :=
  typeName_ptr_named (nm := "errors.errorString") (by rw [star]; kernel_rfl) (by kernel_rfl) (by decide) u (by rw [star]; exact h)

theorem tab_of_laid {W : World} (h : laidMetH Tryd.prog laidAll W) : Tab W := by
  rw [MakeChecks.laidMetH_plain _ _ _ (by kernel_rfl)] at h
  have h1 : laidMet Tryd.prog (("internal/strconv.uint64pow10", Lib.tabData .u64 Lib.pow10Tab) :: ("strconv.ErrRange", Rows.laid_strconv_ErrRange) :: ("strconv.ErrSyntax", Rows.laid_strconv_ErrSyntax) :: []) W := h.tail.tail
  refine ⟨Lib.tabIs_of_head gPow10 tPow10 Tryd.underlying73 Tryd.underlying59 cellsU64 cellsPow10 h1, ?_⟩
  obtain ⟨a0, _, hv0, _⟩ := laid_sentinel h1.tail gRange tRange Tryd.underlying53 rowErr Tryd.underlying88 Tryd.underlying90 rfl rfl Tryd.underlying9 cellsErr cellsStr
  exact ⟨_, _, hv0⟩

/-- The heap that the variables' own initialisers leave meets the condition. -/
theorem door_met (os : Os) (args : Array Value) : laidMetH Tryd.prog laidAll ((World.doorLaid Tryd.prog 400 os).forCall (fun _ _ => 0) ⟨#[], args, []⟩).memory :=
  laidMetH_of_parts3 (fuel := 8) (laidMet_of_run' 8 (by kernel_rfl) (by kernel_rfl)) (by kernel_rfl) (by kernel_rfl)

theorem bounds {a : Int} (h : (Lit.int .i64 a).wf = true) : -9223372036854775808 ≤ a ∧ a ≤ 9223372036854775807 := by
  have e1 : IntKind.i64.min = -9223372036854775808 := rfl
  have e2 : IntKind.i64.max = 9223372036854775807 := rfl
  simp [Lit.wf, e1, e2] at h
  exact h
end Go.Proofs.YtpfnameeoadbkaaDoor.PackW
