/-
  What the five package-level variables that the rows of RatFormats and RatParses list give their walks; the world of the witness.
-/
import Derived.Test.YtjighmmfaedgbaaDoorRatLaid
import Derived.Test.YtjighmmfaedgbaaDoorRatParse
import Derived.Stop.LaidErr
namespace Go.Proofs.YtjighmmfaedgbaaDoor.RatW2
open Go Go.RowKit Go.ChangeShapes Go.WideShapes Go.ChangeAt
open Go.Proofs.YtjighmmfaedgbaaDoor.RatW (gPow10 gRange tPow10 cellsU64 cellsPow10 Tab2)

/-- The list that these two rows bear. -/
def laidAll : List (String × DataW Unit) := Rows.ratFormatsRow.laid

theorem tRange : (Tryd.prog.globals[4]?).map (·.type) = some 86 := by kernel_rfl
theorem cellsErr : Tryd.prog.cellsOf 127 = 1 := by kernel_rfl
theorem cellsStr : Tryd.prog.cellsOf 9 = 1 := by kernel_rfl
theorem star : "*" ++ "errors.errorString" = "*errors.errorString" := by decide
theorem rowErr (u : TypeId) (h : Tryd.prog.typeName? 3 u = some "*errors.errorString") : u = 125 :=
  typeName_ptr_named (nm := "errors.errorString") (by rw [star]; kernel_rfl) (by kernel_rfl) (by decide) u (by rw [star]; exact h)
theorem tab_of_laid {W : World} (h : laidMetH Tryd.prog laidAll W) : Tab2 W := by
  rw [MakeChecks.laidMetH_plain _ _ _ (by kernel_rfl)] at h
  have h1 : laidMet Tryd.prog (("internal/strconv.uint64pow10", Lib.tabData .u64 Lib.pow10Tab) :: ("strconv.ErrRange", Rows.laid_strconv_ErrRange) :: ("strconv.ErrSyntax", Rows.laid_strconv_ErrSyntax) :: []) W := h.tail.tail
  refine ⟨⟨Lib.tabIs_of_head gPow10 tPow10 Tryd.underlying119 Tryd.underlying42 cellsU64 cellsPow10 h1⟩, ?_⟩
  obtain ⟨a0, _, hv0, _⟩ := laid_sentinel h1.tail gRange tRange Tryd.underlying86 rowErr Tryd.underlying125 Tryd.underlying127 rfl rfl Tryd.underlying9 cellsErr cellsStr
  exact ⟨_, _, hv0⟩
/-- The heap that the variables' own initialisers leave meets the condition. -/
theorem door_met (os : Os) (args : Array Value) : laidMetH Tryd.prog laidAll ((World.doorLaid Tryd.prog 400 os).forCall (fun _ _ => 0) ⟨#[], args, []⟩).memory :=
  laidMetH_of_parts3 (fuel := 8) (laidMet_of_run' 8 (by kernel_rfl) (by kernel_rfl)) (by kernel_rfl) (by kernel_rfl)
end Go.Proofs.YtjighmmfaedgbaaDoor.RatW2
