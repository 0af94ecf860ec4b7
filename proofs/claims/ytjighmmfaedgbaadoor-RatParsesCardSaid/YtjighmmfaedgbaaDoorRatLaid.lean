/-
  What the package-level variables that a row of this seat lists give its walk; the world of the witness; a rational number as an argument, opened.
-/
import Derived.Test.YtjighmmfaedgbaaDoorCards
import Derived.Test.YtjighmmfaedgbaaDoorTie
import Derived.Test.YtjighmmfaedgbaaDoorRatAwake
import Derived.ProofKit
import Derived.LaidMore
import Derived.OpenShut
import Derived.Stop.Joined
import Derived.Stop.LaidErr
import Derived.Lib.LaidTab
import Derived.SizedLaws
import Derived.Carry
import Derived.Deep.DeepHandedRow
import Derived.Deep.DeepWitnessRowRef
namespace Go.Proofs.YtjighmmfaedgbaaDoor.RatW
open Go Go.RowKit Go.ChangeShapes Go.WideShapes Go.ChangeAt

/-- The list that the rows of this seat bear that read no error variable. -/
def laidAll : List (String × DataW Unit) := Rows.ratMakesRow.laid

theorem own : ownKnob Tryd.prog.godebug = none := by kernel_rfl
theorem tPow10 : (Tryd.prog.globals[5]?).map (·.type) = some 119 := by kernel_rfl
theorem cellsU64 : Tryd.prog.cellsOf 42 = 1 := by kernel_rfl
theorem cellsPow10 : Tryd.prog.cellsOf 119 = 20 := by kernel_rfl
theorem tab_of_laid {W : World} (h : laidMetH Tryd.prog laidAll W) : Tab W := by
  rw [MakeChecks.laidMetH_plain _ _ _ (by kernel_rfl)] at h
  have h1 : laidMet Tryd.prog (("internal/strconv.uint64pow10", Lib.tabData .u64 Lib.pow10Tab) :: []) W := h.tail.tail
  exact ⟨Lib.tabIs_of_head gPow10 tPow10 Tryd.underlying119 Tryd.underlying42 cellsU64 cellsPow10 h1⟩
/-- The heap that the variables' own initialisers leave meets the condition. -/
theorem door_met (os : Os) (args : Array Value) : laidMetH Tryd.prog laidAll ((World.doorLaid Tryd.prog 400 os).forCall (fun _ _ => 0) ⟨#[], args, []⟩).memory :=
  laidMetH_of_parts3 (fuel := 8) (laidMet_of_run' 8 (by kernel_rfl) (by kernel_rfl)) (by kernel_rfl) (by kernel_rfl)
theorem bounds {a : Int} (h : (Lit.int .i64 a).wf = true) : -9223372036854775808 ≤ a ∧ a ≤ 9223372036854775807 := by
  have e1 : IntKind.i64.min = -9223372036854775808 := rfl
  have e2 : IntKind.i64.max = 9223372036854775807 := rfl
  simp [Lit.wf, e1, e2] at h
  exact h
theorem laidOut : laidOutB Tryd.prog = true := by kernel_rfl
theorem cellsR : Tryd.prog.cellsOf 3 = 1 ∧ Tryd.prog.cellsOf 23 = 2 := by
  refine ⟨?_, ?_⟩ <;> kernel_rfl
set_option maxRecDepth 100000 in
theorem open_rat {H : Type} {enc : TypeId × Value → H} {W : World} {r : Reach} {b0 : Nat} {v : Value} {d : DataW H} {p : List MemPlace} (hval : Value.okWide Tryd.prog W r b0 23 v)
    (h : DataW.Trod enc Tryd.prog W 0 (fun _ => true) true 23 v d p) : ∃ (x y : Int), v = rv x y ∧ (-9223372036854775808 ≤ x ∧ x ≤ 9223372036854775807) ∧ (-9223372036854775808 ≤ y ∧ y ≤ 9223372036854775807) := by
  obtain ⟨cs, rfl, hcs⟩ := okWide_struct Tryd.underlying23 hval
  obtain ⟨k1, k2⟩ := cellsR
  rw [k2] at hcs
  obtain ⟨fuel, hf⟩ := h
  obtain ⟨xs, n, rfl, hx, hl, hlen, hfd⟩ := DataW.trod_struct Tryd.underlying23 hf
  obtain ⟨c0, c1, rfl⟩ : ∃ c0 c1, cs = #[c0, c1] := by
    obtain ⟨l⟩ := cs
    match l, hcs with
    | [c0, c1], _ => exact ⟨c0, c1, rfl⟩
  match xs, hlen with
  | [y0, y1], _ =>
    have h0 : DataW.trod enc Tryd.prog W 0 (fun _ => true) true n 3 ([c0, c1].take (Tryd.prog.cellsOf 3)) = some y0 := hfd 0 _ rfl
    rw [k1, show [c0, c1].take 1 = [c0] from rfl] at h0
    have h1 : DataW.trod enc Tryd.prog W 0 (fun _ => true) true n 3 ([c1].take (Tryd.prog.cellsOf 3)) = some y1 := hfd 1 _ rfl
    rw [k1, show [c1].take 1 = [c1] from rfl] at h1
    obtain ⟨m0, e0, _, w0⟩ := DataW.trod_int Tryd.underlying3 h0
    obtain ⟨m1, e1, _, w1⟩ := DataW.trod_int Tryd.underlying3 h1
    obtain rfl : c0 = .int .i64 m0 := by simpa using e0
    obtain rfl : c1 = .int .i64 m1 := by simpa using e1
    exact ⟨m0, m1, rfl, bounds w0, bounds w1⟩
end Go.Proofs.YtjighmmfaedgbaaDoor.RatW
