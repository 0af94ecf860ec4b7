/-
  What the functions of math/bits that package word calls return.
-/
import Derived.Test.YtdiackcefojfkaaGreatDoorWordMath
import Derived.Test.YtdiackcefojfkaaGreatDoorRows
import Derived.WalkKit
import Derived.Outline
import Derived.WalkSpells
import Derived.Deep.DeepFit
import Derived.Lib.Hide
import Derived.LoopTactic
import Derived.Deep.QuietTactic
import Derived.BigQuiet
namespace Go.Proofs.YtdiackcefojfkaaGreatDoor.WordW
open Go Go.RowKit Go.Proofs.YtdiackcefojfkaaGreatDoor.WordM

theorem ret1 {k : IntKind} {a b : Int} (h : a = b) : Ending.returned (.int k a) = .returned (.int k b) := by rw [h]
theorem and255 {x : Int} (h0 : 0 ≤ x) (h1 : x < 65536) : bits .and .u16 x 255 = x % 256 := by
  rw [u16_and x 255 h0 h1 (by omega) (by omega), show (255 : Int).toNat = 255 from rfl, and_255]
  omega
theorem pop_hi {x : Int} (h0 : 0 ≤ x) (h1 : x < 65536) : Lib.pop8 (x / 256) = (sumN 8 (x.toNat / 256) : Int) := by
  rw [← pop8_eq _ (by omega)]; congr 1; omega
theorem pop_lo {x : Int} (h0 : 0 ≤ x) (_h1 : x < 65536) : Lib.pop8 (x % 256) = (sumN 8 (x.toNat % 256) : Int) := by
  rw [← pop8_eq _ (by omega)]; congr 1; omega
theorem onesBits (x : Int) (w : World) (h0 : 0 ≤ x) (h1 : x < 65536) :
    Calls Tryz.prog 142 #[.int .u16 x] w fun e w' => e = .returned (.int .i64 (sumN 16 x.toNat)) ∧ ∃ m, w' = w.drewN m := by
  have h2 := and255 h0 h1
  have h3 : 0 ≤ x / 256 ∧ x / 256 ≤ 255 := by omega
  go_enter Tryz.func142, Tryz.ntmps142
  go_wp2
  conv in (occs := *) ByteArray.mk _ => all_goals change Lib.pop8tab
  go_quiet (fail)
  go_wp2
  go_ret
  refine ⟨ret1 ?_, _, rfl⟩
  rw [pop_hi h0 h1, pop_lo h0 h1]
  have := sumN_le 8 (x.toNat / 256)
  have := sumN_le 8 (x.toNat % 256)
  have e := ones16 x.toNat (by omega)
  generalize sumN 8 (x.toNat / 256) = p at *
  generalize sumN 8 (x.toNat % 256) = q at *
  generalize sumN 16 x.toNat = r at *
  omega
end Go.Proofs.YtdiackcefojfkaaGreatDoor.WordW
