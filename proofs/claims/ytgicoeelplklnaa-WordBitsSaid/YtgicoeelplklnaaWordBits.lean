/-
  What the functions of math/bits that package word calls return.
-/
import Derived.Test.YtgicoeelplklnaaWordMath
import Derived.Test.YtgicoeelplklnaaRows
import Derived.WalkKit
import Derived.Outline
import Derived.WalkSpells
import Derived.Deep.DeepFit
import Derived.Lib.Hide
import Derived.LoopTactic
import Derived.Deep.QuietTactic
import Derived.BigQuiet
namespace Go.Proofs.Ytgicoeelplklnaa.WordW
open Go Go.RowKit Go.Proofs.Ytgicoeelplklnaa.WordM

theorem ret1 {k : IntKind} {a b : Int} (h : a = b) : Ending.returned (.int k a) = .returned (.int k b) := by rw [h]
theorem and255 {x : Int} (h0 : 0 ≤ x) (h1 : x < 65536) : bits .and .u16 x 255 = x % 256 := by
  rw [u16_and x 255 h0 h1 (by omega) (by omega), show (255 : Int).toNat = 255 from rfl, and_255]
  omega
theorem pop_hi {x : Int} (h0 : 0 ≤ x) (h1 : x < 65536) : Lib.pop8 (x / 256) = (sumN 8 (x.toNat / 256) : Int) := by
  rw [← pop8_eq _ (by omega)]; congr 1; omega
theorem pop_lo {x : Int} (h0 : 0 ≤ x) (_h1 : x < 65536) : Lib.pop8 (x % 256) = (sumN 8 (x.toNat % 256) : Int) := by
  rw [← pop8_eq _ (by omega)]; congr 1; omega
theorem rev_hi {x : Int} (h0 : 0 ≤ x) (h1 : x < 65536) : Lib.rev8 (x / 256) = (revN 8 (x.toNat / 256) : Int) := by
  rw [← rev8_eq _ (by omega)]; congr 1; omega
theorem rev_lo {x : Int} (h0 : 0 ≤ x) (_h1 : x < 65536) : Lib.rev8 (x % 256) = (revN 8 (x.toNat % 256) : Int) := by
  rw [← rev8_eq _ (by omega)]; congr 1; omega
theorem onesBits (x : Int) (w : World) (h0 : 0 ≤ x) (h1 : x < 65536) :
    Calls Try.prog 53 #[.int .u16 x] w fun e w' => e = .returned (.int .i64 (sumN 16 x.toNat)) ∧ ∃ m, w' = w.drewN m := by
  have h2 := and255 h0 h1
  have h3 : 0 ≤ x / 256 ∧ x / 256 ≤ 255 := by omega
  go_enter Try.func53, Try.ntmps53
  go_wp2
  conv in (occs := *) ByteArray.mk _ => all_goals change Lib.pop8tab
  go_quiet (fail)
  go_wp2
  go_ret
  refine ⟨ret1 ?_, _, rfl⟩
  rw [pop_hi h0 h1, pop_lo h0 h1]
  have := sumN_le 8 (x.toNat / 256)
  have := sumN_le 8 (x.toNat % 256)
  have e := ones16 x.toNat (by omega)
  generalize sumN 8 (x.toNat / 256) = p at *
  generalize sumN 8 (x.toNat % 256) = q at *
  generalize sumN 16 x.toNat = r at *
  omega
theorem revBits (x : Int) (w : World) (h0 : 0 ≤ x) (h1 : x < 65536) :
    Calls Try.prog 54 #[.int .u16 x] w fun e w' => e = .returned (.int .u16 (revN 16 x.toNat)) ∧ ∃ m, w' = w.drewN m := by
  have h2 := and255 h0 h1
  have h3 : 0 ≤ x / 256 ∧ x / 256 ≤ 255 := by omega
  go_enter Try.func54, Try.ntmps54
  go_wp2
  conv in (occs := *) ByteArray.mk _ => all_goals change Lib.rev8tab
  go_quiet (fail)
  go_wp2
  go_ret
  refine ⟨ret1 ?_, _, rfl⟩
  rw [rev_hi h0 h1, rev_lo h0 h1]
  have l1 := revN_lt 8 (x.toNat / 256)
  have l2 := revN_lt 8 (x.toNat % 256)
  have e := rev16 x.toNat (by omega)
  generalize revN 8 (x.toNat / 256) = p at *
  generalize revN 8 (x.toNat % 256) = q at *
  generalize revN 16 x.toNat = r at *
  have f1 : IntKind.u16.wrap (p : Int) = p := by rw [IntKind.wrap_u16]; omega
  have f2 : IntKind.u16.wrap (IntKind.u16.wrap (q : Int) * 256) = ((q * 256 : Nat) : Int) := by simp only [IntKind.wrap_u16]; omega
  rw [f1, f2, u16_or_nat _ _ (by omega) (by omega), or_add _ _ (by omega), e]
end Go.Proofs.Ytgicoeelplklnaa.WordW
