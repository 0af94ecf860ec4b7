/-
  What the functions of package word that call math/bits return, and Fits.
-/
import Derived.Test.YtdiackcefojfkaaGreatDoorExWordW
namespace Go.Proofs.YtdiackcefojfkaaGreatDoor.WordW
open Go Go.RowKit Go.Proofs.YtdiackcefojfkaaGreatDoor.WordM

theorem u16r (a : Int) : 0 ≤ IntKind.u16.wrap a ∧ IntKind.u16.wrap a < 65536 := by rw [IntKind.wrap_u16]; omega
theorem u16N (a : Int) : (IntKind.u16.wrap a).toNat = wordN a := by rw [IntKind.wrap_u16]; rfl
theorem onesCode (a : Int) (w : World) :
    Calls Tryz.prog 91 #[.int .i64 a] w fun e w' => e = .returned (.int .i64 (onesS a)) ∧ ∃ m, w' = w.drewN m := by
  have hmf := mkf
  go_enter Tryz.func91, Tryz.ntmps91
  go_wp2_with (first | (go_at_call 142; refine (onesBits _ _ (u16r a).1 (u16r a).2).mono ?_; rintro e w' ⟨rfl, m, rfl⟩) | go_in)
  go_ret
  refine ⟨ret1 ?_, _, rfl⟩
  have hl := sumN_le 16 (wordN a)
  rw [u16N, u16s (by omega) (by omega), w64 (by omega) (by omega)]
  rfl
end Go.Proofs.YtdiackcefojfkaaGreatDoor.WordW
