/-
  Laws that the card uses; no conditions beside those that each states (NumText ExKids).
-/
import Derived.Deep.AppendLies
import Derived.Deep.RegionLaw
import Derived.Test.YtpejflgdehioaaaGreatDoorQ07
namespace Go.Proofs.YtpejflgdehioaaaGreatDoor.NumM
open Go Go.RowKit
theorem vl_append (a b : List UInt8) (acc : Nat) : vl acc (a ++ b) = vl (vl acc a) b := List.foldl_append ..
end Go.Proofs.YtpejflgdehioaaaGreatDoor.NumM
namespace Go.Proofs.YtpejflgdehioaaaGreatDoor.ExW
open Go Go.RowKit Go.Proofs.YtpejflgdehioaaaGreatDoor.NumM Go.Proofs.YtpejflgdehioaaaGreatDoor.LexW Go.Proofs.YtpejflgdehioaaaGreatDoor.LexM Go.Proofs.YtpejflgdehioaaaGreatDoor.ExM
theorem cell_one_at {w : World} {B : Nat} (hB : w.heap.size = B) (x : Value) (t : TypeId) : ∀ j u, [x][j]? = some u → (w.alloc (.cells #[x] t)).cell? ((⟨B, 0, none⟩ : Addr).add j) = some u := by
  subst hB; exact cell_one_new w x t
end Go.Proofs.YtpejflgdehioaaaGreatDoor.ExW
