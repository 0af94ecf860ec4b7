/-
  Laws that the card uses; no conditions beside those that each states (ItRVar).
-/
import Derived.Deep.AppendLies
import Derived.Deep.RegionLaw
import Derived.Test.YtpejflgdehioaaaGreatDoorQ11
namespace Go.Proofs.YtpejflgdehioaaaGreatDoor.ItW
open Go Go.RowKit Go.Proofs.YtpejflgdehioaaaGreatDoor.NumM Go.Proofs.YtpejflgdehioaaaGreatDoor.LexW Go.Proofs.YtpejflgdehioaaaGreatDoor.LexM Go.Proofs.YtpejflgdehioaaaGreatDoor.ExM Go.Proofs.YtpejflgdehioaaaGreatDoor.ExW Go.Proofs.YtpejflgdehioaaaGreatDoor.ItM
open Go.Proofs.YtpejflgdehioaaaGreatDoor.ClM (Fld)
theorem isE_name {s : ByteArray} (h : nmB s.data.toList = true) : isE s = false := by
  rw [Bool.eq_false_iff]; intro he; obtain ⟨d, e, _⟩ := elm_parts he; refine nm_no h ?_; rw [e]; simp
end Go.Proofs.YtpejflgdehioaaaGreatDoor.ItW
