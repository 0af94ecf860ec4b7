/-
  Laws that the card uses; no conditions beside those that each states (CtSrc).
-/
import Derived.Test.YtihnejaopejbgaaGreatDoorP33
namespace Go.Proofs.YtihnejaopejbgaaGreatDoor
namespace CtW
open Go Go.RowKit Go.Shelf NumM LexW ExW ItW LexM ExM EtM EtW ItM CtM
theorem clsT_ne (k:Kl):clsT k≠[]:=by
 rw [cls_tx];intro h;have:=congrArg List.length h;simp at this
end CtW
end Go.Proofs.YtihnejaopejbgaaGreatDoor
