/-
  Laws that the card uses; no conditions beside those that each states (CtRefK).
-/
import Derived.Lib.SlBytesRow
import Derived.Laws.OwnMore
import Derived.Test.YtihnejaopejbgaaGreatDoorP26
namespace Go.Proofs.YtihnejaopejbgaaGreatDoor
namespace CtR
open Go Go.RowKit Go.Shelf NumM LexW ExW ItW LexM ExM EtM EtW ItM CtM CtW
theorem blk_stay {w0 w1:World} {g:Nat} {t:TypeId} {xs:List Value} (h:Bx w0 g t xs) (hb:Below w0.heap.size w0 w1):Blk w1 g xs:=h.blk.stay hb
end CtR
end Go.Proofs.YtihnejaopejbgaaGreatDoor
