/-
  Laws that the card uses; no conditions beside those that each states (EtRefC).
-/
import Derived.Lib.Tables
import Derived.Laws.BitsAllLaws
import Derived.IntWalk
import Derived.Laws.Bits64
import Derived.Lib.ItoaNum
import Derived.Lib.AtoiAll
import Derived.Lib.Strings
import Derived.Test.YtihnejaopejbgaaGreatDoorRows
import Derived.WalkKit
import Derived.Outline
import Derived.WalkSpells
import Derived.Deep.DeepFit
import Derived.Lib.Hide
import Derived.LoopTactic
import Derived.Deep.QuietTactic
import Derived.BigQuiet
import Derived.Lib.MapLaws
import Derived.Laws.RangeAny
import Derived.Test.YtihnejaopejbgaaGreatDoorNumShelf
import Derived.Lib.SmallJoins
import Derived.Lib.AppendIntMem
import Derived.WalkSmall
import Derived.Laws.StructEq
import Derived.RangeFuncNested
import Derived.Deep.OwnRows
import Derived.Deep.RegionHeld3
import Derived.Lib.QuietBelow
import Derived.RangeFuncBound
import Derived.Laws.EntriesVeiled
import Derived.RangeFuncLeaves
import Derived.Shelf.Abstract
import Derived.OwnWalkIn
import Derived.TacticsInMore
import Derived.LoopNIn
import Derived.LoopIn
import Derived.Deep.RegionWith
import Derived.Deep.DeepCutAuto
import Derived.OwnWalk
import Derived.Maps.OwnIn
import Derived.Maps.AppendAt
import Derived.Maps.Views
import Derived.Deep.AppendLies
import Derived.Deep.RegionLaw
import Derived.Lib.OthersKept
import Derived.Lib.ItoaLen
import Derived.Lib.SlBytesRow
namespace Go.Proofs.YtihnejaopejbgaaGreatDoor
namespace EtR
open Go Go.RowKit
theorem join_one (x s:List UInt8):Lib.join [x] s=x:=by simp [Lib.join,List.intercalate]
end EtR
end Go.Proofs.YtihnejaopejbgaaGreatDoor
