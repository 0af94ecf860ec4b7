/-
  Laws that the card uses; no conditions beside those that each states (ItRWr ItRVal).
-/
import Derived.RangeFuncBound
import Derived.Laws.EntriesVeiled
import Derived.RangeFuncLeaves
import Derived.Shelf.Abstract
import Derived.OwnWalkIn
import Derived.TacticsInMore
import Derived.LoopNIn
import Derived.LoopIn
import Derived.Lib.QuietBelow
import Derived.Maps.OwnIn
import Derived.Maps.AppendAt
import Derived.Maps.Views
import Derived.Deep.AppendLies
import Derived.Deep.DeepCutAuto
import Derived.Deep.RegionLaw
import Derived.Maps.OwnSet
import Derived.Test.YtihnejaopejbgaaGreatDoorP10
namespace Go.Proofs.YtihnejaopejbgaaGreatDoor
namespace ItW
open Go Go.RowKit NumM LexW LexM ExM ExW ItM
theorem tInt_mk {n m:Int} {w w':World} (h:n=m) (hb:Below w.heap.size w w'):tInt n w (.returned (.int .i64 m)) w':=by subst h;exact⟨rfl,hb⟩
end ItW
namespace ItW
open Go Go.RowKit NumM LexW LexM ExM ExW ItM
open ClM (firstE firstE_zero)
def vlL (d:Nat) (l:List It):Int:=firstE ((wks d [] l).map fltP)
theorem flt_map (l:List It):∀ d B,(wks d B l).map fltP=(wks d [] l).map fltP:=by
 induction l using its_rec with
 | h0=>intro d B;rw [wks_nil,wks_nil]
 | h1 x r h1 h2 h3 =>
  intro d B;rw [wks_cons,wks_cons,wk_eq,wk_eq];simp only [List.map_append,List.map_cons];rw [h1 (d+1) (inn x.kd x.ix B),h1 (d+1) (inn x.kd x.ix []),h2 (d+1) B,h3 d B];rfl
theorem vl_nil (d:Nat):vlL d []=0:=by unfold vlL;rw [wks_nil];rfl
theorem vl_cons (d:Nat) (a:It) (r:List It):vlL d (a::r)=if fltI d a=0 then (if vlL (d+1) a.it=0 then (if vlL (d+1) a.el=0 then vlL d r else vlL (d+1) a.el) else vlL (d+1) a.it) else fltI d a:=by
 unfold vlL;rw [wks_cons,wk_eq,List.map_append,List.map_cons,List.map_append,List.cons_append,firstE_cons,firstE_append,firstE_append,flt_map a.it (d+1) (inn a.kd a.ix [])];show (if fltI d a=0 then _ else fltI d a)=_;by_cases h1:fltI d a=0
 ·rw [if_pos h1,if_pos h1];by_cases h2:firstE ((wks (d+1) [] a.it).map fltP)=0
  ·simp only [h2,if_true]
  ·simp only [h2,if_false]
 ·rw [if_neg h1,if_neg h1]
end ItW
end Go.Proofs.YtihnejaopejbgaaGreatDoor
