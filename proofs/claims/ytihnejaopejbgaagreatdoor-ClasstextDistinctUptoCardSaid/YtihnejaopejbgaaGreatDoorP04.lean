/-
  Laws that the card uses; no conditions beside those that each states (LexMath CtMath).
-/
import Derived.Test.YtihnejaopejbgaaGreatDoorP03
namespace Go.Proofs.YtihnejaopejbgaaGreatDoor
namespace LexM
open Go Go.RowKit NumM
def nl (l:List UInt8):Nat:=l.countP fun c=>decide (c.toNat=10)
end LexM
namespace CtM
open Go NumM LexM ExM EtM ItM
def nl (c:UInt8):Bool:=c != 10
theorem pb_nl {c:UInt8} (h:pb c=true):nl c=true:=by
 unfold pb at h;unfold nl;simp only [Bool.and_eq_true,decide_eq_true_eq] at h;rw [bne_iff_ne];rintro rfl;have:(10:UInt8).toNat=10:=rfl;omega
theorem all_nl {l:List UInt8} (h:l.all pb=true):l.all nl=true:=List.all_eq_true.2 fun c hc=>pb_nl (List.all_eq_true.1 h c hc)
end CtM
end Go.Proofs.YtihnejaopejbgaaGreatDoor
