/-
  Laws that the card uses; no conditions beside those that each states (ItBlk).
-/
import Derived.Test.YtpejflgdehioaaaGreatDoorU04
import Derived.Test.YtpejflgdehioaaaGreatDoorU07
import Derived.Test.YtpejflgdehioaaaGreatDoorU08
namespace Go.Proofs.YtpejflgdehioaaaGreatDoor
namespace ItW
open Go Go.RowKit NumM LexW LexM ExM ExW ItM
structure Blk (w:World) (g:Nat) (xs:List Value):Prop where
 lt:g<w.heap.size
 c:∀ (i:Nat) (x:Value),xs[i]? = some x→w.cell? ⟨g,i,none⟩=some x
 f:∀ o:Nat,w.frozen? ⟨g,o,none⟩=false
section
variable {w W0:World} {g:Nat} {xs:List Value}
theorem Blk.new (w:World) (xs:List Value) (t:TypeId):Blk (w.alloc (.cells xs.toArray t)) w.heap.size xs:=by
 have hb:(w.alloc (.cells xs.toArray t)).heap[w.heap.size]? = some (.cells xs.toArray t):=heap_alloc_new _ _;exact⟨by simp,fun i x hx=>(alloc_cells w xs.toArray t i x (by simpa using hx)).1,fun o=>by simp only [World.frozen?,hb];simp⟩
theorem Blk.at_ {n:Nat} (hn:w.heap.size=n) (xs:List Value) (t:TypeId):Blk (w.alloc (.cells xs.toArray t)) n xs:=by subst hn;exact Blk.new w xs t
theorem Blk.stay (h:Blk W0 g xs) (hb:Below W0.heap.size W0 w):Blk w g xs :=
 ⟨Nat.lt_of_lt_of_le h.lt hb.size,fun i x hx=>(hb.cell (p:=⟨g,i,none⟩) h.lt).trans (h.c i x hx),fun o=>(hb.frozen (p:=⟨g,o,none⟩) h.lt).trans (h.f o)⟩
theorem Blk.alloc (h:Blk w g xs) (o:Obj):Blk (w.alloc o) g xs:=h.stay ((Below.refl _ _).alloc (Nat.le_refl _) _)
theorem Blk.far {b o:Nat} {v:Value} (h:Blk w g xs) (hn:g≠b):Blk (w.setCell ⟨b,o,none⟩ v) g xs :=
 ⟨by rw [setCell_size];exact h.lt,fun i x hx=>(World.cell?_setCell_other _ _ _ _ (fun e=>hn (congrArg Addr.block e).symm)).trans (h.c i x hx),fun o=>by rw [World.frozen?_setCell];exact h.f o⟩
theorem Blk.set (h:Blk w g xs) (i:Nat) (v:Value) (hi:i<xs.length):Blk (w.setCell ⟨g,i,none⟩ v) g (xs.set i v):=by
 refine⟨by rw [setCell_size];exact h.lt,fun j x hx=>?_,fun o=>by rw [World.frozen?_setCell];exact h.f o⟩;rw [List.getElem?_set] at hx;split at hx
 ·rename_i e;subst e;obtain rfl:v=x:=(by simpa [hi] using hx);exact cell_set (h.c i _ (List.getElem?_eq_getElem hi))
 ·rename_i e;rw [other _ _ e];exact h.c j x hx
theorem Blk.grown {row:Option Nat} {w':World} (h:Blk w g xs) (hg:w.grownBy w' row) (hr:some g≠row):Blk w' g xs:=by
 have hb:=hg.block g h.lt hr;exact⟨Nat.lt_of_lt_of_le h.lt hg.size,fun i x hx=>(World.cell?_of_block (w:=w) hb).trans (h.c i x hx),fun o=>(World.frozen?_of_block (w:=w) hb).trans (h.f o)⟩
end
theorem ba (w:World) (o:Obj):Below w.heap.size w (w.alloc o):=(Below.refl _ _).alloc (Nat.le_refl _) _
abbrev ics (kd o n:Int) (en:ByteArray) (a4:Value) (nm ix:ByteArray) (a7 a8 a9 a10 a11:Value):List Value :=
 [.int .i64 kd,.int .i64 o,.int .i64 n,.string en,a4,.string nm,.string ix,a7,a8,a9,a10,a11]
theorem isEmp_toList (s:ByteArray):s.toList.isEmpty=isEmp s:=by unfold isEmp;exact str_empty s
theorem isEmpty_len {α:Type} (l:List α):l.isEmpty=decide (l.length=0):=by cases l<;>simp
theorem eqB_zE (e:Ex):eqB e zE=zB e:=by
 obtain⟨o,n,s,ks⟩:=e;unfold zE zB;rw [eqB_mk];have h1:eqL ks []=ks.isEmpty:=by
  unfold eqL;rw [Bool.eq_iff_iff];cases ks<;>simp
 have h2:(s.toList == (⟨#[]⟩:ByteArray).toList)=isEmp s:=by
  rw [←isEmp_toList,Lib.toList_data ⟨#[]⟩];cases h:s.toList<;>rfl
 rw [h1,h2];rfl
end ItW
end Go.Proofs.YtpejflgdehioaaaGreatDoor
