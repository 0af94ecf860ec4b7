/-
  Laws that the card uses; no conditions beside those that each states (CtClass).
-/
import Derived.Test.YtihnejaopejbgaaGreatDoorP05
namespace Go.Proofs.YtihnejaopejbgaaGreatDoor
namespace CtM
open Go NumM LexM ExM EtM ItM
open ClM (Fld fieldE okF maxI)
theorem md_all (m:Int):(mdW m).all wrd=true:=by
 unfold mdW;split
 ·decide
 ·split<;>decide
theorem wrd_pb {l:List UInt8} (h:l.all wrd=true):l.all pb=true:=List.all_eq_true.2 fun c hc=>pb_wrd (List.all_eq_true.1 h c hc)
theorem fld_lnb {f:Fld} (h:fieldE f=0):LnB (fldL f):=by
 obtain⟨a1,a2,a3,a4,a5,a6⟩:=fld_ok h;refine⟨?_,mdW f.md++32::(nmT f.nm++((if 0<f.sz then 91::(Lib.itoa f.sz++[93]) else [])++32::58::32::(Lib.itoa f.wd++(if f.md=0 then 32::61::32::Lib.itoa f.ini else [])))),59,by unfold fldL;simp,by decide⟩;unfold fldL;have s1:(if 0<f.sz then 91::(Lib.itoa f.sz++[93]) else []).all pb=true:=by
  split
  ·rw [List.all_cons,List.all_append,dgt_pb (itoa_all a3.1)];rfl
  ·rfl
 have s2:(if f.md=0 then 32::61::32::Lib.itoa f.ini else []).all pb=true:=by
  split
  ·simp only [List.all_cons];rw [dgt_pb (itoa_all a5)];rfl
  ·rfl
 simp only [List.all_append,List.all_cons,wrd_pb (md_all f.md),wrd_pb (nm_wrd a1),dgt_pb (itoa_all (show 0≤f.wd by omega)),s1,s2];rfl
theorem cls_lnb {c:Kl} (h:VK c):∀ x∈clsL c,LnB x:=by
 intro x hx;unfold clsL at hx;rcases List.mem_cons.1 hx with rfl | hx
 ·unfold clsH;refine⟨?_,classW++32::(nmT c.nm++((if c.par.size=0 then [] else 32::(extendsW++32::nmT c.par))++[32])),123,by simp,by decide⟩;have s1:(if c.par.size=0 then [] else 32::(extendsW++32::nmT c.par)).all pb=true:=by
   split
   ·rfl
   ·rename_i k;simp only [List.all_cons,List.all_append,wrd_pb (nm_wrd (h.par.resolve_left k))];rfl
  simp only [List.all_append,List.all_cons,wrd_pb (nm_wrd h.nm),s1];rfl
 ·rcases List.mem_append.1 hx with hx | hx
  ·obtain⟨f,hf,rfl⟩:=List.mem_map.1 hx;exact lnb_bl 1 (fld_lnb (h.fs f hf))
  ·rcases List.mem_append.1 hx with hx | hx
   ·obtain⟨b,hb,hx⟩:=List.mem_flatMap.1 hx;obtain⟨b1,b2⟩:=h.bs b hb;unfold blkL at hx;rcases List.mem_cons.1 hx with rfl | hx
    ·refine lnb_bl 1 ⟨?_,constraintW++32::(nmT b.1++[32]),123,by unfold blkH;simp,by decide⟩;unfold blkH;simp only [List.all_append,List.all_cons,wrd_pb (nm_wrd b1)];rfl
    ·rcases List.mem_append.1 hx with hx | hx
     ·exact li_lnb b.2 2 b2 x hx
     ·rw [List.mem_singleton] at hx;rw [hx];exact lnb_bl 1 lnb_brace
   ·rw [List.mem_singleton] at hx;rw [hx];exact lnb_brace
end CtM
end Go.Proofs.YtihnejaopejbgaaGreatDoor
