/-
  Laws that the card uses; no conditions beside those that each states (CtRefV).
-/
import Derived.Test.YtihnejaopejbgaaGreatDoorP32
import Derived.Test.YtihnejaopejbgaaGreatDoorP49
import Derived.Test.YtihnejaopejbgaaGreatDoorP50
set_option maxRecDepth 100000
set_option maxHeartbeats 16000000
namespace Go.Proofs.YtihnejaopejbgaaGreatDoor
namespace CtR
open Go Go.RowKit Go.Shelf NumM LexW ExW ItW LexM ExM EtM EtW ItM CtM CtW
open ClM (Fld fieldE validE)
open ClW (At RowA Lo CV)
theorem okKR_any (w0:World) (k:Kl) (pf:Option Addr) (cf:Nat) (pk:Option Addr) (ck:Nat) (hx:KA w0.heap.size w0 pf cf pk ck k) (hz:bzK k≤2000000) (W:World) (hW:Below w0.heap.size w0 W) :
  Calls Tryz.prog 19 #[.agg #[.string k.nm,.string k.par,.slice pf k.fs.length cf,.slice pk k.bs.length ck]] W (tBool (okK k) W):=by
 have hlk:(clOf k).bs.length=k.bs.length:=(by unfold clOf;simp);have VC:Hid (∀ W2,Below w0.heap.size w0 W2→Calls Tryz.prog 36 #[.agg #[.string k.nm,.string k.par,.slice pf k.fs.length cf,.slice pk k.bs.length ck]] W2 (tInt (validE (clOf k)) W2)):=Lh fun W2 h2=>by
  have:=ClW.validR_any (clOf k) pf cf pk ck W2.heap.size W2 ((hx.under h2).wide h2.size).cv (Nat.le_refl _);rw [hlk] at this;exact this
 obtain⟨q,cq,V,eq,hl0,hc0,hi,hp⟩:=hx.bs;obtain⟨rfl,_,rfl⟩:pk=q∧True∧ck=cq:=(by simpa using eq);have IC:Hid (∀ (j:Nat) (b:ByteArray × List It),k.bs[j]? = some b→∀ W2,Below w0.heap.size w0 W2→Calls Tryz.prog 22 #[V j] W2 (tInt (validI b.2) W2)):=Lh fun j b hb W2 h2=>by
  have h1:=bzK_mem (List.mem_of_getElem? hb);have h3:=iszs_bz b.2;exact itemValidR_any b.2 (V j) W2 (((hi j b hb).2.under h2).wide h2.size) (by omega) (rs_bz b.2 (by omega))
 have HI:=Lh hi;have HP:=Lh hp;have EE:Hid (okK k=(decide (validE (clOf k)=0)&&!k.bs.any (fun b=>wrgB b.2))):=Lh rfl;rw [EE.out];obtain⟨E,hE⟩:∃ E,validE (clOf k)=E:=⟨_,rfl⟩;obtain⟨l,hl⟩:∃ l,k.bs=l:=⟨_,rfl⟩;rw [hE] at VC ⊢;rw [hl] at VC IC HI HP hl0 ⊢;obtain⟨nk,hnk⟩:∃ n,l.length=n:=⟨_,rfl⟩;have HNK:=Lh hnk;rw [hnk] at VC HP hl0 ⊢;have hk47:nk≤140737488351232:=(by omega);clear hx hz hlk eq hc0 hi hp EE hE hl hnk hl0;generalize k.nm=nm at *
 generalize k.par=par at *
 generalize k.fs.length=nf at *
 have F1:Bx (W.alloc (.cells #[.string nm,.string par,.slice pf nf cf,.slice pk nk ck] 32)) W.heap.size 32 [.string nm,.string par,.slice pf nf cf,.slice pk nk ck]:=Bx.new _ _ _;have B0:=ba W (.cells #[.string nm,.string par,.slice pf nf cf,.slice pk nk ck] 32);obtain⟨W0,hW0⟩:∃ W0,W.alloc (.cells #[.string nm,.string par,.slice pf nf cf,.slice pk nk ck] 32)=W0:=⟨_,rfl⟩;rw [hW0] at F1 B0;have HF:=Lh F1;have HY:=Lh B0;have HB:=Lh (hW.then_ B0);have hlt0:=F1.blk.lt;have c0:=F1.blk.c 0 _ rfl;have c1:=F1.blk.c 1 _ rfl;have c2:=F1.blk.c 2 _ rfl;have c3:=F1.blk.c 3 _ rfl;clear F1 B0 hW;by_cases h:E=0
 ·subst h;rw [show (decide ((0:Int)=0)&&!l.any (fun b=>wrgB b.2)) = !l.any (fun b=>wrgB b.2) from by simp];have HLT:=Lh hlt0
  go_enter Tryz.func19,Tryz.ntmps19
  go_wp2_with (go_at_call 36;((with_reducible refine (VC.out _ HB.out).mono ?_);rintro e w2 ⟨rfl,hb⟩;have HX:=Lh hb;clear hb c0 c1 c2 c3;have X:=blk_stay HF.out HX.out;have c3:=X.c 3 _ rfl;have hlt2:=X.lt;clear X hlt0))
  have HX0:=HX;go_loopw [3] (fun i wr=>∃ j:Nat,j≤nk∧i=.int .i64 j∧Hid ((l.take j).any (fun b=>wrgB b.2)=false)∧Hid (Below W0.heap.size W0 wr)) (fun i _=>nk - (intOf i).toNat)
  case atStart=>exact⟨0,Nat.zero_le _,rfl,Lh (by rw [List.take_zero];rfl),HX0⟩
  case round =>
   obtain⟨j,hj,rfl,HA,BW⟩:=hrel;clear c3 hlt2;have X:=blk_stay HF.out BW.out;have c3:=X.c 3 _ rfl;have hlt2:=X.lt;clear X;by_cases hlt:j<nk
   ·obtain⟨b,hbk⟩:∃ b,l[j]? = some b:=⟨_,List.getElem?_eq_getElem (by rw [HNK.out];exact hlt)⟩;obtain⟨g,off,rfl,hg,hcel⟩:=HP.out (by omega);obtain⟨pi,ci,_,ei,_⟩:=(HI.out j b hbk).2.form;have hlow:=low_cells (HB.out.then_ BW.out);have d1:=hlow _ _ hg _ (hcel j b hbk).2;have JC:=Lh (IC.out j b hbk);rw [ei] at d1 JC;have TK:(l.take (j+1)).any (fun b=>wrgB b.2)=((l.take j).any (fun b=>wrgB b.2)||wrgB b.2):=by
     obtain⟨hj',he⟩:=List.getElem?_eq_some_iff.1 hbk;rw [List.take_succ_eq_append_getElem hj',List.any_append,he];simp
    have hmem:=List.mem_of_getElem? hbk;have eW:wrgB b.2 = !decide (validI b.2=0):=rfl;by_cases hq:validI b.2=0
    ·have HT:Hid ((l.take (j+1)).any (fun b=>wrgB b.2)=false):=Lh (by rw [TK,HA.out,eW,hq];rfl);rw [hq] at JC;clear hcel hlow TK hmem eW hq hbk ei;generalize b.2.length=nb at *
     go_wp2_with (go_at_call 22;((with_reducible refine (JC.out _ (HB.out.then_ BW.out)).mono ?_);rintro e w2 ⟨rfl,hb⟩;have HX:=Lh (BW.out.then_ hb);clear hb d1 c3 hlt2))
     go_roundw
     case rel=>exact⟨j+1,by omega,by go_num,HT,HX⟩
     case measure=>simp [intOf];omega
    ·have HT:Hid ((!l.any (fun b=>wrgB b.2))=false):=Lh (by
      rw [Bool.not_eq_false',List.any_eq_true];exact⟨b,hmem,by rw [eW];simpa using hq⟩)
     obtain⟨e,he⟩:∃ e,validI b.2=e:=⟨_,rfl⟩;rw [he] at JC hq;have f1:(e != 0)=true:=(by simpa using hq);clear hcel hlow TK hmem eW hq hbk ei he;generalize b.2.length=nb at *
     go_wp2_with (go_at_call 22;((with_reducible refine (JC.out _ (HB.out.then_ BW.out)).mono ?_);rintro e w2 ⟨rfl,hb⟩;have HX:=Lh (BW.out.then_ hb);clear hb d1 c3 hlt2))
     go_ret;exact⟨congrArg (fun b=>Ending.returned (.bool b)) HT.out.symm,HY.out.then_ HX.out⟩
   ·obtain rfl:j=nk:=(by omega);have HT:Hid ((!l.any (fun b=>wrgB b.2))=true):=Lh (by have:=HA.out;rw [List.take_of_length_le (by rw [HNK.out];exact Nat.le_refl _)] at this;rw [this];rfl);go_wp2;go_ret;exact⟨congrArg (fun b=>Ending.returned (.bool b)) HT.out.symm,HY.out.then_ BW.out⟩
 ·have f1:(E != 0)=true:=(by simpa using h);rw [show (decide (E=0)&&!l.any (fun b=>wrgB b.2))=false from by simp [h]];clear h
  go_enter Tryz.func19,Tryz.ntmps19
  go_wp2_with (go_at_call 36;((with_reducible refine (VC.out _ HB.out).mono ?_);rintro e w2 ⟨rfl,hb⟩;have HX:=Lh hb;clear hb))
  go_ret;exact⟨rfl,HY.out.then_ HX.out⟩
end CtR
end Go.Proofs.YtihnejaopejbgaaGreatDoor
