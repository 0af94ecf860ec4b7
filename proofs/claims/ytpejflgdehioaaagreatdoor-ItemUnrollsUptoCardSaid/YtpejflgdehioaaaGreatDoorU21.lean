/-
  Laws that the card uses; no conditions beside those that each states (ItIdx2 ItFlt3 ExCount ItIter ItSize ItChkE ItNamesIn ItNames ItLSca).
-/
import Derived.Test.YtpejflgdehioaaaGreatDoorU09
import Derived.Test.YtpejflgdehioaaaGreatDoorU10
import Derived.Test.YtpejflgdehioaaaGreatDoorU15
import Derived.Test.YtpejflgdehioaaaGreatDoorU16
import Derived.Test.YtpejflgdehioaaaGreatDoorU17
set_option maxRecDepth 100000
set_option maxHeartbeats 16000000
namespace Go.Proofs.YtpejflgdehioaaaGreatDoor
namespace ItW
open Go Go.RowKit NumM LexW LexM ExM ExW ItM
theorem unk_ix (l:List ByteArray) (q:ByteArray→Bool) (v:Value) (N:Nat) (w:World) (ha:StA N w v l) (hN:N≤w.heap.size) (mb:Nat) (hq:∀ s∈l,∀ W,Below w.heap.size w W→s.size≤140737488351232→Calls Tryz.prog 83 #[.map (some mb),.string s] W (tBool (q s) W)) :
  Calls Tryz.prog 126 #[v,.func (.func 83) #[.map (some mb)] #[]] w fun e w'=>∃ r:Int,e=.returned (.int .i64 r)∧(-1≤r∧r≤140737488351232)∧decide (0≤r)=l.any q∧Below w.heap.size w w':=by
 obtain⟨p,cap,rfl,hl,hc0,hz,hp⟩:=ha;have HP:=Lh hp;have HZ:=Lh hz;clear hp hz;have HQ:=Lh hq;obtain⟨K,hK⟩:∃ K,l.length=K:=⟨_,rfl⟩;have HK:=Lh hK;rw [hK] at hl ⊢;have hk:K≤140737488351232:=(by omega);clear hK hl hq;have HB0:=Lh (Below.refl w.heap.size w)
 go_enter Tryz.func126,Tryz.ntmps126
 go_wp2;go_loopw [8] (fun i wr=>∃ j:Nat,j≤K∧i=.int .i64 j∧Hid ((l.take j).any q=false)∧Hid (Below w.heap.size w wr)) (fun i _=>K - (intOf i).toNat)
 case atStart=>exact⟨0,Nat.zero_le _,rfl,Lh rfl,HB0⟩
 case round =>
  obtain⟨j,hj,rfl,FN,BW⟩:=hrel;by_cases hlt:j<K
  ·obtain⟨c,hc⟩:∃ c,l[j]? = some c:=⟨_,List.getElem?_eq_getElem (by rw [HK.out];exact hlt)⟩;have hbw:Below N w wr:=BW.out.mono hN;obtain⟨b,off,rfl,hb,hcell⟩:=HP.out (by rw [HK.out];omega);have c0:=low_cells hbw _ _ hb _ (hcell j c hc);have CC:=Lh (HQ.out c (List.mem_of_getElem? hc) wr BW.out (HZ.out c (List.mem_of_getElem? hc)));clear hcell;have HC:=Lh hc;clear hc hbw;cases hs:q c
   ·have FN2:=Lh (any_next HC.out hs FN.out);rw [hs] at CC;clear hs;go_wp2_with (go_at_call 83;((with_reducible refine CC.out.mono ?_);rintro e w1 ⟨rfl,hb1⟩;have HB1:=Lh (BW.out.then_ hb1);clear hb1))
    go_roundw
    case rel=>exact⟨j+1,by omega,by go_num,FN2,HB1⟩
    case measure=>simp [intOf];omega
   ·have FS:=Lh (any_at HC.out hs);rw [hs] at CC;clear hs;go_wp2_with (go_at_call 83;((with_reducible refine CC.out.mono ?_);rintro e w1 ⟨rfl,hb1⟩;have HB1:=Lh (BW.out.then_ hb1);clear hb1))
    go_ret;exact⟨_,rfl,by omega,by rw [FS.out];exact decide_eq_true (by omega),HB1.out⟩
  ·have FN2:Hid (l.any q=false):=Lh (by have:=FN.out;rw [List.take_of_length_le (by rw [HK.out];omega)] at this;exact this);go_wp2;go_ret;exact⟨_,rfl,by omega,by rw [FN2.out];rfl,BW.out⟩
theorem unk_has (l:List ByteArray) (q:ByteArray→Bool) (v:Value) (N:Nat) (w:World) (ha:StA N w v l) (hN:N≤w.heap.size) (mb:Nat) (hq:∀ s∈l,∀ W,Below w.heap.size w W→s.size≤140737488351232→Calls Tryz.prog 83 #[.map (some mb),.string s] W (tBool (q s) W)) :
  Calls Tryz.prog 82 #[v,.func (.func 83) #[.map (some mb)] #[]] w (tBool (l.any q) w):=by
 have IC:=Lh (unk_ix l q v N w ha hN mb hq);have hcc:∃ p cap,v=.slice p l.length cap:=(by obtain⟨p,cap,e,_⟩:=ha;exact⟨p,cap,e⟩);obtain⟨p,cap,rfl⟩:=hcc;clear ha hq;generalize l.any q=c at *
 generalize l.length=K at *
 cases c
 ·go_enter Tryz.func82,Tryz.ntmps82
  go_wp2_with (go_at_call 126;((with_reducible refine IC.out.mono ?_);rintro e w1 ⟨r,rfl,⟨hr0,hr1⟩,hr,hb⟩;have HB:=Lh hb;clear hb))
  go_ret;exact⟨rfl,HB.out⟩
 ·go_enter Tryz.func82,Tryz.ntmps82
  go_wp2_with (go_at_call 126;((with_reducible refine IC.out.mono ?_);rintro e w1 ⟨r,rfl,⟨hr0,hr1⟩,hr,hb⟩;have HB:=Lh hb;clear hb))
  go_ret;exact⟨rfl,HB.out⟩
theorem large_ix (l:List It) (q:It→Bool) (v:Value) (N:Nat) (w:World) (ha:ItsA N w v l) (hN:N≤w.heap.size) (hq:∀ x∈l,∀ W a4 a7 a8 a9 a10 a11,Below w.heap.size w W→IV N W a4 a7 a8 a9 a10 a11 x→Calls Tryz.prog 48 #[iv x.kd x.e.op x.e.n x.e.nm a4 x.nm x.ix a7 a8 a9 a10 a11] W (tBool (q x) W)) :
  Calls Tryz.prog 89 #[v,.func (.func 48) #[] #[]] w fun e w'=>∃ r:Int,e=.returned (.int .i64 r)∧(-1≤r∧r≤140737488351232)∧decide (0≤r)=l.any q∧Below w.heap.size w w':=by
 obtain⟨p,cap,V,rfl,hr⟩:=ha.form;have hl:=hr.hl;clear ha;have HR:=Lh hr;clear hr;have HQ:=Lh hq;obtain⟨K,hK⟩:∃ K,l.length=K:=⟨_,rfl⟩;have HK:=Lh hK;rw [hK] at hl ⊢;have hk:K≤140737488351232:=(by omega);clear hK hl hq;have HB0:=Lh (Below.refl w.heap.size w)
 go_enter Tryz.func89,Tryz.ntmps89
 go_wp2;go_loopw [8] (fun i wr=>∃ j:Nat,j≤K∧i=.int .i64 j∧Hid ((l.take j).any q=false)∧Hid (Below w.heap.size w wr)) (fun i _=>K - (intOf i).toNat)
 case atStart=>exact⟨0,Nat.zero_le _,rfl,Lh rfl,HB0⟩
 case round =>
  obtain⟨j,hj,rfl,FN,BW⟩:=hrel;by_cases hlt:j<K
  ·obtain⟨c,hc⟩:∃ c,l[j]? = some c:=⟨_,List.getElem?_eq_getElem (by rw [HK.out];exact hlt)⟩;have hbw:Below N w wr:=BW.out.mono hN;have hr2:=HR.out.under hbw;obtain⟨b,off,rfl,hb,hcell⟩:=hr2.hp (by rw [HK.out];omega);have hva:=hr2.hv j c hc;obtain⟨g0,g1,g2,g3,g4,g5,g6,g7,g8,g9,g10,g11⟩:=hcell j c hc;have CC:=Lh (HQ.out c (List.mem_of_getElem? hc) wr _ _ _ _ _ _ BW.out hva);obtain⟨p4,k4,p7,k7,p8,k8,p9,k9,p10,k10,p11,k11,e4,e7,e8,e9,e10,e11⟩:=hva.slices;rw [e4] at g4;rw [e7] at g7;rw [e8] at g8;rw [e9] at g9;rw [e10] at g10;rw [e11] at g11;rw [e4,e7,e8,e9,e10,e11] at CC;clear hcell hva e4 e7 e8 e9 e10 e11 hr2;have HC:=Lh hc;clear hc hbw;cases hs:q c
   ·have FN2:=Lh (any_next HC.out hs FN.out);rw [hs] at CC;clear hs;go_wp2_with (go_at_call 48;((with_reducible refine CC.out.mono ?_);rintro e w1 ⟨rfl,hb1⟩;have HB1:=Lh (BW.out.then_ hb1);clear hb1))
    go_roundw
    case rel=>exact⟨j+1,by omega,by go_num,FN2,HB1⟩
    case measure=>simp [intOf];omega
   ·have FS:=Lh (any_at HC.out hs);rw [hs] at CC;clear hs;go_wp2_with (go_at_call 48;((with_reducible refine CC.out.mono ?_);rintro e w1 ⟨rfl,hb1⟩;have HB1:=Lh (BW.out.then_ hb1);clear hb1))
    go_ret;exact⟨_,rfl,by omega,by rw [FS.out];exact decide_eq_true (by omega),HB1.out⟩
  ·have FN2:Hid (l.any q=false):=Lh (by have:=FN.out;rw [List.take_of_length_le (by rw [HK.out];omega)] at this;exact this);go_wp2;go_ret;exact⟨_,rfl,by omega,by rw [FN2.out];rfl,BW.out⟩
theorem large_has (l:List It) (q:It→Bool) (v:Value) (N:Nat) (w:World) (ha:ItsA N w v l) (hN:N≤w.heap.size) (hq:∀ x∈l,∀ W a4 a7 a8 a9 a10 a11,Below w.heap.size w W→IV N W a4 a7 a8 a9 a10 a11 x→Calls Tryz.prog 48 #[iv x.kd x.e.op x.e.n x.e.nm a4 x.nm x.ix a7 a8 a9 a10 a11] W (tBool (q x) W)) :
  Calls Tryz.prog 47 #[v,.func (.func 48) #[] #[]] w (tBool (l.any q) w):=by
 have IC:=Lh (large_ix l q v N w ha hN hq);have hcc:∃ p cap,v=.slice p l.length cap:=(by obtain⟨p,cap,_,e,_⟩:=ha.form;exact⟨p,cap,e⟩);obtain⟨p,cap,rfl⟩:=hcc;clear ha hq;generalize l.any q=c at *
 generalize l.length=K at *
 cases c
 ·go_enter Tryz.func47,Tryz.ntmps47
  go_wp2_with (go_at_call 89;((with_reducible refine IC.out.mono ?_);rintro e w1 ⟨r,rfl,⟨hr0,hr1⟩,hr,hb⟩;have HB:=Lh hb;clear hb))
  go_ret;exact⟨rfl,HB.out⟩
 ·go_enter Tryz.func47,Tryz.ntmps47
  go_wp2_with (go_at_call 89;((with_reducible refine IC.out.mono ?_);rintro e w1 ⟨r,rfl,⟨hr0,hr1⟩,hr,hb⟩;have HB:=Lh hb;clear hb))
  go_ret;exact⟨rfl,HB.out⟩
theorem IV.pv {N:Nat} {w:World} {a4 a7 a8 a9 a10 a11:Value} {x:It} (h:IV N w a4 a7 a8 a9 a10 a11 x) {P:Value→Prop}
  (g:∀ kd o n en p4 k4 c4 nm ix p7 k7 c7 p8 k8 c8 p9 k9 c9 p10 k10 c10 p11 k11 c11,PV N w kd o n en p4 k4 c4 nm ix p7 k7 c7 p8 k8 c8 p9 k9 c9 p10 k10 c10 p11 k11 c11 x→P (iv kd o n en (.slice p4 k4 c4) nm ix (.slice p7 k7 c7) (.slice p8 k8 c8) (.slice p9 k9 c9) (.slice p10 k10 c10) (.slice p11 k11 c11))) :
  P (iv x.kd x.e.op x.e.n x.e.nm a4 x.nm x.ix a7 a8 a9 a10 a11):=by
 obtain⟨kd,o,n,en,p4,k4,c4,nm,ix,p7,k7,c7,p8,k8,c8,p9,k9,c9,p10,k10,c10,p11,k11,c11,ev,hv⟩:=h.open_;rw [ev];exact g _ _ _ _ _ _ _ _ _ _ _ _ _ _ _ _ _ _ _ _ _ _ _ _ hv
theorem dist_any (x:It) (a4 a7 a8 a9 a10 a11:Value) (N:Nat) (w:World) (h:IV N w a4 a7 a8 a9 a10 a11 x) (hN:N≤w.heap.size) (ht:Tab w) :
  Calls Tryz.prog 74 #[iv x.kd x.e.op x.e.n x.e.nm a4 x.nm x.ix a7 a8 a9 a10 a11] w (tInt (distE x) w):=by
 refine h.pv (P:=fun v=>Calls Tryz.prog 74 #[v] w (tInt (distE x) w)) ?_;intro kd o n en p4 k4 c4 nm ix p7 k7 c7 p8 k8 c8 p9 k9 c9 p10 k10 c10 p11 k11 c11 hv;have hl:=hv.h.lens;rw [hv.l7] at hl;obtain⟨cs,hcs⟩:∃ cs,cs=ics kd o n en (.slice p4 k4 c4) nm ix (.slice p7 k7 c7) (.slice p8 k8 c8) (.slice p9 k9 c9) (.slice p10 k10 c10) (.slice p11 k11 c11):=⟨_,rfl⟩;have F0:=Blk.new w cs 55;have HB:=Lh (ba w (.cells cs.toArray 55));have HC:Hid (Calls Tryz.prog 115 #[.slice p7 k7 c7,.func (.func 116) #[] #[]] (w.alloc (.cells cs.toArray 55)) (tBool (x.ws.any wrongW) (w.alloc (.cells cs.toArray 55)))) :=
  Lh (wrong_has x.ws wrongW _ N _ (hv.h.wt.under (HB.out.mono hN)) (by simp;omega) (fun t _ W _=>isWrong_any t W))
 have VC:Hid (∀ W,Below w.heap.size w W→Calls Tryz.prog 117 #[.string nm] W (tBool (noVar x.nm) W)):=Lh fun W hW=>by
  rw [hv.e5];exact noVar_any nm W (by rw [←hv.e5];exact hv.h.nm) (ht.later hW)
 have EE:Hid (distE x=if 16<k7 then 2 else if k7=0∨x.ws.any wrongW=true then 1 else if noVar x.nm=true then 7 else 0):=Lh (by unfold distE;rw [hv.l7]);subst hcs;have d5:=F0.c 5 _ rfl;have d7:=F0.c 7 _ rfl;have HF:=Lh F0;clear F0 hv h ht;generalize x.ws.any wrongW=u at *
 generalize noVar x.nm=z at *
 by_cases h1:16<k7
 ·have E:Hid (2=distE x):=Lh (by rw [EE.out,if_pos h1]);have q:decide ((16:Int)<k7)=true:=decide_eq_true (by omega)
  go_enter Tryz.func74,Tryz.ntmps74
  go_wp2;go_ret;exact tInt_mk E.out HB.out
 ·have q:decide ((16:Int)<k7)=false:=decide_eq_false (by omega);by_cases h2:k7=0
  ·have E:Hid (1=distE x):=Lh (by rw [EE.out,if_neg h1,if_pos (.inl h2)]);subst h2
   go_enter Tryz.func74,Tryz.ntmps74
   go_wp2;go_ret;exact tInt_mk E.out HB.out
  ·have q2:((k7:Int) == 0)=false:=(by rw [beq_eq_false_iff_ne];omega);cases u
   ·have EE2:Hid (distE x=if z=true then 7 else 0):=Lh (by rw [EE.out,if_neg h1,if_neg (by simp [h2])]);cases z
    ·have E:Hid (0=distE x):=Lh (by rw [EE2.out];rfl)
     go_enter Tryz.func74,Tryz.ntmps74
     go_wp2_with (first
      | (go_at_call 115;((with_reducible refine HC.out.mono ?_);rintro e w1 ⟨rfl,hb⟩;have HB1:=Lh (HB.out.then_ hb);have F1:=HF.out.stay hb;have d5:=F1.c 5 _ rfl;clear hb F1))
      | (go_at_call 117;((with_reducible refine (VC.out _ HB1.out).mono ?_);rintro e w2 ⟨rfl,hb⟩;have HB2:=Lh (HB1.out.then_ hb);clear hb)))
     go_ret;exact tInt_mk E.out HB2.out
    ·have E:Hid (7=distE x):=Lh (by rw [EE2.out];rfl)
     go_enter Tryz.func74,Tryz.ntmps74
     go_wp2_with (first
      | (go_at_call 115;((with_reducible refine HC.out.mono ?_);rintro e w1 ⟨rfl,hb⟩;have HB1:=Lh (HB.out.then_ hb);have F1:=HF.out.stay hb;have d5:=F1.c 5 _ rfl;clear hb F1))
      | (go_at_call 117;((with_reducible refine (VC.out _ HB1.out).mono ?_);rintro e w2 ⟨rfl,hb⟩;have HB2:=Lh (HB1.out.then_ hb);clear hb)))
     go_ret;exact tInt_mk E.out HB2.out
   ·have E:Hid (1=distE x):=Lh (by rw [EE.out,if_neg h1,if_pos (.inr rfl)])
    go_enter Tryz.func74,Tryz.ntmps74
    go_wp2_with (go_at_call 115;((with_reducible refine HC.out.mono ?_);rintro e w1 ⟨rfl,hb⟩;have HB1:=Lh (HB.out.then_ hb);have F1:=HF.out.stay hb;have d5:=F1.c 5 _ rfl;clear hb F1))
    go_ret;exact tInt_mk E.out HB1.out
theorem solve_any (x:It) (a4 a7 a8 a9 a10 a11:Value) (N:Nat) (w:World) (h:IV N w a4 a7 a8 a9 a10 a11 x) (hN:N≤w.heap.size) (ht:Tab w) :
  Calls Tryz.prog 75 #[iv x.kd x.e.op x.e.n x.e.nm a4 x.nm x.ix a7 a8 a9 a10 a11] w (tInt (solveE x) w):=by
 refine h.pv (P:=fun v=>Calls Tryz.prog 75 #[v] w (tInt (solveE x) w)) ?_;intro kd o n en p4 k4 c4 nm ix p7 k7 c7 p8 k8 c8 p9 k9 c9 p10 k10 c10 p11 k11 c11 hv;have hl:=hv.h.lens;rw [hv.l10,hv.l11] at hl;obtain⟨cs,hcs⟩:∃ cs,cs=ics kd o n en (.slice p4 k4 c4) nm ix (.slice p7 k7 c7) (.slice p8 k8 c8) (.slice p9 k9 c9) (.slice p10 k10 c10) (.slice p11 k11 c11):=⟨_,rfl⟩;have F0:=Blk.new w cs 55;have HB:=Lh (ba w (.cells cs.toArray 55));have HT:=Lh ht;have BC:Hid (∀ W,Below w.heap.size w W→Calls Tryz.prog 82 #[.slice p10 k10 c10,.func (.func 117) #[] #[]] W (tBool (x.bf.any noVar) W)) :=
  Lh fun W hW=>noVar_has x.bf noVar _ N W (hv.h.bfs.under (hW.mono hN)) (by have:=hW.size;omega) (fun t _ W' hW' hs=>noVar_any t W' hs ((HT.out.later hW).later hW'))
 have AC:Hid (∀ W,Below w.heap.size w W→Calls Tryz.prog 82 #[.slice p11 k11 c11,.func (.func 117) #[] #[]] W (tBool (x.af.any noVar) W)) :=
  Lh fun W hW=>noVar_has x.af noVar _ N W (hv.h.afs.under (hW.mono hN)) (by have:=hW.size;omega) (fun t _ W' hW' hs=>noVar_any t W' hs ((HT.out.later hW).later hW'))
 have EE:Hid (solveE x=if k10=0∨k11=0 then 1 else if x.bf.any noVar=true∨x.af.any noVar=true then 7 else 0):=Lh (by unfold solveE;rw [hv.l10,hv.l11]);subst hcs;have d10:=F0.c 10 _ rfl;have d11:=F0.c 11 _ rfl;have HF:=Lh F0;clear F0 hv h ht;generalize x.bf.any noVar=u at *
 generalize x.af.any noVar=z at *
 by_cases h1:k10=0
 ·have E:Hid (1=solveE x):=Lh (by rw [EE.out,if_pos (.inl h1)]);subst h1
  go_enter Tryz.func75,Tryz.ntmps75
  go_wp2;go_ret;exact tInt_mk E.out HB.out
 ·have q1:((k10:Int) == 0)=false:=(by rw [beq_eq_false_iff_ne];omega);by_cases h2:k11=0
  ·have E:Hid (1=solveE x):=Lh (by rw [EE.out,if_pos (.inr h2)]);subst h2
   go_enter Tryz.func75,Tryz.ntmps75
   go_wp2;go_ret;exact tInt_mk E.out HB.out
  ·have q2:((k11:Int) == 0)=false:=(by rw [beq_eq_false_iff_ne];omega);have EE2:Hid (solveE x=if u=true∨z=true then 7 else 0):=Lh (by rw [EE.out,if_neg (by omega)]);cases u
   ·cases z
    ·have E:Hid (0=solveE x):=Lh (by rw [EE2.out];rfl)
     go_enter Tryz.func75,Tryz.ntmps75
     go_wp2_with (first
      | (go_at_call 82;((with_reducible refine (BC.out _ HB.out).mono ?_);rintro e w1 ⟨rfl,hb⟩;have HB1:=Lh (HB.out.then_ hb);have F1:=HF.out.stay hb;clear d11;have d11:=F1.c 11 _ rfl;clear hb F1))
      | (go_at_call 82;((with_reducible refine (AC.out _ HB1.out).mono ?_);rintro e w2 ⟨rfl,hb⟩;have HB2:=Lh (HB1.out.then_ hb);clear hb)))
     go_ret;exact tInt_mk E.out HB2.out
    ·have E:Hid (7=solveE x):=Lh (by rw [EE2.out];rfl)
     go_enter Tryz.func75,Tryz.ntmps75
     go_wp2_with (first
      | (go_at_call 82;((with_reducible refine (BC.out _ HB.out).mono ?_);rintro e w1 ⟨rfl,hb⟩;have HB1:=Lh (HB.out.then_ hb);have F1:=HF.out.stay hb;clear d11;have d11:=F1.c 11 _ rfl;clear hb F1))
      | (go_at_call 82;((with_reducible refine (AC.out _ HB1.out).mono ?_);rintro e w2 ⟨rfl,hb⟩;have HB2:=Lh (HB1.out.then_ hb);clear hb)))
     go_ret;exact tInt_mk E.out HB2.out
   ·have E:Hid (7=solveE x):=Lh (by rw [EE2.out,if_pos (.inl rfl)])
    go_enter Tryz.func75,Tryz.ntmps75
    go_wp2_with (go_at_call 82;((with_reducible refine (BC.out _ HB.out).mono ?_);rintro e w1 ⟨rfl,hb⟩;have HB1:=Lh (HB.out.then_ hb);clear hb))
    go_ret;exact tInt_mk E.out HB1.out
end ItW
namespace ExW
open Go Go.RowKit NumM LexW LexM ExM
theorem count_any (e:Ex):∀ (N n:Nat) (w:World) (v:Value),n≤1000→ExAt N w v e→N≤w.heap.size→Calls Tryz.prog 54 #[v,.int .i64 n] w (tInt (min (sz e) (n+1):Nat) w):=by
 induction e using Ex.ind with
 | h o num s ks ih =>
  intro N n w v hn hx hN;obtain⟨p,cap,pl,cl,rfl,hs,ha⟩:=hx.form;simp only [Ex.op,Ex.n,Ex.nm,Ex.args] at hs ha ⊢;have hkl:=ha.hl;obtain⟨K,hK⟩:∃ K,ks.length=K:=⟨_,rfl⟩;have HK:=Lh hK;rw [hK] at hkl ⊢;have HA:=Lh ha;have HIH:=Lh ih;have four:=Four.new w (.int .i64 o) (.int .i64 num) (.string s) (.slice p K cap) 43;have c3:=four.c3;have HF:=Lh four;have HB0:Hid (Below w.heap.size w (w.alloc (.cells #[.int .i64 o,.int .i64 num,.string s,.slice p K cap] 43))):=Lh ((Below.refl _ _).alloc (Nat.le_refl _) _);have HSZ:=Lh (sz_mk o num s ks);clear ha ih hx four hK
  go_enter Tryz.func54,Tryz.ntmps54
  go_wp2;go_loopw [5,6] (fun k i wr=>∃ j:Nat,j≤K∧i=.int .i64 j∧(∃ c:Nat,k=.int .i64 c∧c≤n+1∧Hid (c=min (1+szs (ks.take j)) (n+1)))∧Hid (Below w.heap.size w wr)∧Hid (Four wr w.heap.size (.int .i64 o) (.int .i64 num) (.string s) (.slice p K cap))) (fun _ i _=>K - (intOf i).toNat)
  case atStart=>exact⟨0,Nat.zero_le _,rfl,⟨1,rfl,by omega,Lh (by rw [List.take_zero,szs_nil];omega)⟩,HB0,HF⟩
  case round =>
   obtain⟨j,hj,rfl,⟨c,rfl,hc,CC⟩,BW,FW⟩:=hrel;clear c3;have d3:=FW.out.c3;by_cases hlt:j<K
   ·by_cases hcn:c≤n
    ·obtain⟨b,off,rfl,hbs,hcell⟩:=HA.out.hp (by rw [HK.out];omega);obtain⟨a,hak⟩:∃ a,ks[j]? = some a:=⟨_,List.getElem?_eq_getElem (by rw [HK.out];exact hlt)⟩;obtain⟨q0,q1,q2,q3⟩:=hcell j a hak;have hbw:Below N w wr:=BW.out.mono hN;have ca0:wr.cell? ⟨b,off+j*4,none⟩=some (.int .i64 a.op):=(by rw [hbw.cell hbs];exact q0);have ca1:wr.cell? ⟨b,off+j*4+1,none⟩=some (.int .i64 a.n):=(by rw [hbw.cell hbs];exact q1);have ca2:wr.cell? ⟨b,off+j*4+2,none⟩=some (.string a.nm):=(by rw [hbw.cell hbs];exact q2);have ca3:wr.cell? ⟨b,off+j*4+3,none⟩=some (.slice (pl j) a.args.length (cl j)):=(by rw [hbw.cell hbs];exact q3);have hxa:=HA.out.hx j a hak;have AC:=HIH.out a (List.mem_of_getElem? hak) N (n - c) wr _ (by omega) (hxa.under hbw) (by have:=BW.out.size;omega);rw [show ((n - c:Nat):Int)=(n:Int) - (c:Int) by omega] at AC;obtain⟨m,hm⟩:∃ m,min (sz a) (n - c+1)=m:=⟨_,rfl⟩;rw [hm] at AC;have hm2:m≤n - c+1:=(by omega);have C2:Hid (c+m=min (1+szs (ks.take (j+1))) (n+1)):=Lh (by rw [szs_take hak,←hm];have:=CC.out;omega);obtain⟨ao,hao⟩:∃ x,a.op=x:=⟨_,rfl⟩;obtain⟨an,han⟩:∃ x,a.n=x:=⟨_,rfl⟩;obtain⟨am,ham⟩:∃ x,a.nm=x:=⟨_,rfl⟩;obtain⟨ak,hka⟩:∃ x,a.args.length=x:=⟨_,rfl⟩;obtain⟨ap,hap⟩:∃ x,pl j=x:=⟨_,rfl⟩;obtain⟨ac,hac⟩:∃ x,cl j=x:=⟨_,rfl⟩;rw [hao] at ca0 AC;rw [han] at ca1 AC;rw [ham] at ca2 AC;rw [hka,hap,hac] at ca3 AC;have AC:=Lh AC;clear hcell q0 q1 q2 q3 hbw hxa hak hao han ham hka hap hac hm;have hcn':(c:Int)≤(n:Int):=(by omega);go_wp2_with (go_at_call 54;((with_reducible refine AC.out.mono ?_);rintro e w5 ⟨rfl,hb⟩;have HB5:=Lh (BW.out.then_ hb);have HF5:=Lh (FW.out.stay hb);clear hb))
     go_roundw
     case rel=>exact⟨j+1,by omega,by go_num,⟨c+m,by rw [Int.natCast_add],by omega,C2⟩,HB5,HF5⟩
     case measure=>simp [intOf];omega
    ·have EE:Hid ((c:Int)=((min (sz (.mk o num s ks)) (n+1):Nat):Int)):=Lh (by
      rw [HSZ.out];have:=szs_take_le j ks;have:=CC.out;omega)
     have hcn':¬ (c:Int)≤(n:Int):=(by omega);go_wp2;go_ret;exact tInt_mk EE.out BW.out
   ·have EE:Hid ((c:Int)=((min (sz (.mk o num s ks)) (n+1):Nat):Int)):=Lh (by
     rw [HSZ.out];have h1:=CC.out;rw [List.take_of_length_le (by rw [HK.out];omega)] at h1;omega)
    go_wp2;go_ret;exact tInt_mk EE.out BW.out
theorem few_any (e:Ex) (N n:Nat) (w:World) (v:Value) (hn:n≤1000) (hx:ExAt N w v e) (hN:N≤w.heap.size):Calls Tryz.prog 25 #[v,.int .i64 n] w (tBool (decide (sz e≤n)) w):=by
 have hb1:∀ o,Below w.heap.size w (w.alloc o):=(fun o=>(Below.refl _ _).alloc (Nat.le_refl _) _);have CC:=Lh (fun o=>count_any e N n (w.alloc o) v hn (hx.under ((hb1 o).mono hN)) (by have:=(hb1 o).size;omega));have HB1:=Lh hb1;obtain⟨p,cap,pl,cl,rfl,hs,ha⟩:=hx.form;have EE:Hid (decide (sz e≤n)=decide (((min (sz e) (n+1):Nat):Int)≤(n:Int))):=Lh (by rw [decide_eq_decide];omega);have four:=Four.new w (.int .i64 e.op) (.int .i64 e.n) (.string e.nm) (.slice p e.args.length cap) 43;have c0:=four.c0;have c1:=four.c1;have c2:=four.c2;have c3:=four.c3;rw [EE.out];clear hx ha hb1 four EE hs;have hmin:((min (sz e) (n+1):Nat):Int)≤1001:=(by omega);have hmin0:(0:Int)≤((min (sz e) (n+1):Nat):Int):=(by omega);generalize ((min (sz e) (n+1):Nat):Int)=m at *
 go_enter Tryz.func25,Tryz.ntmps25
 go_wp2_with (go_at_call 54;((with_reducible refine (CC.out _).mono ?_);rintro e w5 ⟨rfl,hb⟩;have HB5:=Lh ((HB1.out _).then_ hb);clear hb))
 go_ret;exact tBool_mk rfl HB5.out
end ExW
namespace ItW
open Go Go.RowKit Go.Shelf LexW LexM ExM ExW ItM
attribute [local go_sem] Oper.semAt_some
theorem constraints_tells (F:Fence) (hd:F.depth=none) (n:Nat) (h65:F.fn 65) (h66:F.fn 66) (hro:F.round=none) (n₀ n₁ lb:Nat) (hn:n₀≤n₁) (l0:List It) (hsz:iszs l0≤10000) (G:Pl→Prop) (hG:∀ p∈wks 0 [] l0,G p) (v:Value)
  (w:World) (h1:n₁≤w.heap.size) (hb:Boxed w lb 22 v) (hx:ItsA n₀ w v l0) :
  Tells F n Tryz.prog 65 #[.pointer (some ⟨lb,0,none⟩)] (encP (n₀:=n₀) (w₀:=w)) (KeepC n₀ n₁) (fun ys=>ys.map Pn.pl=wks 0 [] l0) (fun q=>q.map Pn.pl <+: wks 0 [] l0) (iszs l0) (TellB G) w:=by
 intro l J Jx W hW hJ hJx hY h0;have hdd:∀ k:Nat,(F.depth.isSome=true→1≤k):=(fun k h=>by rw [hd] at h;cases h);have hws:=hW.size;have HW:Hid (∀ W2,Below W.heap.size W W2→Boxed W2 W.heap.size 105 (.func (.yield l) #[] #[])→Boxed W2 (W.heap.size+2) 68 (.map (some (W.heap.size+1))) →
   Boxed W2 (W.heap.size+3) 106 (.func (.func 66) #[] #[.pointer (some ⟨W.heap.size,0,none⟩),.pointer (some ⟨W.heap.size+2,0,none⟩),.pointer (some ⟨W.heap.size+3,0,none⟩)])→IntMap W2 (W.heap.size+1) 0 (cntB []) →
   CallsIn F (n - 1) Tryz.prog 66 #[v,.int .i64 0,.pointer (some ⟨W.heap.size,0,none⟩),.pointer (some ⟨W.heap.size+2,0,none⟩),.pointer (some ⟨W.heap.size+3,0,none⟩)] W2 (CameC J Jx n₁ (W.heap.size+1) (0+2*iszs l0) (wks 0 [] l0) [] [] W2)):=Lh fun W2 hb2 c1 c2 c3 m =>
  walkC_in F hd h66 hro l n₀ n₁ (iszs l0) W.heap.size (W.heap.size+2) (W.heap.size+3) (W.heap.size+1) w J Jx hn (fun s A B hs hg=>hJ s A B none hs hg (fun r e=>by cases e))
   (fun s A B hs hg hm=>hJ s A B _ hs hg (fun r e=>by cases e;obtain⟨es,ck,hm⟩:=hm;exact⟨by omega,_,hm,rfl⟩)) (fun s A B hs hg hm=>hJx s A B _ hs hg (fun r e=>by cases e;obtain⟨es,ck,hm⟩:=hm;exact⟨by omega,_,hm,rfl⟩))
   (by omega) (by omega) (by omega) (by omega) (by omega) (by omega) (by omega)
   G (fun m bef x W hj ht hl=>by
    obtain⟨fn,tmps,assign,body,hy,hR⟩:=hY bef x W hj ht hl;exact⟨fn,tmps,assign,body,hy,roundFree hd hR⟩)
   l0 (n - 1) 0 0 [] v [] W2 hx (low_cells ((hW.trans (hb2.mono (by omega))).mono (by omega))) (hJ _ _ _ none h0 (grown_of_below hb2) (fun r e=>by cases e)) (by have:=hb2.size;omega) (by simp) (by omega) (by omega) (by simp) hG c1 c2 c3 m
 obtain⟨p,cap,V,rfl,_⟩:=hx.form;generalize l0.length=K at *
 have hbW:Boxed W lb 22 (.slice p K cap):=(hW.block lb hb.lt).trans hb;have a0:=(((hbW.alloc (.cells #[.func (.yield l) #[] #[]] 105)).alloc (.map #[] 0)).alloc (.cells #[.map (some (W.heap.size+1))] 68)).alloc (.cells #[.func (.func 66) #[] #[.pointer (some ⟨W.heap.size,0,none⟩),.pointer (some ⟨W.heap.size+2,0,none⟩),.pointer (some ⟨W.heap.size+3,0,none⟩)]] 106);have cl:=a0.cell;have bx1:=(((Boxed.new W 105 (.func (.yield l) #[] #[])).alloc (.map #[] 0)).alloc (.cells #[.map (some (W.heap.size+1))] 68)).alloc (.cells #[.func (.func 66) #[] #[.pointer (some ⟨W.heap.size,0,none⟩),.pointer (some ⟨W.heap.size+2,0,none⟩),.pointer (some ⟨W.heap.size+3,0,none⟩)]] 106);have bx2:=(Boxed.new ((W.alloc (.cells #[.func (.yield l) #[] #[]] 105)).alloc (.map #[] 0)) 68 (.map (some (W.heap.size+1)))).alloc (.cells #[.func (.func 66) #[] #[.pointer (some ⟨W.heap.size,0,none⟩),.pointer (some ⟨W.heap.size+2,0,none⟩),.pointer (some ⟨W.heap.size+3,0,none⟩)]] 106);have bx3:=Boxed.new (((W.alloc (.cells #[.func (.yield l) #[] #[]] 105)).alloc (.map #[] 0)).alloc (.cells #[.map (some (W.heap.size+1))] 68)) 106 (.func (.func 66) #[] #[.pointer (some ⟨W.heap.size,0,none⟩),.pointer (some ⟨W.heap.size+2,0,none⟩),.pointer (some ⟨W.heap.size+3,0,none⟩)]);have m0:=IntMap.made (W.alloc (.cells #[.func (.yield l) #[] #[]] 105));have m1:=m0.below ((Below.refl _ _).alloc (Nat.le_refl _) (.cells #[.map (some (W.heap.size+1))] 68));have m2:=m1.below ((Below.refl _ _).alloc (Nat.le_refl _) (.cells #[.func (.func 66) #[] #[.pointer (some ⟨W.heap.size,0,none⟩),.pointer (some ⟨W.heap.size+2,0,none⟩),.pointer (some ⟨W.heap.size+3,0,none⟩)]] 106));simp only [World.size_alloc,Nat.add_assoc,Nat.reduceAdd] at bx1 bx2 bx3 m2;have BX1:=Lh bx1;have BX2:=Lh bx2;have BX3:=Lh bx3;have M2:=Lh (m2.same (g:=cntB []) (fun _=>rfl));have HB1:Hid (Below W.heap.size W ((((W.alloc (.cells #[.func (.yield l) #[] #[]] 105)).alloc (.map #[] 0)).alloc (.cells #[.map (some (W.heap.size+1))] 68)).alloc (.cells #[.func (.func 66) #[] #[.pointer (some ⟨W.heap.size,0,none⟩),.pointer (some ⟨W.heap.size+2,0,none⟩),.pointer (some ⟨W.heap.size+3,0,none⟩)]] 106))) :=
  Lh ((((Below.refl _ _).alloc (Nat.le_refl _) _).alloc (by simp) _).alloc (by simp;omega) _ |>.alloc (by simp;omega) _)
 clear bx1 bx2 bx3 m0 m1 m2 a0 hb hx hbW hY hJ hJx h0 hW;have hmm:=@run_makeMap Tryz.prog;refine callsIn_of_wp Tryz.func65 rfl h65 ?_ hro;simp only [Tryz.ntmps65,List.size_toArray,List.length_cons,List.length_nil,Nat.reduceAdd,Nat.reduceSub,Array.replicate_succ,Array.replicate_zero,List.push_toArray,List.append_toArray,List.nil_append,List.cons_append]
 gi_wp2_with ((try refine⟨hdd _,?_⟩);gi_at_call 66;refine (HW.out _ HB1.out BX1.out BX2.out BX3.out M2.out).mono ?_;clear HW;rintro e W5 ⟨(⟨rfl,hys⟩ | ⟨rfl,hq⟩),_,_⟩)
 ·have H5:=Lh hys;clear hys
  go_end0
  obtain⟨ys,h1,h2⟩:=H5.out;exact⟨⟨_,rfl⟩,.inl ⟨ys,h1,by simpa using h2⟩⟩
 ·have H5:=Lh hq;clear hq
  go_end0
  obtain⟨q,h1,h2⟩:=H5.out;exact⟨⟨_,rfl⟩,.inr ⟨q,h1,by simpa using h2⟩⟩
theorem constraints_in (F:Fence) (n:Nat) (h36:F.fn 36) (hro:F.round=none) (p:Option Addr) (K cap:Nat) (w:World) :
  CallsIn F n Tryz.prog 36 #[.slice p K cap] w fun e w'=>e=.returned (.func (.func 65) #[] #[.pointer (some ⟨w.heap.size,0,none⟩)])∧w'=w.alloc (.cells #[.slice p K cap] 22):=by
 refine callsIn_of_wp Tryz.func36 rfl h36 ?_ hro;simp only [Tryz.ntmps36,List.size_toArray,List.length_cons,List.length_nil,Nat.reduceAdd,Nat.reduceSub,Array.replicate_succ,Array.replicate_zero,List.push_toArray,List.append_toArray,List.nil_append,List.cons_append]
 gi_wp2
 go_ret;exact⟨rfl,rfl⟩
end ItW
namespace ItW
open Go Go.RowKit Go.Shelf LexW LexM ExM ExW ItM
open ClM (firstE)
attribute [local go_sem] Oper.semAt_some
theorem itemSize_any (l0:List It) (v:Value) (w:World) (hx:ItsA w.heap.size w v l0) (hsz:iszs l0≤10000) :
  Calls Tryz.prog 12 #[v] w fun x w'=>x=.returned (.int .i64 (iszs l0))∧Below w.heap.size w w':=by
 obtain⟨p,cap,V,rfl,_⟩:=hx.form;have HX:=Lh hx;clear hx;generalize l0.length=K at *
 refine (callsIn_wide (n:=9)).1 ?_;refine callsIn_of_wp_marks Tryz.func12 rfl trivial ?_ rfl;simp only [Tryz.ntmps12,List.size_toArray,List.length_cons,List.length_nil,Nat.reduceAdd,Nat.reduceSub,Array.replicate_succ,Array.replicate_zero,List.push_toArray,List.append_toArray,List.nil_append,List.cons_append]
 gi_wp2_with (refine⟨trivial,?_⟩;gi_at_call 36;refine (constraints_in Fence.wide _ trivial rfl _ _ _ _).mono ?_;rintro e w' ⟨rfl,rfl⟩)
 have bS:=(Boxed.new w 3 (.int .i64 0)).alloc (.cells #[.slice p K cap] 22);have bL:=Boxed.new (w.alloc (.cells #[.int .i64 0] 3)) 22 (.slice p K cap);have hB0:Below w.heap.size w ((w.alloc (.cells #[.int .i64 0] 3)).alloc (.cells #[.slice p K cap] 22)):=((Below.refl _ w).alloc (Nat.le_refl _) _).alloc (by simp) _;have hz:((w.alloc (.cells #[.int .i64 0] 3)).alloc (.cells #[.slice p K cap] 22)).heap.size=w.heap.size+2:=(by simp);simp only [World.size_alloc] at bL;obtain⟨W0,hW0⟩:∃ W0,(w.alloc (.cells #[.int .i64 0] 3)).alloc (.cells #[.slice p K cap] 22)=W0:=⟨_,rfl⟩;rw [hW0] at bS bL hB0 hz ⊢;clear hW0
 refine range_tells rfl (by decide) (gf:=65) (lb:=#[.pointer (some ⟨w.heap.size+1,0,none⟩)]) rfl trivial (enters_of Tryz.func65 (by kernel_rfl) rfl)
  (constraints_tells Fence.wide rfl _ trivial trivial rfl w.heap.size (w.heap.size+1) (w.heap.size+1) (by omega) l0 hsz (fun _=>True) (fun _ _=>trivial) _ W0 (by omega) bL (HX.out.under hB0)) keepC_t (keepC_b (by omega)) (fun _=>rfl)
  (fun bef W=>Boxed W w.heap.size 3 (.int .i64 bef.length)∧Below w.heap.size w W)
  (fun _ _ _=>False)
  (OwnFrom.and (Own.from (boxed_own _ _ _) _) (ownFrom_below (Nat.le_refl _) (by omega)))
  (fun _ _ _ _ _ hs _ _=>hs)
  ⟨bS,hB0⟩ ?round ?done ?stop
 case round =>
  rintro l bef x W hl ⟨bS1,hB1⟩ _ hlt;rw [zip2]
  gi_wp2
  refine⟨KeepsFrom.refl _ _,KeepC.refl _ _ _,⟨bS1,hB1⟩,?_⟩;rintro Wb hnear ⟨bS2,hB2⟩;have cS:=bS2.cell;have fS:=bS2.frozen;have hbl:bef.length≤10000:=by omega
  gi_wp2
  exact⟨(KeepsOthers.setCell _ _ _).from _,(KeepC.refl _ _ _).set (Nat.le_refl _) (by omega) _,by rw [List.length_append];exact bS2.set _,hB2.setCell (p:=⟨w.heap.size,0,none⟩) (by simp) _⟩
 case done =>
  rintro D zs W hD hzs ⟨bS1,hB1⟩ hK;have cS:=bS1.cell;have hl:zs.length=iszs l0:=(by rw [←wks_len l0 0 [],←hzs,List.length_map]);rw [hl] at cS;clear bS1 hl hzs
  gi_wp2
  refine⟨by simp,.inl ⟨_,_,rfl,run_takeDeferred hK,?_⟩⟩;exact⟨_,results_tmp rfl _ _ _,rfl,hB1.trans (belowK_b (w:=w) (Nat.le_refl _) W D _ _ (by omega) hK rfl rfl)⟩
 case stop =>
  rintro D c bef W _ _ h _;exact h.elim
end ItW
namespace ItW
open Go Go.RowKit Go.Shelf LexW LexM ExM ExW ItM
open ClM (Fld firstE firstE_zero)
attribute [local go_sem] Oper.semAt_some
def BMap (W:World) (mv:Value) (B:List ByteArray):Prop:=(mv=.map none∧B=[])∨∃ mb n,mv=.map (some mb)∧IntMap W mb n (cntB B)
theorem BMap.below {W W':World} {mv:Value} {B:List ByteArray} (h:BMap W mv B) (hb:Below W.heap.size W W'):BMap W' mv B:=by
 rcases h with h | ⟨mb,n,e,h⟩
 ·exact .inl h
 ·exact .inr ⟨mb,n,e,h.below hb⟩
theorem run_look_none (W:World) (t:ByteArray):(Instr.lookup 68 (.map none) (.string t) false).run Tryz.prog W=.ok (.int .i64 0) W:=by kernel_rfl
theorem BMap.look {W:World} {mv:Value} {B:List ByteArray} (h:BMap W mv B) (t:ByteArray) (ht:t.size≤140737488351232):(Instr.lookup 68 mv (.string t) false).run Tryz.prog W=.ok (.int .i64 (cntB B t)) W:=by
 rcases h with ⟨rfl,rfl⟩ | ⟨mb,n,rfl,h⟩
 ·exact run_look_none W t
 ·exact h.look Tryz.underlying68 t ht
theorem isArI_any (o:Int) (w:World):Calls Tryz.prog 97 #[.int .i64 o] w fun e w'=>e=.returned (.bool (isAr o))∧w=w':=by
 by_cases h:o=3
 ·subst h
  go_enter Tryz.func97,Tryz.ntmps97
  go_wp2;go_ret;exact⟨rfl,rfl⟩
 ·have h0:(o == 3)=false:=(by rw [beq_eq_false_iff_ne];exact h);have EE:Hid (isAr o=(o == 24)):=Lh (by unfold isAr;rw [Bool.eq_iff_iff];simp [h]);clear h
  go_enter Tryz.func97,Tryz.ntmps97
  go_wp2;go_ret;exact⟨retb (by rw [EE.out]),rfl⟩
theorem firstE_of {L:List In} {q:List In} {g:In→Int} (h:q <+: L) (hne:firstE (q.map g)≠0):firstE (L.map g)=firstE (q.map g):=by
 obtain⟨r,rfl⟩:=h;rw [List.map_append,firstE_append,if_neg hne]
theorem zip2s (a:Nat) (u:Value) (t:Array Value):Array.foldl (fun t (x:Tmp × Value)=>t.setIfInBounds x.1 x.2) t ((#[a]:Array Tmp).zip #[u])=t.setIfInBounds a u:=by
 simp [Array.zip,Array.zipWith,Array.zipWithMAux]
theorem flt_var {x:In} (h:fltS x=0) (hv:isVr x.op=true):varB x.nm.data.toList=true:=by
 unfold fltS at h;split at h
 ·cases h
 ·split at h
  ·cases h
  ·rename_i hb;simp [badN,hv] at hb;exact hb.1
theorem checkExpr_any (fb:Nat) (fs:List Fld) (mv:Value) (B:List ByteArray) (e:Ex) (v:Value) (w:World) (hf:FsA w fb fs) (hm:BMap w mv B) (hmv:∃ m,mv=.map m) (hx:ExAt w.heap.size w v e) (hsz:sz e≤10000) (hok:∀ y∈pre 1 e,fltS y=0) :
  Calls Tryz.prog 56 #[.map (some fb),v,mv] w (tInt (exE fs B e) w):=by
 obtain⟨p,cap,pl,cl,rfl,hs,ha⟩:=hx.form;have HX:=Lh hx;have HF:=Lh hf;have HM:=Lh hm;have HOK:=Lh hok;obtain⟨mm,rfl⟩:=hmv;clear hx ha hf hm hok;have EV:Hid (exE fs B e=firstE ((pre 1 e).map (nodE fs B))):=Lh rfl;generalize e.op=o at *
 generalize e.n=num at *
 generalize e.nm=s at *
 generalize e.args.length=K at *
 refine (callsIn_wide (n:=9)).1 ?_;refine callsIn_of_wp_marks Tryz.func56 rfl trivial ?_ rfl;simp only [Tryz.ntmps56,List.size_toArray,List.length_cons,List.length_nil,Nat.reduceAdd,Nat.reduceSub,Array.replicate_succ,Array.replicate_zero,List.push_toArray,List.append_toArray,List.nil_append,List.cons_append]
 gi_wp2_with (refine⟨trivial,?_⟩;gi_at_call 96;refine (nodesN_in Fence.wide _ trivial rfl _ _ _ _ _).mono ?_;rintro e w' ⟨rfl,rfl⟩)
 obtain⟨O0,hO0⟩:∃ O:Obj,O=.cells #[.map (some fb)] 79:=⟨_,rfl⟩;obtain⟨O1,hO1⟩:∃ O:Obj,O=.cells #[.int .i64 o,.int .i64 num,.string s,.slice p K cap] 43:=⟨_,rfl⟩;obtain⟨O2,hO2⟩:∃ O:Obj,O=.cells #[.map mm] 68:=⟨_,rfl⟩;have bF:=((((Boxed.new w 79 (.map (some fb))).alloc O1).alloc O2).alloc (.cells #[.int .i64 0] 29) |>.alloc O1);have bM:=((Boxed.new ((w.alloc O0).alloc O1) 68 (.map mm)).alloc (.cells #[.int .i64 0] 29)).alloc O1;have bR:=(Boxed.new (((w.alloc O0).alloc O1).alloc O2) 29 (.int .i64 0)).alloc O1;have bA:=Four.new ((((w.alloc O0).alloc O1).alloc O2).alloc (.cells #[.int .i64 0] 29)) (.int .i64 o) (.int .i64 num) (.string s) (.slice p K cap) 43;have hB0:Below w.heap.size w (((((w.alloc O0).alloc O1).alloc O2).alloc (.cells #[.int .i64 0] 29)).alloc O1):=(((((Below.refl _ w).alloc (Nat.le_refl _) _).alloc (by simp) _).alloc (by simp;omega) _).alloc (by simp;omega) _).alloc (by simp;omega) _;have hz:(((((w.alloc O0).alloc O1).alloc O2).alloc (.cells #[.int .i64 0] 29)).alloc O1).heap.size=w.heap.size+5:=(by simp);subst hO0;subst hO1;subst hO2;simp only [World.size_alloc,Nat.add_assoc,Nat.reduceAdd] at bF bM bR bA;simp only [Nat.add_assoc,Nat.reduceAdd];obtain⟨W0,hW0⟩:∃ W0,(((((w.alloc (.cells #[.map (some fb)] 79)).alloc (.cells #[.int .i64 o,.int .i64 num,.string s,.slice p K cap] 43)).alloc (.cells #[.map mm] 68)).alloc (.cells #[.int .i64 0] 29)).alloc (.cells #[.int .i64 o,.int .i64 num,.string s,.slice p K cap] 43))=W0:=⟨_,rfl⟩;rw [hW0] at bF bM bR bA hB0 hz ⊢;clear hW0
 refine range_tells rfl (by decide) (gf:=147) (lb:=#[.pointer (some ⟨w.heap.size+4,0,none⟩)]) rfl trivial (enters_of Tryz.func147 (by kernel_rfl) rfl)
  (nodesN_tells Fence.wide rfl _ trivial trivial rfl w.heap.size (w.heap.size+4) (w.heap.size+4) (by omega) e hsz (fun y=>fltS y=0) HOK.out o num s (.slice p K cap) W0 (by omega) bA (HX.out.under hB0)) keepC_t (keepC_b (by omega)) (fun _=>rfl)
  (fun bef W=>(((Boxed W w.heap.size 79 (.map (some fb))∧Boxed W (w.heap.size+2) 68 (.map mm))∧Boxed W (w.heap.size+3) 29 (.int .i64 0))∧firstE ((bef.map Nd.info).map (nodE fs B))=0)∧Below w.heap.size w W)
  (fun c bef W=>(Boxed W (w.heap.size+3) 29 (.int .i64 (firstE ((bef.map Nd.info).map (nodE fs B))))∧(c=.ret∧firstE ((bef.map Nd.info).map (nodE fs B))≠0))∧Below w.heap.size w W)
  (OwnFrom.and (OwnFrom.and (OwnFrom.and (OwnFrom.and (Own.from (boxed_own _ _ _) _) (Own.from (boxed_own _ _ _) _)) (Own.from (boxed_own _ _ _) _)) (ownFrom_pure _ _)) (ownFrom_below (Nat.le_refl _) (by omega)))
  (fun c=>OwnFrom.and (OwnFrom.and (Own.from (boxed_own _ _ _) _) (ownFrom_pure _ _)) (ownFrom_below (Nat.le_refl _) (by omega)))
  ⟨⟨⟨⟨bF,bM⟩,bR⟩,rfl⟩,hB0⟩ ?round ?done ?stop
 case round =>
  rintro l bef x W hl ⟨⟨⟨⟨bF1,bM1⟩,bR1⟩,hf1⟩,hB1⟩ hfx hlt;have HMP:Hid (firstE (((bef++[x]).map Nd.info).map (nodE fs B))=nodE fs B x.info):=Lh (by rw [List.map_append,List.map_append,List.map_cons,List.map_nil,List.map_cons,List.map_nil,firstE_snoc,if_pos hf1]);have hWs:=hB1.size;have hl1:=bR1.lt;have HFX:=Lh hfx;have HBF1:=Lh bF1;have HBM1:=Lh bM1;have HBR1:=Lh bR1;have HF1:=Lh hf1;have HBW:=Lh hB1;clear hfx bF1 bM1 bR1 hf1 hB1;rw [zip2s];have B1:=Lh (ba W (.cells #[.int .i64 x.op,.int .i64 x.n,.string x.nm,.slice x.p x.k x.cap] 43));have FI1:=Lh (Blk.new W [.int .i64 x.op,.int .i64 x.n,.string x.nm,.slice x.p x.k x.cap] 43)
  gi_wp2
  refine⟨keepsFrom_below B1.out,KeepC.of_below B1.out,⟨⟨⟨⟨bxStay HBF1.out B1.out,bxStay HBM1.out B1.out⟩,bxStay HBR1.out B1.out⟩,HF1.out⟩,HBW.out.trans (B1.out.mono hWs)⟩,?_⟩;rintro Wb hnear ⟨⟨⟨⟨bF2,bM2⟩,bR2⟩,_⟩,hB2⟩;have e0:=hnear.cell (FI1.out.c 0 _ rfl);have e2:=hnear.cell (FI1.out.c 2 _ rfl);have cF:=bF2.cell;have cM:=bM2.cell;have hsb:=hB2.size;have hlR:=bR2.lt;have AC:Hid (∀ n W,CallsIn (Fence.wide.inRound l) n Tryz.prog 97 #[.int .i64 x.op] W fun e w'=>e=.returned (.bool (isAr x.op))∧W=w'):=(Lh fun n W=>CallsIn.inRound l (callsIn_wide.2 (isArI_any x.op W)));have CA:Hid (∀ n,CallsIn (Fence.wide.inRound l) n Tryz.prog 98 #[.map (some fb),.string x.nm] Wb fun e w'=>e=.returned (.int .i64 (arrE fs x.nm))∧Wb=w'):=(Lh fun n=>CallsIn.inRound l (callsIn_wide.2 (arrE_any fb fs x.nm Wb (HF.out.later hB2) x.hs)));have CV:Hid (isVr x.op=true→∀ n,CallsIn (Fence.wide.inRound l) n Tryz.prog 99 #[.map (some fb),.string x.nm] Wb (tInt (varE fs x.nm) Wb)):=(Lh fun hv n=>CallsIn.inRound l (callsIn_wide.2 (varE_any fb fs x.nm Wb (HF.out.later hB2) x.hs (flt_var HFX.out hv))));have hlk:=(HM.out.below hB2).look x.nm x.hs;have hcz:=cntB_pos B x.nm;have NE:Hid (nodE fs B x.info=if isAr x.op=true then arrE fs x.nm else if (isVr x.op&&!memB B x.nm)=true then varE fs x.nm else 0):=Lh rfl;have HBF2:=Lh bF2;have BR2:=Lh bR2;have BM2:=Lh bM2;have HB2:=Lh hB2;clear bR2 hB2 hnear bF2 bM2;obtain⟨A,hA⟩:∃ A,isAr x.op=A:=⟨_,rfl⟩;rw [hA] at AC NE;clear hA;have cR0:=BR2.out.cell;have fR0:=BR2.out.frozen;have HCV:=CV;clear CV;cases A
  ·have q2:(x.op == 2)=isVr x.op:=(by unfold isVr;rw [Bool.eq_iff_iff];simp);obtain⟨V,hV⟩:∃ V,isVr x.op=V:=⟨_,rfl⟩;rw [hV] at q2 NE;have CV2:=(fun h=>HCV.out (hV.trans h));clear HCV hV;cases V
   ·have HE:Hid (nodE fs B x.info=0):=Lh (by rw [NE.out];rfl);clear CV2
    gi_wp2_with (first | (refine⟨trivial,?_⟩;gi_at_call 97;refine (AC.out _ _).mono ?_;rintro e w2 ⟨rfl,rfl⟩))
    exact⟨KeepsFrom.refl _ _,KeepC.refl _ _ _,⟨⟨⟨⟨HBF2.out,BM2.out⟩,BR2.out⟩,by rw [HMP.out];exact HE.out⟩,HB2.out⟩⟩
   ·obtain⟨M,hM⟩:∃ M,memB B x.nm=M:=⟨_,rfl⟩;rw [hM] at NE hcz;have CV3:=Lh (CV2 rfl);clear CV2;cases M
    ·have hc0:cntB B x.nm=0:=hcz.2.2 rfl;rw [hc0] at hlk;have NE2:Hid (nodE fs B x.info=varE fs x.nm):=Lh (by rw [NE.out];rfl);obtain⟨E,hE0⟩:∃ E,varE fs x.nm=E:=⟨_,rfl⟩;rw [hE0] at CV3 NE2;clear hE0 hcz hM hc0 NE;by_cases hE1:E=0
     ·subst hE1;have HE:=NE2
      gi_wp2_with (first | (refine⟨trivial,?_⟩;gi_at_call 97;refine (AC.out _ _).mono ?_;rintro e w2 ⟨rfl,rfl⟩) | (refine⟨trivial,?_⟩;gi_at_call 99;refine (CV3.out _).mono ?_;rintro e w2 ⟨rfl,hb⟩;have bR3:=bxStay BR2.out hb;have bF3:=bxStay HBF2.out hb;have bM3:=bxStay BM2.out hb;have cR:=bR3.cell;have fR:=bR3.frozen;have HBc:=Lh hb;have BR3:=Lh bR3;have BF3:=Lh bF3;have BM3:=Lh bM3;clear hb bR3 bF3 bM3))
      exact⟨keepsFrom_below HBc.out,KeepC.of_below HBc.out,⟨⟨⟨⟨BF3.out,BM3.out⟩,BR3.out⟩,by rw [HMP.out];exact HE.out⟩,HB2.out.trans (HBc.out.mono hsb)⟩⟩
     ·have hE2:(E != 0)=true:=(by simpa using hE1);have HNE:=Lh hE1;have HE:=NE2;clear hE1
      gi_wp2_with (first | (refine⟨trivial,?_⟩;gi_at_call 97;refine (AC.out _ _).mono ?_;rintro e w2 ⟨rfl,rfl⟩) | (refine⟨trivial,?_⟩;gi_at_call 99;refine (CV3.out _).mono ?_;rintro e w2 ⟨rfl,hb⟩;have bR3:=bxStay BR2.out hb;have bF3:=bxStay HBF2.out hb;have bM3:=bxStay BM2.out hb;have cR:=bR3.cell;have fR:=bR3.frozen;have HBc:=Lh hb;have BR3:=Lh bR3;have BF3:=Lh bF3;have BM3:=Lh bM3;clear hb bR3 bF3 bM3))
      refine⟨(keepsFrom_below HBc.out).trans ((KeepsOthers.setCell _ _ _).from _),(KeepC.of_below HBc.out).set (by omega) (by omega) _,⟨?_,rfl,by rw [HMP.out,HE.out];exact HNE.out⟩,(HB2.out.trans (HBc.out.mono hsb)).setCell (p:=⟨w.heap.size+3,0,none⟩) (by simp) _⟩;rw [HMP.out,HE.out];exact BR3.out.set _
    ·have hc0:cntB B x.nm≠0:=(fun h=>by have:=hcz.2.1 h;cases this);have hc1:(cntB B x.nm == 0)=false:=(by rw [beq_eq_false_iff_ne];exact hc0);have HE:Hid (nodE fs B x.info=0):=Lh (by rw [NE.out];rfl);clear hc0 hcz hM
     gi_wp2_with (first | (refine⟨trivial,?_⟩;gi_at_call 97;refine (AC.out _ _).mono ?_;rintro e w2 ⟨rfl,rfl⟩))
     exact⟨KeepsFrom.refl _ _,KeepC.refl _ _ _,⟨⟨⟨⟨HBF2.out,BM2.out⟩,BR2.out⟩,by rw [HMP.out];exact HE.out⟩,HB2.out⟩⟩
  ·have NE2:Hid (nodE fs B x.info=arrE fs x.nm):=Lh (by rw [NE.out];rfl);obtain⟨E,hE0⟩:∃ E,arrE fs x.nm=E:=⟨_,rfl⟩;rw [hE0] at CA NE2;clear hE0 hcz NE HCV;by_cases hE1:E=0
   ·subst hE1;have HE:=NE2
    gi_wp2_with (first | (refine⟨trivial,?_⟩;gi_at_call 97;refine (AC.out _ _).mono ?_;rintro e w2 ⟨rfl,rfl⟩) | (refine⟨trivial,?_⟩;gi_at_call 98;refine (CA.out _).mono ?_;rintro e w2 ⟨rfl,rfl⟩))
    exact⟨KeepsFrom.refl _ _,KeepC.refl _ _ _,⟨⟨⟨⟨HBF2.out,BM2.out⟩,BR2.out⟩,by rw [HMP.out];exact HE.out⟩,HB2.out⟩⟩
   ·have hE2:(E != 0)=true:=(by simpa using hE1);have HNE:=Lh hE1;have HE:=NE2;clear hE1
    gi_wp2_with (first | (refine⟨trivial,?_⟩;gi_at_call 97;refine (AC.out _ _).mono ?_;rintro e w2 ⟨rfl,rfl⟩) | (refine⟨trivial,?_⟩;gi_at_call 98;refine (CA.out _).mono ?_;rintro e w2 ⟨rfl,rfl⟩))
    refine⟨(KeepsOthers.setCell _ _ _).from _,(KeepC.refl _ _ _).set (by omega) (by omega) _,⟨?_,rfl,by rw [HMP.out,HE.out];exact HNE.out⟩,HB2.out.setCell (p:=⟨w.heap.size+3,0,none⟩) (by simp) _⟩;rw [HMP.out,HE.out];exact BR2.out.set _
 case done =>
  rintro D zs W hD hzs ⟨⟨⟨⟨_,_⟩,bR1⟩,hf1⟩,hB1⟩ hK;have HV3:Hid (0=exE fs B e):=Lh (by rw [EV.out,←hzs,hf1]);have HBW:=Lh hB1;have cR:=bR1.cell;have fR:=bR1.frozen;have HKD:=Lh hK;clear bR1 hf1 hzs hB1
  gi_wp2
  have hK':=(KeepsOthers.setCell W ⟨w.heap.size+3,0,none⟩ (.int .i64 0)).same D _ HKD.out rfl;refine⟨by simp,.inl ⟨_,_,rfl,run_takeDeferred hK',?_⟩⟩;have hc5:=cell_kept (World.cell?_setCell_same' W ⟨w.heap.size+3,0,none⟩ (.int .i64 0) (by rw [cR];rfl)) (grownBy_putObj' _ D (.deferred none)) (fun r e=>by cases e;exact⟨_,hK',rfl⟩);refine⟨.int .i64 0,?_,by rw [HV3.out],(HBW.out.setCell (p:=⟨w.heap.size+3,0,none⟩) (by simp) _).trans (belowK_b (w:=w) (Nat.le_refl _) _ D _ _ (by omega) hK' rfl rfl)⟩;simp [results,Tryz.results56,go_sem,hc5]
 case stop =>
  rintro D c bef W hD hpre ⟨⟨bR1,rfl,hne⟩,hB1⟩ hK;have HV3:Hid (firstE ((bef.map Nd.info).map (nodE fs B))=exE fs B e):=Lh (by rw [EV.out,firstE_of hpre hne]);have HBW:=Lh hB1;have cR:=bR1.cell;clear bR1 hne hpre hB1
  gi_wp2
  refine⟨by simp,.inl ⟨_,_,rfl,run_takeDeferred hK,?_⟩⟩;have hc5:=cell_kept cR (grownBy_putObj' _ D (.deferred none)) (fun r e=>by cases e;exact⟨_,hK,rfl⟩);refine⟨.int .i64 (firstE ((bef.map Nd.info).map (nodE fs B))),?_,by rw [HV3.out],HBW.out.trans (belowK_b (w:=w) (Nat.le_refl _) W D _ _ (by omega) hK rfl rfl)⟩;simp [results,Tryz.results56,go_sem,hc5]
end ItW
namespace ItW
open Go Go.RowKit Go.Shelf LexW LexM ExM ExW ItM
open ClM (Fld firstE firstE_zero)
attribute [local go_sem] Oper.semAt_some
def nmL (B:List ByteArray) (L:List In):List ByteArray:=L.flatMap (nodN B)
theorem nmL_snoc (B:List ByteArray) (L:List In) (x:In):nmL B (L++[x])=nmL B L++nodN B x:=by
 unfold nmL;rw [List.flatMap_append,List.flatMap_cons,List.flatMap_nil,List.append_nil]
theorem nmL_len (B:List ByteArray) (L:List In):(nmL B L).length≤L.length:=by
 induction L with
 | nil=>simp [nmL]
 | cons x r ih =>
  have:(nodN B x).length≤1:=(by unfold nodN;split<;>simp);show (nodN B x++nmL B r).length≤_;rw [List.length_append,List.length_cons];omega
theorem nmL_size {B:List ByteArray} {L:List In} (h:∀ x∈L,x.nm.size≤140737488351232):∀ s∈nmL B L,s.size≤140737488351232:=by
 intro s hs;obtain⟨x,hx,hsx⟩:=List.mem_flatMap.1 hs;unfold nodN at hsx;split at hsx
 ·rw [List.mem_singleton] at hsx;rw [hsx];exact h x hx
 ·cases hsx
structure HeldL (B lb:Nat) (l:List ByteArray) (W:World):Prop where
 h:∃ v,Boxed W lb 27 v∧W.ownsRow B 9 1 v l.length (l.map Value.string)
theorem HeldL.kept {B lb:Nat} {l:List ByteArray} {W W':World} {row:Option Nat} (h:HeldL B lb l W) (hg:W.grownBy W' row) (hr:∀ r,row=some r→∃ o:Obj,W.heap[r]? = some o∧o.isCells=false):HeldL B lb l W':=by
 obtain⟨v,h1,h2⟩:=h.h;obtain⟨v',q1,q2,_⟩:=holdsRow_own B lb 27 9 1 (fun l:List ByteArray=>l.length) (fun l=>l.map Value.string) (fun _ _=>True) l W W' row ⟨v,h1,h2,trivial⟩ hg hr;exact⟨v',q1,q2⟩
theorem HeldL.later {B lb:Nat} {l:List ByteArray} {W W':World} (h:HeldL B lb l W) (hb:Below W.heap.size W W'):HeldL B lb l W':=h.kept (grown_of_below hb) (fun r e=>by cases e)
theorem heldL_own (B B2 lb:Nat) {α:Type} (f:α→List ByteArray):OwnFrom B2 (fun (s:α) W=>HeldL B lb (f s) W):=fun _ _ _ _ hs hg hr=>hs.kept hg (fun r e=>(hr r e).2)
theorem own_notOk {W:World} {B:Nat} {v:Value} {n:Nat} {xs:List Value} (h:W.ownsRow B 9 1 v n xs) (O:Obj):∀ b,v.ownBlock=some b→B≤b∧∀ o,(W.alloc O).heap[b]? = some o→¬ okO o:=fun b eb=>by
 rcases h.2 with ⟨rfl,_⟩ | ⟨g2,cap2,cur,rfl,hg2,hgb,_⟩
 ·simp [Value.ownBlock] at eb
 ·simp only [Value.ownBlock,Option.some.injEq] at eb;subst eb;refine⟨hg2,fun o ho hok=>?_⟩;rw [(Below.heap_alloc W _ g2 (Array.getElem?_eq_some_iff.1 hgb).1).trans hgb] at ho;cases ho;exact hok rfl
theorem namesIn_any (mm:Option Nat) (B:List ByteArray) (e:Ex) (v:Value) (w:World) (hm:BMap w (.map mm) B) (hx:ExAt w.heap.size w v e) (hsz:sz e≤10000) :
  Calls Tryz.prog 67 #[v,.map mm] w fun x w'=>∃ v',x=.returned v'∧w'.ownsRow w.heap.size 9 1 v' (exN B e).length ((exN B e).map Value.string)∧Below w.heap.size w w':=by
 obtain⟨p,cap,pl,cl,rfl,hs,ha⟩:=hx.form;have HX:=Lh hx;have HM:=Lh hm;clear hx ha hm;have EV:Hid (exN B e=nmL B (pre 1 e)):=Lh rfl;generalize e.op=o at *
 generalize e.n=num at *
 generalize e.nm=s at *
 generalize e.args.length=K at *
 obtain⟨i0,hi,hz0,hz1,hz2⟩:=info_parts infoS;refine (callsIn_wide (n:=9)).1 ?_;refine callsIn_of_wp_marks Tryz.func67 rfl trivial ?_ rfl;simp only [Tryz.ntmps67,List.size_toArray,List.length_cons,List.length_nil,Nat.reduceAdd,Nat.reduceSub,Array.replicate_succ,Array.replicate_zero,List.push_toArray,List.append_toArray,List.nil_append,List.cons_append]
 gi_wp2_with (refine⟨trivial,?_⟩;gi_at_call 96;refine (nodesN_in Fence.wide _ trivial rfl _ _ _ _ _).mono ?_;rintro e w' ⟨rfl,rfl⟩)
 obtain⟨O1,hO1⟩:∃ O:Obj,O=.cells #[.int .i64 o,.int .i64 num,.string s,.slice p K cap] 43:=⟨_,rfl⟩;obtain⟨O2,hO2⟩:∃ O:Obj,O=.cells #[.map mm] 68:=⟨_,rfl⟩;have bM:=((Boxed.new (w.alloc O1) 68 (.map mm)).alloc (.cells #[.slice none 0 0] 27)).alloc O1;have bL:=(Boxed.new ((w.alloc O1).alloc O2) 27 (.slice none 0 0)).alloc O1;have bA:=Four.new (((w.alloc O1).alloc O2).alloc (.cells #[.slice none 0 0] 27)) (.int .i64 o) (.int .i64 num) (.string s) (.slice p K cap) 43;have hB0:Below w.heap.size w ((((w.alloc O1).alloc O2).alloc (.cells #[.slice none 0 0] 27)).alloc O1):=((((Below.refl _ w).alloc (Nat.le_refl _) _).alloc (by simp) _).alloc (by simp;omega) _).alloc (by simp;omega) _;have hz:((((w.alloc O1).alloc O2).alloc (.cells #[.slice none 0 0] 27)).alloc O1).heap.size=w.heap.size+4:=(by simp);subst hO1;subst hO2;simp only [World.size_alloc,Nat.add_assoc,Nat.reduceAdd] at bM bL bA;simp only [Nat.add_assoc,Nat.reduceAdd];obtain⟨W0,hW0⟩:∃ W0,((((w.alloc (.cells #[.int .i64 o,.int .i64 num,.string s,.slice p K cap] 43)).alloc (.cells #[.map mm] 68)).alloc (.cells #[.slice none 0 0] 27)).alloc (.cells #[.int .i64 o,.int .i64 num,.string s,.slice p K cap] 43))=W0:=⟨_,rfl⟩;rw [hW0] at bM bL bA hB0 hz ⊢;clear hW0
 refine range_tells rfl (by decide) (gf:=147) (lb:=#[.pointer (some ⟨w.heap.size+3,0,none⟩)]) rfl trivial (enters_of Tryz.func147 (by kernel_rfl) rfl)
  (nodesN_tells Fence.wide rfl _ trivial trivial rfl w.heap.size (w.heap.size+3) (w.heap.size+3) (by omega) e hsz (fun y=>True) (fun _ _=>trivial) o num s (.slice p K cap) W0 (by omega) bA (HX.out.under hB0)) keepC_t (keepC_b (by omega)) (fun _=>rfl)
  (fun bef W=>(HeldL w.heap.size (w.heap.size+2) (nmL B (bef.map Nd.info)) W∧Boxed W (w.heap.size+1) 68 (.map mm))∧Below w.heap.size w W)
  (fun _ _ _=>False)
  (OwnFrom.and (OwnFrom.and (heldL_own _ _ _ _) (Own.from (boxed_own _ _ _) _)) (ownFrom_below (Nat.le_refl _) (by omega)))
  (fun _ _ _ _ _ hs _ _=>hs)
  ⟨⟨⟨_,bL,World.ownsRow_nil _ _ _ _⟩,bM⟩,hB0⟩ ?round ?done ?stop
 case round =>
  rintro l bef x W hl ⟨⟨hL1,bM1⟩,hB1⟩ _ hlt;have HSN:Hid (nmL B ((bef++[x]).map Nd.info)=nmL B (bef.map Nd.info)++nodN B x.info):=Lh (by rw [List.map_append,List.map_cons,List.map_nil,nmL_snoc]);have hLL:=nmL_len B (bef.map Nd.info);rw [List.length_map] at hLL;generalize nmL B (bef.map Nd.info)=L1 at *
  have hWs:=hB1.size;have HL1:=Lh hL1;have HBM1:=Lh bM1;have HBW:=Lh hB1;have hl2:=bM1.lt;clear hL1 bM1 hB1;rw [zip2s];have B1:=Lh (ba W (.cells #[.int .i64 x.op,.int .i64 x.n,.string x.nm,.slice x.p x.k x.cap] 43));have FI1:=Lh (Blk.new W [.int .i64 x.op,.int .i64 x.n,.string x.nm,.slice x.p x.k x.cap] 43)
  gi_wp2
  refine⟨keepsFrom_below B1.out,KeepC.of_below B1.out,⟨⟨HL1.out.later B1.out,bxStay HBM1.out B1.out⟩,HBW.out.trans (B1.out.mono hWs)⟩,?_⟩;rintro Wb hnear ⟨⟨hL2,bM2⟩,hB2⟩;have e0:=hnear.cell (FI1.out.c 0 _ rfl);have e2:=hnear.cell (FI1.out.c 2 _ rfl);have cM:=bM2.cell;have hsb:=hB2.size;have AC:Hid (∀ n W,CallsIn (Fence.wide.inRound l) n Tryz.prog 97 #[.int .i64 x.op] W fun e w'=>e=.returned (.bool (isAr x.op))∧W=w'):=(Lh fun n W=>CallsIn.inRound l (callsIn_wide.2 (isArI_any x.op W)));have hlk:=(HM.out.below hB2).look x.nm x.hs;have hcz:=cntB_pos B x.nm;have NE:Hid (nodN B x.info=if (isAr x.op||(isVr x.op&&!memB B x.nm))=true then [x.nm] else []):=Lh rfl;obtain⟨v,hv1,hrow1⟩:=hL2.h;have hcV:=hv1.cell;have hvl:=hv1.lt;have HV1:=Lh hv1;have HR1:=Lh hrow1;have HL2:=Lh hL2;have BM2:=Lh bM2;have HB2:=Lh hB2;have hgs:=hnear.size;have hWb:W.heap.size<Wb.heap.size:=(by rw [hgs];simp);clear hB2 hnear bM2 hL2 hgs;obtain⟨A,hA⟩:∃ A,isAr x.op=A:=⟨_,rfl⟩;rw [hA] at AC NE;clear hA;have FIN:Hid (nodN B x.info=[x.nm]→∀ v' w2,w2.ownsRow w.heap.size 9 1 v' (L1.length+1) (L1.map Value.string++[.string x.nm])→(Wb.alloc (.cells #[.string x.nm] 9)).grownBy w2 v.ownBlock→∃ g' cap',v'=.slice (some ⟨g',0,none⟩) (L1.length+1) cap'∧w2.cell? ⟨w.heap.size+2,0,none⟩=some v∧w2.frozen? ⟨w.heap.size+2,0,none⟩=false ∧
    leftT W0.heap.size (KeepC w.heap.size (w.heap.size+3)) (fun bef W=>(HeldL w.heap.size (w.heap.size+2) (nmL B (bef.map Nd.info)) W∧Boxed W (w.heap.size+1) 68 (.map mm))∧Below w.heap.size w W) (fun _ _ _=>False) (bef++[x]) Wb .normal { tmps:=#[],defers:=[] } (w2.setCell ⟨w.heap.size+2,0,none⟩ v')):=Lh (fun hnode v' w2 hown' hgrow=>by
   obtain⟨g',cap',rfl⟩:=ownsRow_succ hown';obtain⟨hv2,hv3,hr2,hk2,hb2⟩:=HV1.out.appended (by decide) HR1.out (by omega) (by omega) hown' hgrow;refine⟨g',cap',rfl,hv2.cell,hv2.frozen,hk2.from _,?_,⟨⟨_,hv3,?_⟩,?_⟩,HB2.out.trans hb2⟩
   ·exact ((KeepC.of_below (ba _ _)).trans (KeepC.grown hgrow fun b eb=>by obtain⟨q1,q2⟩:=own_notOk HR1.out _ b eb;exact⟨q1,.inr q2⟩)).set (by omega) (by omega) _
   ·rw [HSN.out,hnode,List.length_append,List.map_append];exact hr2
   ·exact ((BM2.out.alloc _).kept hgrow (BM2.out.not_row (by decide) HR1.out)).other (by omega) _)
  have NOT:Hid (nodN B x.info=[]→leftT W0.heap.size (KeepC w.heap.size (w.heap.size+3)) (fun bef W=>(HeldL w.heap.size (w.heap.size+2) (nmL B (bef.map Nd.info)) W∧Boxed W (w.heap.size+1) 68 (.map mm))∧Below w.heap.size w W) (fun _ _ _=>False) (bef++[x]) Wb .normal { tmps:=#[],defers:=[] } Wb):=Lh (fun hnode=>by
   refine⟨KeepsFrom.refl _ _,KeepC.refl _ _ _,⟨?_,BM2.out⟩,HB2.out⟩;rw [HSN.out,hnode,List.append_nil];exact HL2.out)
  have HROW:=Lh (hrow1.alloc (.cells #[.string x.nm] 9));clear hv1 hrow1;cases A
  ·have q2:(x.op == 2)=isVr x.op:=(by unfold isVr;rw [Bool.eq_iff_iff];simp);obtain⟨V,hV⟩:∃ V,isVr x.op=V:=⟨_,rfl⟩;rw [hV] at q2 NE;clear hV;cases V
   ·have HN:Hid (nodN B x.info=[]):=Lh (by rw [NE.out];rfl)
    gi_wp2_with (first | (refine⟨trivial,?_⟩;gi_at_call 97;refine (AC.out _ _).mono ?_;rintro e w2 ⟨rfl,rfl⟩))
    exact NOT.out HN.out
   ·obtain⟨M,hM⟩:∃ M,memB B x.nm=M:=⟨_,rfl⟩;rw [hM] at NE hcz;cases M
    ·have hc0:cntB B x.nm=0:=hcz.2.2 rfl;rw [hc0] at hlk;have HN:Hid (nodN B x.info=[x.nm]):=Lh (by rw [NE.out];rfl);clear hcz hM hc0 NE
     gi_wp2_with (first | (refine⟨trivial,?_⟩;gi_at_call 97;refine (AC.out _ _).mono ?_;rintro e w2 ⟨rfl,rfl⟩) | (gi_at_builtin;refine wpListIn_append_own _ rfl _ _ 27 rfl w.heap.size 9 i0 (.string ⟨#[]⟩) 1 16 Tryz.underlying27 hi hz0 hz1 hz2 rfl (by decide) _ _ _ rfl HROW.out ⟨Wb.heap.size,0,none⟩ 1 1 [.string x.nm] rfl rfl (cell_one_new _ _ _) (by simp [Value.oneCell']) (by unfold maxLen;omega) (by omega) (by simp;omega) ?_;intro v' w2 hown' hgrow _;obtain⟨g',cap',rfl,hc1,hf1,HFIN⟩:=FIN.out HN.out v' w2 hown' hgrow;have HFI:=Lh HFIN;clear HFIN hown' hgrow))
     exact HFI.out
    ·have hc0:cntB B x.nm≠0:=(fun h=>by have:=hcz.2.1 h;cases this);have hc1:(cntB B x.nm == 0)=false:=(by rw [beq_eq_false_iff_ne];exact hc0);have HN:Hid (nodN B x.info=[]):=Lh (by rw [NE.out];rfl);clear hc0 hcz hM
     gi_wp2_with (first | (refine⟨trivial,?_⟩;gi_at_call 97;refine (AC.out _ _).mono ?_;rintro e w2 ⟨rfl,rfl⟩))
     exact NOT.out HN.out
  ·have HN:Hid (nodN B x.info=[x.nm]):=Lh (by rw [NE.out];rfl);clear hcz
   gi_wp2_with (first | (refine⟨trivial,?_⟩;gi_at_call 97;refine (AC.out _ _).mono ?_;rintro e w2 ⟨rfl,rfl⟩) | (gi_at_builtin;refine wpListIn_append_own _ rfl _ _ 27 rfl w.heap.size 9 i0 (.string ⟨#[]⟩) 1 16 Tryz.underlying27 hi hz0 hz1 hz2 rfl (by decide) _ _ _ rfl HROW.out ⟨Wb.heap.size,0,none⟩ 1 1 [.string x.nm] rfl rfl (cell_one_new _ _ _) (by simp [Value.oneCell']) (by unfold maxLen;omega) (by omega) (by simp;omega) ?_;intro v' w2 hown' hgrow _;obtain⟨g',cap',rfl,hc1,hf1,HFIN⟩:=FIN.out HN.out v' w2 hown' hgrow;have HFI:=Lh HFIN;clear HFIN hown' hgrow))
   exact HFI.out
 case done =>
  rintro D zs W hD hzs ⟨⟨hL1,_⟩,hB1⟩ hK;rw [hzs] at hL1;obtain⟨v,hv,hrow⟩:=hL1.h;have hc:=hv.cell;have HR:=Lh hrow;have HB:=Lh hB1;have HKD:=Lh hK;clear hrow hv hzs hB1 hL1
  gi_wp2
  refine⟨by simp,.inl ⟨_,_,rfl,run_takeDeferred HKD.out,?_⟩⟩;exact⟨_,results_tmp rfl _ _ _,v,rfl,by rw [EV.out];exact ownsRow_putObj HR.out _ HKD.out rfl,HB.out.trans (belowK_b (w:=w) (Nat.le_refl _) W D _ _ (by omega) HKD.out rfl rfl)⟩
 case stop =>
  rintro D c bef W _ _ h _;exact h.elim
end ItW
namespace ItW
open Go Go.RowKit Go.Shelf LexW LexM ExM ExW ItM
open ClM (Fld firstE firstE_zero)
attribute [local go_sem] Oper.semAt_some
def SetM (W:World) (mb:Nat) (l:List ByteArray):Prop:=W.ownsMap Tryz.prog 9 (plainElem (H:=Unit) Tryz.prog 4) mb l.length (nmD l)
theorem SetM.obj {W:World} {mb:Nat} {l:List ByteArray} (h:SetM W mb l):∃ es ck,W.heap[mb]? = some (.map es ck):=by
 obtain⟨es,ck,hb,_⟩:=h;exact⟨es,ck,hb⟩
theorem SetM.lt {W:World} {mb:Nat} {l:List ByteArray} (h:SetM W mb l):mb<W.heap.size:=by
 obtain⟨es,ck,hb⟩:=h.obj;exact (Array.getElem?_eq_some_iff.1 hb).1
theorem SetM.kept {W W':World} {mb:Nat} {l:List ByteArray} {row:Option Nat} (h:SetM W mb l) (hg:W.grownBy W' row) (hr:some mb≠row):SetM W' mb l:=World.ownsMap.kept h hg hr
theorem SetM.below {W W':World} {mb:Nat} {l:List ByteArray} (h:SetM W mb l) (hb:Below W.heap.size W W'):SetM W' mb l:=h.kept (grown_of_below hb) (fun e=>by cases e)
theorem SetM.put {W:World} {mb:Nat} {l:List ByteArray} (h:SetM W mb l) (hn:l.length≤1000000000) (t:ByteArray) (ht:t.size≤140737488351232):∃ W',(Instr.mapUpdate 67 (.map (some mb)) (.string t) (.bool true)).run Tryz.prog W=.ok () W'∧SetM W' mb (l++[t])∧W.grownBy W' (some mb):=by
 obtain⟨W',hr,ho,hg⟩:=World.ownsMap.update h (Maps.string_keyed Tryz.underlying9) Tryz.underlying67 (Nat.lt_of_le_of_lt hn (by decide)) (Go.WideMaps.keyOf_string_mk Tryz.underlying9 (Nat.le_trans ht (by decide))) (plainElem_bool Tryz.underlying4 true);refine⟨W',hr,?_,hg⟩;unfold SetM;rw [nmD_snoc,List.length_append];exact ho
structure HeldG (B lb X Y:Nat) (l:List ByteArray) (W:World):Prop where
 h:∃ v,Boxed W lb 27 v∧W.ownsRow B 9 1 v l.length (l.map Value.string)∧∀ b,v.ownBlock=some b→b<X∨Y≤b
theorem HeldG.plain {B lb X Y:Nat} {l:List ByteArray} {W:World} (h:HeldG B lb X Y l W):HeldL B lb l W:=by
 obtain⟨v,h1,h2,_⟩:=h.h;exact⟨v,h1,h2⟩
structure Kept5 (B X Y n₁ B0:Nat) (A W:World):Prop where
 kc:KeepC B n₁ A W
 kf:KeepsFrom B0 A W
 be:Below B A W
 nb:∀ b,X≤b→b<Y→W.heap[b]? = A.heap[b]?
theorem Kept5.refl (B X Y n₁ B0:Nat) (A:World):Kept5 B X Y n₁ B0 A A:=⟨KeepC.refl _ _ _,KeepsFrom.refl _ _,Below.refl _ _,fun _ _ _=>rfl⟩
theorem Kept5.trans {B X Y n₁ B0:Nat} {A W W':World} (h:Kept5 B X Y n₁ B0 A W) (k:Kept5 B X Y n₁ B0 W W'):Kept5 B X Y n₁ B0 A W':=⟨h.kc.trans k.kc,h.kf.trans k.kf,h.be.trans k.be,fun b h1 h2=>(k.nb b h1 h2).trans (h.nb b h1 h2)⟩
end ItW
namespace ItW
open Go Go.RowKit Go.Shelf NumM LexW LexM ExM ExW ItM
open ClM (Fld)
theorem eqB_refl (e:Ex):eqB e e=true:=by
 induction e using Ex.ind with
 | h o n s ks ih =>
  have hl:eqL ks ks=true:=eqL_yes rfl fun i x y _ hx hy=>by
   rw [hx] at hy;cases hy;exact ih x (List.mem_of_getElem? hx)
  rw [eqB_mk];simp [hl]
end ItW
end Go.Proofs.YtpejflgdehioaaaGreatDoor
