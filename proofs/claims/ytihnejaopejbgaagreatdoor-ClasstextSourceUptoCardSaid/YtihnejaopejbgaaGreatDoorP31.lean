/-
  Laws that the card uses; no conditions beside those that each states (ItRWr).
-/
import Derived.Test.YtihnejaopejbgaaGreatDoorP16
import Derived.Test.YtihnejaopejbgaaGreatDoorP22
import Derived.Test.YtihnejaopejbgaaGreatDoorP27
set_option maxRecDepth 100000
set_option maxHeartbeats 16000000
namespace Go.Proofs.YtihnejaopejbgaaGreatDoor
namespace ItW
open Go Go.RowKit NumM LexW LexM ExM ExW ItM
theorem varsR_any (l:List ByteArray) (v:Value) (N:Nat) (w:World) (ha:StA N w v l) (hN:N≤w.heap.size) :
  Calls Tryz.prog 103 #[v] w (tBool (!l.any noVar) w):=by
 obtain⟨p,cap,rfl,hl,hc0,hz,hp⟩:=ha;have HP:=Lh hp;have HZ:=Lh hz;obtain⟨K,hK⟩:∃ K,l.length=K:=⟨_,rfl⟩;have HK:=Lh hK;rw [hK] at hl ⊢;have hk:K≤140737488351232:=(by omega);clear hK hl hp hz;have HB0:=Lh (Below.refl w.heap.size w)
 go_enter Tryz.func103,Tryz.ntmps103
 go_wp2;go_loopw [3] (fun i wr=>∃ j:Nat,j≤K∧i=.int .i64 j∧Hid ((l.take j).any noVar=false)∧Hid (Below w.heap.size w wr)) (fun i _=>K - (intOf i).toNat)
 case atStart=>exact⟨0,Nat.zero_le _,rfl,Lh rfl,HB0⟩
 case round =>
  obtain⟨j,hj,rfl,FN,BW⟩:=hrel;by_cases hlt:j<K
  ·obtain⟨c,hc⟩:∃ c,l[j]? = some c:=⟨_,List.getElem?_eq_getElem (by rw [HK.out];exact hlt)⟩;have hbw:Below N w wr:=BW.out.mono hN;obtain⟨b,off,rfl,hb,hcell⟩:=HP.out (by rw [HK.out];omega);have c0:=low_cells hbw _ _ hb _ (hcell j c hc);have CC0:=isVarR_any c wr (HZ.out c (List.mem_of_getElem? hc));have HC:=Lh hc;clear hc hbw hcell;have hv:varB c.data.toList = !noVar c:=(by unfold noVar;rw [Bool.not_not]);rw [hv] at CC0;have CC:=Lh CC0;clear CC0 hv;cases hs:noVar c
   ·have FN2:=Lh (any_next HC.out hs FN.out);rw [hs] at CC;clear hs;go_wp2_with (go_at_call 125;((with_reducible refine CC.out.mono ?_);rintro e w1 ⟨rfl,hb1⟩;have HB1:=Lh (BW.out.then_ hb1);clear hb1))
    go_roundw
    case rel=>exact⟨j+1,by omega,by go_num,FN2,HB1⟩
    case measure=>simp [intOf];omega
   ·have FS:=Lh (any_at HC.out hs);rw [hs] at CC;clear hs;go_wp2_with (go_at_call 125;((with_reducible refine CC.out.mono ?_);rintro e w1 ⟨rfl,hb1⟩;have HB1:=Lh (BW.out.then_ hb1);clear hb1))
    go_ret;exact⟨by rw [FS.out];rfl,HB1.out⟩
  ·have FN2:Hid (l.any noVar=false):=Lh (by have:=FN.out;rw [List.take_of_length_le (by rw [HK.out];omega)] at this;exact this);go_wp2;go_ret;exact⟨by rw [FN2.out];rfl,BW.out⟩
theorem wrong_mk (t:Wt):wrongW t=(decide (t.lo<0)||(decide (t.hi<t.lo)||(decide (65535<t.hi)||(decide (t.wt<0)||decide (1000<t.wt))))):=rfl
theorem distR_any (x:It) (a4 a7 a8 a9 a10 a11:Value) (N:Nat) (w:World) (h:IV N w a4 a7 a8 a9 a10 a11 x) (hN:N≤w.heap.size) :
  Calls Tryz.prog 102 #[iv x.kd x.e.op x.e.n x.e.nm a4 x.nm x.ix a7 a8 a9 a10 a11] w (tInt (distE x) w):=by
 have hw:=h.wt;have hnm:=h.nm;obtain⟨kd,o,n,en,p4,k4,c4,nm,ix,p7,k7,c7,p8,k8,c8,p9,k9,c9,p10,k10,c10,p11,k11,c11,ev,hv⟩:=h.open_;have ev2:=ev;simp only [Value.agg.injEq,Array.mk.injEq,List.cons.injEq] at ev2;obtain⟨-,-,-,-,rfl,-,-,rfl,rfl,rfl,rfl,rfl,-⟩:=ev2;rw [ev];obtain⟨e0,e1,e2,e3,e5,e6,l4,l7,l8,l9,l10,l11,-⟩:=hv;rw [e5] at hnm;have EE:Hid (distE x=if 16<k7 then 2 else if k7=0∨x.ws.any wrongW=true then 1 else if noVar nm=true then 7 else 0):=Lh (by unfold distE;rw [e5,l7]);obtain⟨p,cap,ew,hl,hc0,hp⟩:=hw;rw [l7] at ew hl;simp only [Value.slice.injEq,true_and] at ew;obtain⟨rfl,rfl⟩:=ew;have HP:=Lh hp;have HK:Hid (x.ws.length=k7):=Lh l7;have hk:k7≤140737488351232:=(by omega);clear h ev e0 e1 e2 e3 e5 e6 l4 l7 l8 l9 l10 l11 hp hl;obtain⟨cs,hcs⟩:∃ cs,cs=ics kd o n en (.slice p4 k4 c4) nm ix (.slice p7 k7 c7) (.slice p8 k8 c8) (.slice p9 k9 c9) (.slice p10 k10 c10) (.slice p11 k11 c11):=⟨_,rfl⟩;have F0:=Blk.new w cs 53;have HB:=Lh (ba w (.cells cs.toArray 53));subst hcs;have d7:=F0.c 7 _ rfl;have HF:=Lh F0;have hs0:=World.size_alloc w (.cells (ics kd o n en (.slice p4 k4 c4) nm ix (.slice p7 k7 c7) (.slice p8 k8 c8) (.slice p9 k9 c9) (.slice p10 k10 c10) (.slice p11 k11 c11)).toArray 53);have HS0:=Lh hs0;clear F0 hs0;by_cases h16:16<k7
 ·have d16:decide ((16:Int)<(k7:Int))=true:=decide_eq_true (by omega)
  go_enter Tryz.func102,Tryz.ntmps102
  go_wp2;go_ret;exact tInt_mk (by rw [EE.out,if_pos h16]) HB.out
 ·have d16:decide ((16:Int)<(k7:Int))=false:=decide_eq_false (by omega);by_cases h00:k7=0
  ·subst h00
   go_enter Tryz.func102,Tryz.ntmps102
   go_wp2;go_ret;exact tInt_mk (by rw [EE.out];rfl) HB.out
  ·have f0:((k7:Int) == 0)=false:=(by rw [beq_eq_false_iff_ne];omega);obtain⟨b,off,rfl,hb,hcell⟩:=HP.out (by rw [HK.out];omega);have EE2:Hid (distE x=if x.ws.any wrongW=true then 1 else if noVar nm=true then 7 else 0):=Lh (by
    rw [EE.out,if_neg h16];by_cases hq:x.ws.any wrongW=true
    ·rw [if_pos (.inr hq),if_pos hq]
    ·rw [if_neg (fun e=>e.elim h00 hq),if_neg hq])
   have HC:=Lh hcell;have VC0:=(fun W=>isVarR_any nm W hnm);have hvv:varB nm.data.toList = !noVar nm:=(by unfold noVar;rw [Bool.not_not]);rw [hvv] at VC0;have VC:=Lh VC0;clear hcell EE VC0 hvv h00;generalize x.ws=ws at *
   go_enter Tryz.func102,Tryz.ntmps102
   go_wp2;obtain⟨W0,hW0⟩:∃ W0,w.alloc (.cells (ics kd o n en (.slice p4 k4 c4) nm ix (.slice (some ⟨b,off,none⟩) k7 c7) (.slice p8 k8 c8) (.slice p9 k9 c9) (.slice p10 k10 c10) (.slice p11 k11 c11)).toArray 53)=W0:=⟨_,rfl⟩;simp only [List.toArray] at hW0;have HB':=HB;have HF':=HF;simp only [List.toArray] at HB' HF';rw [hW0] at HB' HF' ⊢;clear hW0 HB HF d7;go_loopw [3] (fun i wr=>∃ j:Nat,j≤k7∧i=.int .i64 j∧Hid ((ws.take j).any wrongW=false)∧Hid (Below w.heap.size w wr)∧Hid (Blk wr w.heap.size (ics kd o n en (.slice p4 k4 c4) nm ix (.slice (some ⟨b,off,none⟩) k7 c7) (.slice p8 k8 c8) (.slice p9 k9 c9) (.slice p10 k10 c10) (.slice p11 k11 c11)))) (fun i _=>k7 - (intOf i).toNat)
   case atStart=>exact⟨0,Nat.zero_le _,rfl,Lh rfl,HB',HF'⟩
   case round =>
    obtain⟨j,hj,rfl,FN,BW,FW⟩:=hrel;have d7:=FW.out.c 7 _ rfl;have d5:=FW.out.c 5 _ rfl;by_cases hlt:j<k7
    ·obtain⟨t,ht⟩:∃ t,ws[j]? = some t:=⟨_,List.getElem?_eq_getElem (by rw [HK.out];exact hlt)⟩;obtain⟨q0,q1,q2,q3⟩:=HC.out j t ht;have hbw:Below N w wr:=BW.out.mono hN;have c0:=low_cells hbw _ _ hb _ q0;have c1:=low_cells hbw _ _ hb _ q1;have c2:=low_cells hbw _ _ hb _ q2;have c3:=low_cells hbw _ _ hb _ q3;have BW2:=Lh (BW.out.then_ (ba wr (.cells #[.int .i64 t.lo,.int .i64 t.hi,.int .i64 t.wt,.bool t.ea] 45)));have FW2:=Lh (FW.out.stay (ba wr (.cells #[.int .i64 t.lo,.int .i64 t.hi,.int .i64 t.wt,.bool t.ea] 45)));have HWR:=Lh (wrong_mk t);cases hs:wrongW t
     ·have FN2:=Lh (any_next ht hs FN.out);obtain⟨r1,r2,r3,r4,r5⟩:¬ t.lo<0∧¬ t.hi<t.lo∧¬ 65535<t.hi∧¬ t.wt<0∧¬ 1000<t.wt:=by
       have:=HWR.out;rw [hs] at this;have:=this.symm;simp only [Bool.or_eq_false_iff,decide_eq_false_iff_not] at this;exact⟨this.1,this.2.1,this.2.2.1,this.2.2.2.1,this.2.2.2.2⟩
      clear HWR;clear hs ht q0 q1 q2 q3;generalize t.lo=tl at *
      generalize t.hi=th at *
      generalize t.wt=tw at *
      generalize t.ea=te at *
      go_wp2;go_roundw
      case rel=>exact⟨j+1,by omega,by go_num,FN2,BW2,FW2⟩
      case measure=>simp [intOf];omega
     ·have FS:=Lh (any_at ht hs);have E:Hid (distE x=1):=Lh (by rw [EE2.out,if_pos FS.out]);have hOR:t.lo<0∨t.hi<t.lo∨65535<t.hi∨t.wt<0∨1000<t.wt:=by
       have:=HWR.out;rw [hs] at this;have:=this.symm;simp only [Bool.or_eq_true,decide_eq_true_eq] at this;exact this
      have HOR:=Lh hOR;clear HWR hOR;clear hs ht q0 q1 q2 q3;generalize t.lo=tl at *
      generalize t.hi=th at *
      generalize t.wt=tw at *
      generalize t.ea=te at *
      by_cases r1:tl<0
      ·go_wp2;go_ret;exact tInt_mk E.out BW2.out
      ·by_cases r2:th<tl
       ·go_wp2;go_ret;exact tInt_mk E.out BW2.out
       ·by_cases r3:65535<th
        ·go_wp2;go_ret;exact tInt_mk E.out BW2.out
        ·by_cases r4:tw<0
         ·go_wp2;go_ret;exact tInt_mk E.out BW2.out
         ·have r5:1000<tw:=by
           have:=HOR.out;omega
          go_wp2;go_ret;exact tInt_mk E.out BW2.out
    ·have FN2:Hid (ws.any wrongW=false):=Lh (by have:=FN.out;rw [List.take_of_length_le (by rw [HK.out];omega)] at this;exact this);have E:Hid (distE x=if noVar nm=true then 7 else 0):=Lh (by rw [EE2.out,FN2.out];rfl);generalize noVar nm=q at *
     cases q
     ·go_wp2_with (go_at_call 125;((with_reducible refine (VC.out _).mono ?_);rintro e w1 ⟨rfl,hb1⟩;have HB1:=Lh (BW.out.then_ hb1);clear hb1))
      go_ret;exact tInt_mk (by rw [E.out];rfl) HB1.out
     ·go_wp2_with (go_at_call 125;((with_reducible refine (VC.out _).mono ?_);rintro e w1 ⟨rfl,hb1⟩;have HB1:=Lh (BW.out.then_ hb1);clear hb1))
      go_ret;exact tInt_mk (by rw [E.out];rfl) HB1.out
end ItW
end Go.Proofs.YtihnejaopejbgaaGreatDoor
