/-
  Laws that the card uses; no conditions beside those that each states (ItRWr ItRFld ItVar ItCho ItRVar).
-/
import Derived.Test.YtpejflgdehioaaaGreatDoorU09
import Derived.Test.YtpejflgdehioaaaGreatDoorU15
import Derived.Test.YtpejflgdehioaaaGreatDoorU24
import Derived.Test.YtpejflgdehioaaaGreatDoorU27
set_option maxRecDepth 100000
set_option maxHeartbeats 16000000
namespace Go.Proofs.YtpejflgdehioaaaGreatDoor
namespace ItW
open Go Go.RowKit NumM LexW LexM ExM ExW ItM
theorem varsR_any (l:List ByteArray) (v:Value) (N:Nat) (w:World) (ha:StA N w v l) (hN:N≤w.heap.size) :
  Calls Tryz.prog 121 #[v] w (tBool (!l.any noVar) w):=by
 obtain⟨p,cap,rfl,hl,hc0,hz,hp⟩:=ha;have HP:=Lh hp;have HZ:=Lh hz;obtain⟨K,hK⟩:∃ K,l.length=K:=⟨_,rfl⟩;have HK:=Lh hK;rw [hK] at hl ⊢;have hk:K≤140737488351232:=(by omega);clear hK hl hp hz;have HB0:=Lh (Below.refl w.heap.size w)
 go_enter Tryz.func121,Tryz.ntmps121
 go_wp2;go_loopw [3] (fun i wr=>∃ j:Nat,j≤K∧i=.int .i64 j∧Hid ((l.take j).any noVar=false)∧Hid (Below w.heap.size w wr)) (fun i _=>K - (intOf i).toNat)
 case atStart=>exact⟨0,Nat.zero_le _,rfl,Lh rfl,HB0⟩
 case round =>
  obtain⟨j,hj,rfl,FN,BW⟩:=hrel;by_cases hlt:j<K
  ·obtain⟨c,hc⟩:∃ c,l[j]? = some c:=⟨_,List.getElem?_eq_getElem (by rw [HK.out];exact hlt)⟩;have hbw:Below N w wr:=BW.out.mono hN;obtain⟨b,off,rfl,hb,hcell⟩:=HP.out (by rw [HK.out];omega);have c0:=low_cells hbw _ _ hb _ (hcell j c hc);have CC0:=isVarR_any c wr (HZ.out c (List.mem_of_getElem? hc));have HC:=Lh hc;clear hc hbw hcell;have hv:varB c.data.toList = !noVar c:=(by unfold noVar;rw [Bool.not_not]);rw [hv] at CC0;have CC:=Lh CC0;clear CC0 hv;cases hs:noVar c
   ·have FN2:=Lh (any_next HC.out hs FN.out);rw [hs] at CC;clear hs;go_wp2_with (go_at_call 166;((with_reducible refine CC.out.mono ?_);rintro e w1 ⟨rfl,hb1⟩;have HB1:=Lh (BW.out.then_ hb1);clear hb1))
    go_roundw
    case rel=>exact⟨j+1,by omega,by go_num,FN2,HB1⟩
    case measure=>simp [intOf];omega
   ·have FS:=Lh (any_at HC.out hs);rw [hs] at CC;clear hs;go_wp2_with (go_at_call 166;((with_reducible refine CC.out.mono ?_);rintro e w1 ⟨rfl,hb1⟩;have HB1:=Lh (BW.out.then_ hb1);clear hb1))
    go_ret;exact⟨by rw [FS.out];rfl,HB1.out⟩
  ·have FN2:Hid (l.any noVar=false):=Lh (by have:=FN.out;rw [List.take_of_length_le (by rw [HK.out];omega)] at this;exact this);go_wp2;go_ret;exact⟨by rw [FN2.out];rfl,BW.out⟩
theorem tInt_mk {n m:Int} {w w':World} (h:n=m) (hb:Below w.heap.size w w'):tInt n w (.returned (.int .i64 m)) w':=by subst h;exact⟨rfl,hb⟩
theorem wrong_mk (t:Wt):wrongW t=(decide (t.lo<0)||(decide (t.hi<t.lo)||(decide (65535<t.hi)||(decide (t.wt<0)||decide (1000<t.wt))))):=rfl
theorem distR_any (x:It) (a4 a7 a8 a9 a10 a11:Value) (N:Nat) (w:World) (h:IV N w a4 a7 a8 a9 a10 a11 x) (hN:N≤w.heap.size) :
  Calls Tryz.prog 120 #[iv x.kd x.e.op x.e.n x.e.nm a4 x.nm x.ix a7 a8 a9 a10 a11] w (tInt (distE x) w):=by
 have hw:=h.wt;have hnm:=h.nm;obtain⟨kd,o,n,en,p4,k4,c4,nm,ix,p7,k7,c7,p8,k8,c8,p9,k9,c9,p10,k10,c10,p11,k11,c11,ev,hv⟩:=h.open_;have ev2:=ev;simp only [Value.agg.injEq,Array.mk.injEq,List.cons.injEq] at ev2;obtain⟨-,-,-,-,rfl,-,-,rfl,rfl,rfl,rfl,rfl,-⟩:=ev2;rw [ev];obtain⟨e0,e1,e2,e3,e5,e6,l4,l7,l8,l9,l10,l11,-⟩:=hv;rw [e5] at hnm;have EE:Hid (distE x=if 16<k7 then 2 else if k7=0∨x.ws.any wrongW=true then 1 else if noVar nm=true then 7 else 0):=Lh (by unfold distE;rw [e5,l7]);obtain⟨p,cap,ew,hl,hc0,hp⟩:=hw;rw [l7] at ew hl;simp only [Value.slice.injEq,true_and] at ew;obtain⟨rfl,rfl⟩:=ew;have HP:=Lh hp;have HK:Hid (x.ws.length=k7):=Lh l7;have hk:k7≤140737488351232:=(by omega);clear h ev e0 e1 e2 e3 e5 e6 l4 l7 l8 l9 l10 l11 hp hl;obtain⟨cs,hcs⟩:∃ cs,cs=ics kd o n en (.slice p4 k4 c4) nm ix (.slice p7 k7 c7) (.slice p8 k8 c8) (.slice p9 k9 c9) (.slice p10 k10 c10) (.slice p11 k11 c11):=⟨_,rfl⟩;have F0:=Blk.new w cs 55;have HB:=Lh (ba w (.cells cs.toArray 55));subst hcs;have d7:=F0.c 7 _ rfl;have HF:=Lh F0;have hs0:=World.size_alloc w (.cells (ics kd o n en (.slice p4 k4 c4) nm ix (.slice p7 k7 c7) (.slice p8 k8 c8) (.slice p9 k9 c9) (.slice p10 k10 c10) (.slice p11 k11 c11)).toArray 55);have HS0:=Lh hs0;clear F0 hs0;by_cases h16:16<k7
 ·have d16:decide ((16:Int)<(k7:Int))=true:=decide_eq_true (by omega)
  go_enter Tryz.func120,Tryz.ntmps120
  go_wp2;go_ret;exact tInt_mk (by rw [EE.out,if_pos h16]) HB.out
 ·have d16:decide ((16:Int)<(k7:Int))=false:=decide_eq_false (by omega);by_cases h00:k7=0
  ·subst h00
   go_enter Tryz.func120,Tryz.ntmps120
   go_wp2;go_ret;exact tInt_mk (by rw [EE.out];rfl) HB.out
  ·have f0:((k7:Int) == 0)=false:=(by rw [beq_eq_false_iff_ne];omega);obtain⟨b,off,rfl,hb,hcell⟩:=HP.out (by rw [HK.out];omega);have EE2:Hid (distE x=if x.ws.any wrongW=true then 1 else if noVar nm=true then 7 else 0):=Lh (by
    rw [EE.out,if_neg h16];by_cases hq:x.ws.any wrongW=true
    ·rw [if_pos (.inr hq),if_pos hq]
    ·rw [if_neg (fun e=>e.elim h00 hq),if_neg hq])
   have HC:=Lh hcell;have VC0:=(fun W=>isVarR_any nm W hnm);have hvv:varB nm.data.toList = !noVar nm:=(by unfold noVar;rw [Bool.not_not]);rw [hvv] at VC0;have VC:=Lh VC0;clear hcell EE VC0 hvv h00;generalize x.ws=ws at *
   go_enter Tryz.func120,Tryz.ntmps120
   go_wp2;obtain⟨W0,hW0⟩:∃ W0,w.alloc (.cells (ics kd o n en (.slice p4 k4 c4) nm ix (.slice (some ⟨b,off,none⟩) k7 c7) (.slice p8 k8 c8) (.slice p9 k9 c9) (.slice p10 k10 c10) (.slice p11 k11 c11)).toArray 55)=W0:=⟨_,rfl⟩;simp only [List.toArray] at hW0;have HB':=HB;have HF':=HF;simp only [List.toArray] at HB' HF';rw [hW0] at HB' HF' ⊢;clear hW0 HB HF d7;go_loopw [3] (fun i wr=>∃ j:Nat,j≤k7∧i=.int .i64 j∧Hid ((ws.take j).any wrongW=false)∧Hid (Below w.heap.size w wr)∧Hid (Blk wr w.heap.size (ics kd o n en (.slice p4 k4 c4) nm ix (.slice (some ⟨b,off,none⟩) k7 c7) (.slice p8 k8 c8) (.slice p9 k9 c9) (.slice p10 k10 c10) (.slice p11 k11 c11)))) (fun i _=>k7 - (intOf i).toNat)
   case atStart=>exact⟨0,Nat.zero_le _,rfl,Lh rfl,HB',HF'⟩
   case round =>
    obtain⟨j,hj,rfl,FN,BW,FW⟩:=hrel;have d7:=FW.out.c 7 _ rfl;have d5:=FW.out.c 5 _ rfl;by_cases hlt:j<k7
    ·obtain⟨t,ht⟩:∃ t,ws[j]? = some t:=⟨_,List.getElem?_eq_getElem (by rw [HK.out];exact hlt)⟩;obtain⟨q0,q1,q2,q3⟩:=HC.out j t ht;have hbw:Below N w wr:=BW.out.mono hN;have c0:=low_cells hbw _ _ hb _ q0;have c1:=low_cells hbw _ _ hb _ q1;have c2:=low_cells hbw _ _ hb _ q2;have c3:=low_cells hbw _ _ hb _ q3;have BW2:=Lh (BW.out.then_ (ba wr (.cells #[.int .i64 t.lo,.int .i64 t.hi,.int .i64 t.wt,.bool t.ea] 130)));have FW2:=Lh (FW.out.stay (ba wr (.cells #[.int .i64 t.lo,.int .i64 t.hi,.int .i64 t.wt,.bool t.ea] 130)));have HWR:=Lh (wrong_mk t);cases hs:wrongW t
     ·have FN2:=Lh (any_next ht hs FN.out);obtain⟨r1,r2,r3,r4,r5⟩:¬ t.lo<0∧¬ t.hi<t.lo∧¬ 65535<t.hi∧¬ t.wt<0∧¬ 1000<t.wt:=by
       have:=HWR.out;rw [hs] at this;have:=this.symm;simp only [Bool.or_eq_false_iff,decide_eq_false_iff_not] at this;exact⟨this.1,this.2.1,this.2.2.1,this.2.2.2.1,this.2.2.2.2⟩
      clear HWR;clear hs ht q0 q1 q2 q3;generalize t.lo=tl at *
      generalize t.hi=th at *
      generalize t.wt=tw at *
      generalize t.ea=te at *
      go_wp2;go_roundw
      case rel=>exact⟨j+1,by omega,by go_num,FN2,BW2,FW2⟩
      case measure=>simp [intOf];omega
     ·have FS:=Lh (any_at ht hs);have E:Hid (distE x=1):=Lh (by rw [EE2.out,if_pos FS.out]);have hOR:t.lo<0∨t.hi<t.lo∨65535<t.hi∨t.wt<0∨1000<t.wt:=by
       have:=HWR.out;rw [hs] at this;have:=this.symm;simp only [Bool.or_eq_true,decide_eq_true_eq] at this;exact this
      have HOR:=Lh hOR;clear HWR hOR;clear hs ht q0 q1 q2 q3;generalize t.lo=tl at *
      generalize t.hi=th at *
      generalize t.wt=tw at *
      generalize t.ea=te at *
      by_cases r1:tl<0
      ·go_wp2;go_ret;exact tInt_mk E.out BW2.out
      ·by_cases r2:th<tl
       ·go_wp2;go_ret;exact tInt_mk E.out BW2.out
       ·by_cases r3:65535<th
        ·go_wp2;go_ret;exact tInt_mk E.out BW2.out
        ·by_cases r4:tw<0
         ·go_wp2;go_ret;exact tInt_mk E.out BW2.out
         ·have r5:1000<tw:=by
           have:=HOR.out;omega
          go_wp2;go_ret;exact tInt_mk E.out BW2.out
    ·have FN2:Hid (ws.any wrongW=false):=Lh (by have:=FN.out;rw [List.take_of_length_le (by rw [HK.out];omega)] at this;exact this);have E:Hid (distE x=if noVar nm=true then 7 else 0):=Lh (by rw [EE2.out,FN2.out];rfl);generalize noVar nm=q at *
     cases q
     ·go_wp2_with (go_at_call 166;((with_reducible refine (VC.out _).mono ?_);rintro e w1 ⟨rfl,hb1⟩;have HB1:=Lh (BW.out.then_ hb1);clear hb1))
      go_ret;exact tInt_mk (by rw [E.out];rfl) HB1.out
     ·go_wp2_with (go_at_call 166;((with_reducible refine (VC.out _).mono ?_);rintro e w1 ⟨rfl,hb1⟩;have HB1:=Lh (BW.out.then_ hb1);clear hb1))
      go_ret;exact tInt_mk (by rw [E.out];rfl) HB1.out
end ItW
namespace ItW
open Go Go.RowKit NumM LexW LexM ExM ExW ItM
open ClM (Fld)
theorem memB_at {B:List ByteArray} {s y:ByteArray} {k:Nat} (h:B[k]? = some y) (e:y.data.toList=s.data.toList):memB B s=true:=by
 unfold memB;exact List.any_eq_true.2 ⟨y,List.mem_of_getElem? h,by unfold ClM.same;rw [e];simp⟩
theorem memB_no {B:List ByteArray} {s:ByteArray} (h:∀ (i:Nat) t,i<B.length→B[i]? = some t→t.data.toList≠s.data.toList):memB B s=false:=by
 rw [Bool.eq_false_iff];intro hm;obtain⟨t,ht,e⟩:=List.any_eq_true.1 hm;obtain⟨i,hi,he⟩:=List.mem_iff_getElem.1 ht;exact h i t hi (by rw [List.getElem?_eq_getElem hi,he]) (by simpa [ClM.same] using e)
theorem boundR_any (l:List ByteArray) (v:Value) (s:ByteArray) (N:Nat) (w:World) (h:StA N w v l) :
  Calls Tryz.prog 39 #[v,.string s] w fun e w'=>e=.returned (.bool (memB l s))∧w=w':=by
 obtain⟨p,cap,rfl,hl,hcap,hz,hx⟩:=h;have HX:=Lh hx;clear hx hcap hz;obtain⟨n,hnn⟩:∃ n,l.length=n:=⟨_,rfl⟩;have HN:=Lh hnn;rw [hnn] at hl ⊢;have hn47:n≤140737488351232:=(by omega);clear hnn hl
 go_enter Tryz.func39,Tryz.ntmps39
 go_wp2;go_loop [5] (fun i=>∃ k:Nat,k≤n∧i=.int .i64 k∧Hid (∀ (j:Nat) t,j<k→l[j]? = some t→t.data.toList≠s.data.toList)) (fun i=>n - (intOf i).toNat)
 case atStart=>exact⟨0,Nat.zero_le _,rfl,Lh fun j _ h=>by omega⟩
 case round =>
  obtain⟨k,hk,rfl,NO⟩:=hrel;by_cases hlt:k<n
  ·obtain⟨b,off,rfl,_,hcell⟩:=HX.out (by rw [HN.out];omega);obtain⟨y,hyk⟩:∃ y,l[k]? = some y:=⟨_,List.getElem?_eq_getElem (by rw [HN.out];exact hlt)⟩;have ca0:=hcell k y hyk;have HY:=Lh hyk;clear hcell hyk;by_cases e:y.data.toList=s.data.toList
   ·have e1:(y.toList == s.toList)=true:=(by rw [Lib.toList_data,Lib.toList_data,e];simp);have EE:=Lh (memB_at HY.out e);clear e;go_wp2;go_ret;exact⟨retb EE.out.symm,rfl⟩
   ·have e1:(y.toList == s.toList)=false:=(by rw [Lib.toList_data,Lib.toList_data];simpa using e);have NO2:Hid (∀ (j:Nat) t,j<k+1→l[j]? = some t→t.data.toList≠s.data.toList):=Lh fun j t hj ht=>by
     rcases Nat.lt_or_ge j k with h | h
     ·exact NO.out j t h ht
     ·obtain rfl:j=k:=(by omega);rw [HY.out] at ht;cases ht;exact e
    clear e;go_wp2;go_round
    case rel=>exact⟨k+1,by omega,by go_num,NO2⟩
    case measure=>simp [intOf];omega
  ·have EE:=Lh (memB_no (s:=s) (B:=l) (fun i t hi ht=>NO.out i t (by rw [HN.out] at hi;omega) ht));go_wp2;go_ret;exact⟨retb EE.out.symm,rfl⟩
theorem szO_at {fs:List Fld} {s:ByteArray}:∀ {k:Nat} {f:Fld},fs[k]? = some f→f.nm.data.toList=s.data.toList→(∀ (j:Nat) g,j<k→fs[j]? = some g→g.nm.data.toList≠s.data.toList)→szO fs s=some f.sz:=by
 induction fs with
 | nil=>intro k f h;simp at h
 | cons a r ih =>
  intro k f h e hn;rw [szO_cons];cases k with
  | zero =>
   obtain rfl:a=f:=(by simpa using h);rw [if_pos (by unfold ClM.same;rw [e];simp)]
  | succ k =>
   rw [if_neg (by have:=hn 0 a (by omega) rfl;simpa [ClM.same] using this)];exact ih (k:=k) (by simpa using h) e fun j g hj hg=>hn (j+1) g (by omega) (by simpa using hg)
theorem szO_no {fs:List Fld} {s:ByteArray} (h:∀ (i:Nat) f,i<fs.length→fs[i]? = some f→f.nm.data.toList≠s.data.toList):szO fs s=none:=by
 induction fs with
 | nil=>rfl
 | cons a r ih =>
  rw [szO_cons,if_neg (by have:=h 0 a (by simp) rfl;simpa [ClM.same] using this)];exact ih fun i f hi hf=>h (i+1) f (by simp;omega) (by simpa using hf)
def tFld (fs:List Fld) (s:ByteArray) (w:World) (e:Ending) (w':World):Prop:=e=.returned (.tuple #[.int .i64 (szI fs s),.bool (szO fs s).isSome])∧Below w.heap.size w w'
theorem tFld_some {fs:List Fld} {s:ByteArray} {n:Int} {w w':World} (h:szO fs s=some n) (hb:Below w.heap.size w w'):tFld fs s w (.returned (.tuple #[.int .i64 n,.bool true])) w':=by
 unfold tFld szI;rw [h];exact⟨rfl,hb⟩
theorem tFld_none {fs:List Fld} {s:ByteArray} {w w':World} (h:szO fs s=none) (hb:Below w.heap.size w w'):tFld fs s w (.returned (.tuple #[.int .i64 0,.bool false])) w':=by
 unfold tFld szI;rw [h];exact⟨rfl,hb⟩
theorem fieldR_any (fs:List Fld) (cv:Value) (s:ByteArray) (N:Nat) (w:World) (hc:ClA N w cv fs) (hN:N≤w.heap.size) :
  Calls Tryz.prog 91 #[cv,.string s] w (tFld fs s w):=by
 obtain⟨cnm,par,vf,pb,kb,cb,rfl,p,cap,rfl,hl,hcap,hz,hp⟩:=hc;have HP:=Lh hp;obtain⟨K,hK⟩:∃ K,fs.length=K:=⟨_,rfl⟩;have HK:=Lh hK;rw [hK] at hl ⊢;have hk47:K≤140737488351232:=(by omega);have B0:=Blk.new w [.string cnm,.string par,.slice p K cap,.slice pb kb cb] 34;have hb0:=ba w (.cells #[.string cnm,.string par,.slice p K cap,.slice pb kb cb] 34);have d2:=B0.c 2 _ rfl;have HB:=Lh hb0;clear hK hl hp hcap hz B0 hb0
 go_enter Tryz.func91,Tryz.ntmps91
 go_wp2;obtain⟨W0,hW0⟩:∃ W0,w.alloc (.cells #[.string cnm,.string par,.slice p K cap,.slice pb kb cb] 34)=W0:=⟨_,rfl⟩;simp only [List.toArray] at d2;rw [hW0] at HB d2 ⊢;clear hW0;go_loop [6] (fun i=>∃ k:Nat,k≤K∧i=.int .i64 k∧Hid (∀ (j:Nat) f,j<k→fs[j]? = some f→f.nm.data.toList≠s.data.toList)) (fun i=>K - (intOf i).toNat)
 case atStart=>exact⟨0,Nat.zero_le _,rfl,Lh fun j _ h=>by omega⟩
 case round =>
  obtain⟨k,hk,rfl,NO⟩:=hrel;by_cases hlt:k<K
  ·obtain⟨b,off,rfl,hbN,hcell⟩:=HP.out (by rw [HK.out];omega);obtain⟨y,hyk⟩:∃ y,fs[k]? = some y:=⟨_,List.getElem?_eq_getElem (by rw [HK.out];exact hlt)⟩;obtain⟨q0,q1,q2,q3,q4⟩:=hcell k y hyk;have c0:=low_cells (HB.out.mono hN) _ _ hbN _ q0;have c2:=low_cells (HB.out.mono hN) _ _ hbN _ q2;have HY:=Lh hyk;clear hcell hyk q0 q1 q2 q3 q4;obtain⟨yn,hyn⟩:∃ x,y.nm=x:=⟨_,rfl⟩;obtain⟨ys,hys⟩:∃ x,y.sz=x:=⟨_,rfl⟩;rw [hyn] at c0;rw [hys] at c2;have HYN:=Lh hyn;have HYS:=Lh hys;clear hyn hys;by_cases e:yn.data.toList=s.data.toList
   ·have e1:(yn.toList == s.toList)=true:=(by rw [Lib.toList_data,Lib.toList_data,e];simp);have EE:Hid (szO fs s=some ys):=Lh (by rw [←HYS.out];exact szO_at HY.out (by rw [HYN.out];exact e) NO.out);clear e;go_wp2;go_ret2;exact tFld_some EE.out HB.out
   ·have e1:(yn.toList == s.toList)=false:=(by rw [Lib.toList_data,Lib.toList_data];simpa using e);have NO2:Hid (∀ (j:Nat) f,j<k+1→fs[j]? = some f→f.nm.data.toList≠s.data.toList):=Lh fun j t hj ht=>by
     rcases Nat.lt_or_ge j k with h | h
     ·exact NO.out j t h ht
     ·obtain rfl:j=k:=(by omega);rw [HY.out] at ht;cases ht;rw [HYN.out];exact e
    clear e;go_wp2;go_round
    case rel=>exact⟨k+1,by omega,by go_num,NO2⟩
    case measure=>simp [intOf];omega
  ·have EE:=Lh (szO_no (s:=s) (fs:=fs) (fun i t hi ht=>NO.out i t (by rw [HK.out] at hi;omega) ht));go_wp2;go_ret2;exact tFld_none EE.out HB.out
theorem szI_some {fs:List Fld} {s:ByteArray} {n:Int} (h:szO fs s=some n):szI fs s=n:=by unfold szI;rw [h];rfl
theorem szI_none {fs:List Fld} {s:ByteArray} (h:szO fs s=none):szI fs s=0:=by unfold szI;rw [h];rfl
theorem hasP_some {fs:List Fld} {s:ByteArray} {n:Int} (h:szO fs s=some n):hasP fs s=decide (n≤0):=by unfold hasP;rw [h]
theorem hasP_none {fs:List Fld} {s:ByteArray} (h:szO fs s=none):hasP fs s=false:=by unfold hasP;rw [h]
theorem arrayR_any (fs:List Fld) (cv:Value) (s:ByteArray) (N:Nat) (w:World) (hc:ClA N w cv fs) (hN:N≤w.heap.size) :
  Calls Tryz.prog 104 #[cv,.string s] w (tInt (arrE fs s) w):=by
 have FC:Hid (∀ W,Below w.heap.size w W→Calls Tryz.prog 91 #[cv,.string s] W (tFld fs s W)):=(Lh fun W hW=>fieldR_any fs cv s N W (hc.under (hW.mono hN)) (by have:=hW.size;omega));obtain⟨cnm,par,vf,pb,kb,cb,rfl,p,cap,rfl,_⟩:=hc;have B0:=Blk.new w [.string cnm,.string par,.slice p fs.length cap,.slice pb kb cb] 34;have hb0:=ba w (.cells #[.string cnm,.string par,.slice p fs.length cap,.slice pb kb cb] 34);have d0:=B0.c 0 _ rfl;have d1:=B0.c 1 _ rfl;have d2:=B0.c 2 _ rfl;have d3:=B0.c 3 _ rfl;have HB:=Lh hb0;have AE:Hid (arrE fs s=if hasP fs s=true then 9 else if hasA fs s=true then 0 else 7):=Lh rfl;have HA:Hid (hasA fs s=decide (0<szI fs s)):=Lh rfl;clear B0 hb0;generalize fs.length=KF at *
 cases ho:szO fs s with
 | none =>
  have E:Hid (arrE fs s=7):=Lh (by rw [AE.out,hasP_none ho,HA.out,szI_none ho];rfl);have FC2:Hid (∀ W,Below w.heap.size w W→Calls Tryz.prog 91 #[.agg #[.string cnm,.string par,.slice p KF cap,.slice pb kb cb],.string s] W fun e w'=>e=.returned (.tuple #[.int .i64 0,.bool false])∧Below W.heap.size W w'):=Lh fun W hW=>(FC.out W hW).mono fun e w' h=>by
   unfold tFld at h;rw [szI_none ho,ho] at h;exact h
  clear FC ho AE HA
  go_enter Tryz.func104,Tryz.ntmps104
  go_wp2_with (go_at_call 91;((with_reducible refine (FC2.out _ HB.out).mono ?_);rintro e w1 ⟨rfl,hb⟩;have HB1:=Lh (HB.out.then_ hb);clear hb))
  go_ret;exact tInt_mk E.out HB1.out
 | some n =>
  have FC2:Hid (∀ W,Below w.heap.size w W→Calls Tryz.prog 91 #[.agg #[.string cnm,.string par,.slice p KF cap,.slice pb kb cb],.string s] W fun e w'=>e=.returned (.tuple #[.int .i64 n,.bool true])∧Below W.heap.size W w'):=Lh fun W hW=>(FC.out W hW).mono fun e w' h=>by
   unfold tFld at h;rw [szI_some ho,ho] at h;exact h
  by_cases hn:n<1
  ·have E:Hid (arrE fs s=9):=Lh (by rw [AE.out,hasP_some ho,decide_eq_true (by omega)];rfl);clear FC ho AE HA
   go_enter Tryz.func104,Tryz.ntmps104
   go_wp2_with (go_at_call 91;((with_reducible refine (FC2.out _ HB.out).mono ?_);rintro e w1 ⟨rfl,hb⟩;have HB1:=Lh (HB.out.then_ hb);clear hb))
   go_ret;exact tInt_mk E.out HB1.out
  ·have E:Hid (arrE fs s=0):=Lh (by rw [AE.out,hasP_some ho,decide_eq_false (by omega),HA.out,szI_some ho,decide_eq_true (by omega)];rfl);clear FC ho AE HA
   go_enter Tryz.func104,Tryz.ntmps104
   go_wp2_with (go_at_call 91;((with_reducible refine (FC2.out _ HB.out).mono ?_);rintro e w1 ⟨rfl,hb⟩;have HB1:=Lh (HB.out.then_ hb);clear hb))
   go_ret;exact tInt_mk E.out HB1.out
end ItW
namespace ItW
open Go Go.RowKit Go.Shelf NumM LexW LexM ExM ExW ItM
open ClM (Fld)
theorem elm_sz (a:ByteArray) (k:Nat) (ha:a.size≤100):(elmN a k).size≤103:=by
 have h:(elmN a k).size=a.size+3:=by
  show ((a.data.toList++[91,UInt8.ofNat (48+k),93]).toArray).size=a.size+3;simp
 omega
theorem variable_any (a:ByteArray) (k:Nat) (hk:k<10) (ha:a.size≤100) (w:World) :
  Calls Tryz.prog 150 #[.string a,.int .i64 k] w fun e w'=>e=.returned (xv 2 0 (elmN a k) (.slice none 0 0))∧Below w.heap.size w w':=by
 have IC:=(fun W=>Tryz.strconv_Itoa_small k (by omega) W);rw [Lib.decDigits_one hk] at IC;have HC:=Lh (elm_cat a ⟨#[UInt8.ofNat (48+k)]⟩ k rfl);have IC:=Lh IC;obtain⟨d,hd⟩:∃ d:ByteArray,(⟨#[UInt8.ofNat (48+k)]⟩:ByteArray)=d:=⟨_,rfl⟩;have hds:d.size=1:=(by rw [←hd];rfl);rw [hd] at HC;have hd':(⟨[UInt8.ofNat (48+k)].toArray⟩:ByteArray)=d:=hd;rw [hd'] at IC;have hds2:d.size≤1:=(by omega);clear hd hd' hds;obtain⟨x,hx⟩:∃ x,elmN a k=x:=⟨_,rfl⟩;rw [hx] at HC ⊢;clear hx
 go_enter Tryz.func150,Tryz.ntmps150
 go_wp2_with (first
  | (go_at_call 176;((with_reducible refine (IC.out _).mono ?_);rintro e w1 ⟨rfl,hw⟩;subst hw)))
 rw [HC.out];refine bodyPost_ret (v:=xv 2 0 x (.slice none 0 0)) (by simp [results,Tryz.results150,go_sem]) rfl ?_;exact⟨rfl,by repeat' (first | exact Below.refl _ _ | (refine Below.alloc ?_ (by simp) _) | (refine Below.setCell (p:=⟨_,_,_⟩) ?_ (by simp) _))⟩
theorem szI_bound (fs:List Fld) (hS:∀ f∈fs,0≤f.sz∧f.sz≤8) (s:ByteArray):0≤szI fs s∧szI fs s≤8:=cntL_bound fs hS s
theorem length_any (fb:Nat) (fs:List Fld) (hS:∀ f∈fs,0≤f.sz∧f.sz≤8) (s:ByteArray) (w:World) (hf:FsA w fb fs) (hs:s.size≤140737488351232) :
  Calls Tryz.prog 152 #[.map (some fb),.string s] w fun e w'=>e=.returned (.int .i64 (szI fs s))∧w=w':=by
 have hlk:=hf.look s hs;have hb:=szI_bound fs hS s;clear hf hs hS;generalize szI fs s=z at *
 have hmin:min z 9=z:=by omega
 go_enter Tryz.func152,Tryz.ntmps152
 go_wp2;go_ret;exact⟨rfl,rfl⟩
theorem elV_fr (lo:Nat) (w:World) (a:ByteArray) (k:Nat) (ha:a.size≤100):Fr lo w (xv 2 0 (elmN a k) (.slice none 0 0)) (elV a k) :=
 fr_nil (by have:=elm_sz a k ha;omega)
def BoxE (b:Nat) (e:Ex) (W:World):Prop:=∃ p c,Four W b (.int .i64 e.op) (.int .i64 e.n) (.string e.nm) (.slice p e.args.length c)∧Fr (b+1) W (xv e.op e.n e.nm (.slice p e.args.length c)) e
theorem BoxE.push {b:Nat} {T:Ex} {w5:World} {p5:Option Addr} {c5:Nat} {N:ByteArray} (hf:Four w5 b (.int .i64 T.op) (.int .i64 T.n) (.string T.nm) (.slice p5 T.args.length c5)) (hx:Fr (b+1) w5 (xv T.op T.n T.nm (.slice p5 T.args.length c5)) T) (hu:∀ lo W,Fr lo W (xv 2 0 N (.slice none 0 0)) (.mk 2 0 N [])) (op:Int) :
  BoxE b (.mk op 0 ⟨#[]⟩ [T,.mk 2 0 N []]) (((((w5.setCell ⟨b,0,none⟩ (.int .i64 op)).setCell ⟨b,1,none⟩ (.int .i64 0)).setCell ⟨b,2,none⟩ (.string ⟨#[]⟩)).setCell ⟨b,3,none⟩ (.slice (some ⟨w5.heap.size,0,none⟩) 2 2)).alloc (.cells #[.int .i64 T.op,.int .i64 T.n,.string T.nm,.slice p5 T.args.length c5,.int .i64 2,.int .i64 0,.string N,.slice none 0 0] 43)):=by
 have hlt:=hf.lt;have h4:=hf.put (.int .i64 op) (.int .i64 0) (.string ⟨#[]⟩) (.slice (some ⟨w5.heap.size,0,none⟩) 2 2);have hx4:=fr_put4 (g:=b) hx (.int .i64 op) (.int .i64 0) (.string ⟨#[]⟩) (.slice (some ⟨w5.heap.size,0,none⟩) 2 2);have hz:((((w5.setCell ⟨b,0,none⟩ (.int .i64 op)).setCell ⟨b,1,none⟩ (.int .i64 0)).setCell ⟨b,2,none⟩ (.string ⟨#[]⟩)).setCell ⟨b,3,none⟩ (.slice (some ⟨w5.heap.size,0,none⟩) 2 2)).heap.size=w5.heap.size:=(by simp only [setCell_size]);obtain⟨V,hV⟩:∃ V,((((w5.setCell ⟨b,0,none⟩ (.int .i64 op)).setCell ⟨b,1,none⟩ (.int .i64 0)).setCell ⟨b,2,none⟩ (.string ⟨#[]⟩)).setCell ⟨b,3,none⟩ (.slice (some ⟨w5.heap.size,0,none⟩) 2 2))=V:=⟨_,rfl⟩;rw [hV] at h4 hx4 hz ⊢;have hb8:=ba V (.cells #[.int .i64 T.op,.int .i64 T.n,.string T.nm,.slice p5 T.args.length c5,.int .i64 2,.int .i64 0,.string N,.slice none 0 0] 43);have B8:=Blk.at_ hz [.int .i64 T.op,.int .i64 T.n,.string T.nm,.slice p5 T.args.length c5,.int .i64 2,.int .i64 0,.string N,.slice none 0 0] 43;refine⟨some ⟨w5.heap.size,0,none⟩,2,h4.stay hb8,?_⟩;exact two_args (T:=fun k=>b+1≤k∧k<_) (e:=.mk 2 0 N []) ⟨by omega,B8.lt⟩ B8 (hx4.later hb8) (hu _ _)
theorem sumE_step (a:ByteArray) (k:Nat) (hk:1≤k):sumE a k=.mk 7 0 ⟨#[]⟩ [sumE a (k - 1),elV a k]:=by
 obtain⟨m,rfl⟩:∃ m,k=m+1:=⟨k - 1,by omega⟩;rfl
theorem sumE_any (fb:Nat) (fs:List Fld) (hS:∀ f∈fs,0≤f.sz∧f.sz≤8) (a:ByteArray) (ha:a.size≤100) (w:World) (hf:FsA w fb fs) (h1:1≤szI fs a) :
  Calls Tryz.prog 101 #[.map (some fb),.string a] w (tFr (sumE a ((szI fs a).toNat - 1)) w):=by
 have h8:=szI_bound fs hS a;have HLN:Hid (∀ W,Below w.heap.size w W→Calls Tryz.prog 152 #[.map (some fb),.string a] W fun e w'=>e=.returned (.int .i64 (szI fs a))∧W=w'):=(Lh fun W hW=>length_any fb fs hS a W (hf.later hW) (by omega));have VC:Hid (∀ (k:Nat) W,k<10→Calls Tryz.prog 150 #[.string a,.int .i64 k] W fun e w'=>e=.returned (xv 2 0 (elmN a k) (.slice none 0 0))∧Below W.heap.size W w'):=(Lh fun k W hk=>variable_any a k hk ha W);obtain⟨n,hn⟩:∃ n:Nat,szI fs a=n:=⟨(szI fs a).toNat,by omega⟩;rw [hn] at HLN h8 h1 ⊢;rw [show ((n:Int)).toNat - 1=n - 1 by omega];have HA:=Lh ha;have hn1:1≤n:=(by omega);have hn8:n≤8:=(by omega);have V0:Hid (∀ W,Calls Tryz.prog 150 #[.string a,.int .i64 0] W fun e w'=>e=.returned (xv 2 0 (elmN a 0) (.slice none 0 0))∧Below W.heap.size W w'):=(Lh fun W=>VC.out 0 W (by omega));have hbR:=ba w (.cells #[.int .i64 0,.int .i64 0,.string ⟨#[]⟩,.slice none 0 0] 43);have FR:=Four.new w (.int .i64 0) (.int .i64 0) (.string ⟨#[]⟩) (.slice none 0 0) 43;have HBR:=Lh hbR;have HFR:=Lh FR;clear hbR FR hf hn h8 h1 hS
 go_enter Tryz.func101,Tryz.ntmps101
 go_wp2_with (first
  | (go_at_call 150;((with_reducible refine (V0.out _).mono ?_);rintro e w2 ⟨rfl,hb⟩;have HB2:=Lh (HBR.out.then_ hb);have HF2:=Lh (HFR.out.stay hb);clear hb)))
 have hbT:=ba w2 (.cells #[.int .i64 2,.int .i64 0,.string (elmN a 0),.slice none 0 0] 43);have FT:=Four.new w2 (.int .i64 2) (.int .i64 0) (.string (elmN a 0)) (.slice none 0 0) 43;have h2z:=HB2.out.size;have hzT:=World.size_alloc w2 (.cells #[.int .i64 2,.int .i64 0,.string (elmN a 0),.slice none 0 0] 43);have HFT:=Lh (HF2.out.stay hbT);have HBT:=Lh (HB2.out.then_ hbT);obtain⟨wt,hwt⟩:∃ wt,w2.alloc (.cells #[.int .i64 2,.int .i64 0,.string (elmN a 0),.slice none 0 0] 43)=wt:=⟨_,rfl⟩;rw [hwt] at hbT FT HFT HBT hzT ⊢;have BT:Hid (BoxE w2.heap.size (sumE a (1 - 1)) wt):=Lh ⟨none,0,FT,elV_fr _ _ a 0 HA.out⟩;have h2r:=HFR.out.lt;rw [World.size_alloc] at h2r;have hgr:w.heap.size<w2.heap.size:=HF2.out.lt;clear hwt hbT FT HB2 HF2 HBR HFR h2r;go_loopw [6] (fun i wr=>∃ k:Nat,1≤k∧k≤n∧i=.int .i64 k∧Hid (BoxE w2.heap.size (sumE a (k - 1)) wr)∧Hid (Four wr w.heap.size (.int .i64 0) (.int .i64 0) (.string ⟨#[]⟩) (.slice none 0 0))∧Hid (Below w.heap.size w wr)) (fun i _=>n - (intOf i).toNat)
 case atStart=>exact⟨1,Nat.le_refl _,hn1,rfl,BT,HFT,HBT⟩
 case round =>
  obtain⟨k,hk1,hkn,rfl,BX,FX,BW⟩:=hrel;have LC:=Lh (HLN.out _ BW.out);obtain⟨p5,c5,f5,x5⟩:=BX.out;have m0:=f5.c0;have m1:=f5.c1;have m2:=f5.c2;have m3:=f5.c3;by_cases hlt:k<n
  ·have VK:=Lh (fun W=>VC.out k W (by omega));have ST:=Lh (sumE_step a k hk1);have HF5:=Lh f5;have HX5:=Lh x5;have EV:=Lh (fun lo W=>elV_fr lo W a k HA.out);have hEVd:elV a k=.mk 2 0 (elmN a k) []:=rfl;rw [hEVd] at ST EV;clear f5 x5 BX hEVd;generalize sumE a (k - 1)=T at *
   generalize elmN a k=N at *
   go_wp2_with (first
    | (go_at_call 152;((with_reducible refine LC.out.mono ?_);rintro e w4 ⟨rfl,rfl⟩)))
   go_region_with (go_at_call 150;refine (VK.out _).mono ?_;rintro e w5 ⟨rfl,hb⟩;have HB5:Hid (Below wr.heap.size wr w5):=Lh (by first | exact hb | exact (Below.refl _ _).drew.trans hb);have f5:=HF5.out.stay HB5.out;have hl5:=f5.lt;have e0:=f5.c0;have e1:=f5.c1;have e2:=f5.c2;have e3:=f5.c3;have z0:=f5.f0;have z1:=f5.f1;have z2:=f5.f2;have z3:=f5.f3;have G5:=Lh f5;clear hb f5)
   all_goals
    have hz5:=HB5.out.size;go_wp2;go_roundw
    case rel=>exact⟨k+1,by omega,by omega,by go_num,Lh (by rw [show k+1 - 1=k by omega,ST.out];exact BoxE.push G5.out (HX5.out.later HB5.out) EV.out 7),Lh (((((FX.out.stay HB5.out).far (by omega)).far (by omega)).far (by omega)).far (by omega) |>.stay (ba _ _)),Lh ((below_put (BW.out.then_ HB5.out) (by omega) _ _ _ _).then_ (ba _ _))⟩
    case measure=>simp [intOf];omega
  ·have hkn2:k=n:=(by omega);have HX5:=Lh x5;have r0:=FX.out.c0;have r1:=FX.out.c1;have r2:=FX.out.c2;have r3:=FX.out.c3;have s0:=FX.out.f0;have s1:=FX.out.f1;have s2:=FX.out.f2;have s3:=FX.out.f3;have HFN:Hid (sumE a (k - 1)=sumE a (n - 1)):=Lh (by rw [hkn2]);clear f5 x5 BX hkn2;generalize sumE a (k - 1)=T at *
   go_wp2_with (first
    | (go_at_call 152;((with_reducible refine LC.out.mono ?_);rintro e w4 ⟨rfl,rfl⟩)))
   have hp:=FX.out.put (.int .i64 T.op) (.int .i64 T.n) (.string T.nm) (.slice p5 T.args.length c5);have p0:=hp.c0;have p1:=hp.c1;have p2:=hp.c2;have p3:=hp.c3;refine bodyPost_ret (v:=xv T.op T.n T.nm (.slice p5 T.args.length c5)) (by simp [results,Tryz.results101,go_sem,p0,p1,p2,p3]) rfl ?_;rw [←HFN.out];exact⟨_,rfl,(((((HX5.out.low (lo':=w.heap.size+1) (by omega)).set (by omega)).set (by omega)).set (by omega)).set (by omega)).low (by omega),below_put BW.out (Nat.le_refl _) _ _ _ _⟩
theorem three_args {T:Nat→Prop} {W:World} {g:Nat} {op:Int} {x y z:Ex} {p1 p2 p3:Option Addr} {c1 c2 c3:Nat} (hT:T g)
  (hB:Blk W g [.int .i64 x.op,.int .i64 x.n,.string x.nm,.slice p1 x.args.length c1,.int .i64 y.op,.int .i64 y.n,.string y.nm,.slice p2 y.args.length c2,.int .i64 z.op,.int .i64 z.n,.string z.nm,.slice p3 z.args.length c3])
  (h1:ExS T W (xv x.op x.n x.nm (.slice p1 x.args.length c1)) x) (h2:ExS T W (xv y.op y.n y.nm (.slice p2 y.args.length c2)) y) (h3:ExS T W (xv z.op z.n z.nm (.slice p3 z.args.length c3)) z) :
  ExS T W (xv op 0 ⟨#[]⟩ (.slice (some ⟨g,0,none⟩) 3 3)) (.mk op 0 ⟨#[]⟩ [x,y,z]):=by
 refine ExS.mk (ks:=[x,y,z]) (fun i=>if i=0 then p1 else if i=1 then p2 else p3) (fun i=>if i=0 then c1 else if i=1 then c2 else c3) (by decide) (by simp) (by simp) (fun _=>⟨g,0,rfl,hT,fun i a ha=>?_⟩) (fun i a ha=>?_)
 ·rcases i with _ | _ | _ | i
  ·obtain rfl:x=a:=(by simpa using ha);exact⟨hB.c 0 _ rfl,hB.c 1 _ rfl,hB.c 2 _ rfl,hB.c 3 _ rfl⟩
  ·obtain rfl:y=a:=(by simpa using ha);exact⟨hB.c 4 _ rfl,hB.c 5 _ rfl,hB.c 6 _ rfl,hB.c 7 _ rfl⟩
  ·obtain rfl:z=a:=(by simpa using ha);exact⟨hB.c 8 _ rfl,hB.c 9 _ rfl,hB.c 10 _ rfl,hB.c 11 _ rfl⟩
  ·simp at ha
 ·rcases i with _ | _ | _ | i
  ·obtain rfl:x=a:=(by simpa using ha);exact h1
  ·obtain rfl:y=a:=(by simpa using ha);exact h2
  ·obtain rfl:z=a:=(by simpa using ha);exact h3
  ·simp at ha
theorem cst_fr (lo:Nat) (w:World) (k:Int):Fr lo w (xv 1 k ⟨#[]⟩ (.slice none 0 0)) (cst k):=fr_nil (by decide)
structure RC (w:World) (b9:Nat) (c6 c9:List Value) (V:World):Prop where
 h6:Blk V w.heap.size c6
 rm:Room4 V (w.heap.size+1)
 h9:Blk V b9 c9
 n9:w.heap.size+2≤b9
 lo:Below w.heap.size w V
theorem RC.stay {w V V':World} {b9:Nat} {c6 c9:List Value} (h:RC w b9 c6 c9 V) (hb:Below V.heap.size V V'):RC w b9 c6 c9 V' :=
 ⟨h.h6.stay hb,h.rm.stay hb,h.h9.stay hb,h.n9,h.lo.trans (hb.mono h.lo.size)⟩
theorem RC.put {w V:World} {b9 i:Nat} {x:Value} {c6 c9:List Value} (h:RC w b9 c6 c9 V):RC w b9 c6 c9 (V.setCell ⟨w.heap.size+1,i,none⟩ x) :=
 ⟨h.h6.far (by omega),h.rm.put,h.h9.far (by have:=h.n9;omega),h.n9,h.lo.setCell (p:=⟨w.heap.size+1,i,none⟩) (by show w.heap.size≤w.heap.size+1;omega) _⟩
abbrev SC (w:World) (b9 b6:Nat) (o n:Int) (s:ByteArray) (x:Value) (V:World):Prop :=
 V.cell? ⟨w.heap.size,0,none⟩=some (.int .i64 o)∧V.cell? ⟨w.heap.size,1,none⟩=some (.int .i64 n)∧V.cell? ⟨w.heap.size,2,none⟩=some (.string s)∧V.cell? ⟨w.heap.size,3,none⟩=some x ∧
  V.cell? ⟨b9,0,none⟩=some (.int .i64 15)∧V.cell? ⟨b9,1,none⟩=some (.int .i64 0)∧V.cell? ⟨b9,2,none⟩=some (.string ⟨#[]⟩)∧V.cell? ⟨b9,3,none⟩=some (.slice (some ⟨b6,0,none⟩) 2 2) ∧
  RC w b9 [.int .i64 o,.int .i64 n,.string s,x] [.int .i64 15,.int .i64 0,.string ⟨#[]⟩,.slice (some ⟨b6,0,none⟩) 2 2] V
theorem SC.r {w:World} {b9 b6:Nat} {o n:Int} {s:ByteArray} {x:Value} {V:World} (h:SC w b9 b6 o n s x V):RC w b9 [.int .i64 o,.int .i64 n,.string s,x] [.int .i64 15,.int .i64 0,.string ⟨#[]⟩,.slice (some ⟨b6,0,none⟩) 2 2] V:=h.2.2.2.2.2.2.2.2
theorem SC.of {w:World} {b9 b6:Nat} {o n:Int} {s:ByteArray} {x:Value} {V:World} (h:RC w b9 [.int .i64 o,.int .i64 n,.string s,x] [.int .i64 15,.int .i64 0,.string ⟨#[]⟩,.slice (some ⟨b6,0,none⟩) 2 2] V):SC w b9 b6 o n s x V :=
 ⟨h.h6.c 0 _ rfl,h.h6.c 1 _ rfl,h.h6.c 2 _ rfl,h.h6.c 3 _ rfl,h.h9.c 0 _ rfl,h.h9.c 1 _ rfl,h.h9.c 2 _ rfl,h.h9.c 3 _ rfl,h⟩
theorem choice_any (fb:Nat) (fs:List Fld) (hS:∀ f∈fs,0≤f.sz∧f.sz≤8) (a:ByteArray) (ha:a.size≤100) (n:Nat) (hn:szI fs a=n) (i:Ex) (hsz:sz i≤10000) (N:Nat):∀ (m k:Nat) (vi:Value) (w:World),k+m=n→FsA w fb fs→ExAt N w vi i→N≤w.heap.size →
  Calls Tryz.prog 151 #[.map (some fb),.string a,vi,.int .i64 k] w (tFr (choE a i k m) w):=by
 have h8:=szI_bound fs hS a;rw [hn] at h8;have hn8:n≤8:=(by omega);have LEN:Hid (∀ W,FsA W fb fs→Calls Tryz.prog 152 #[.map (some fb),.string a] W fun e w'=>e=.returned (.int .i64 n)∧W=w'):=(Lh fun W hW=>hn ▸ length_any fb fs hS a W hW (by omega));have HA:=Lh ha;clear h8 hn;intro m;induction m with
 | zero =>
  intro k vi w hk hf hx hN;obtain⟨p,cap,pl,cl,rfl,hs,_⟩:=hx.form;obtain rfl:k=n:=(by omega);have F0:=Four.new w (.int .i64 i.op) (.int .i64 i.n) (.string i.nm) (.slice p i.args.length cap) 43;have hb1:=ba w (.cells #[.int .i64 i.op,.int .i64 i.n,.string i.nm,.slice p i.args.length cap] 43);have hb2:=hb1.then_ (ba _ (.cells #[.int .i64 0,.int .i64 0,.string ⟨#[]⟩,.slice none 0 0] 43));have F1:=Four.new (w.alloc (.cells #[.int .i64 i.op,.int .i64 i.n,.string i.nm,.slice p i.args.length cap] 43)) (.int .i64 0) (.int .i64 0) (.string ⟨#[]⟩) (.slice none 0 0) 43;rw [World.size_alloc] at F1;obtain⟨W0,hW0⟩:∃ W0,(w.alloc (.cells #[.int .i64 i.op,.int .i64 i.n,.string i.nm,.slice p i.args.length cap] 43)).alloc (.cells #[.int .i64 0,.int .i64 0,.string ⟨#[]⟩,.slice none 0 0] 43)=W0:=⟨_,rfl⟩;have LC:=Lh (LEN.out W0 (by rw [←hW0];exact hf.later hb2));have KC:=Lh (constant_any 0 W0);rw [hW0] at F1 hb2;have HB2:=Lh hb2;have HF1:=Lh F1;clear F0 hb1 hb2 F1 hf hx hs
  go_enter Tryz.func151,Tryz.ntmps151
  go_wp2_with fail
  clear hW0;go_wp2_with (first
   | (go_at_call 152;((with_reducible refine LC.out.mono ?_);rintro e w4 ⟨rfl,rfl⟩))
   | (go_at_call 135;((with_reducible refine KC.out.mono ?_);rintro e w5 ⟨rfl,hb⟩;have f5:=HF1.out.stay hb;have e0:=f5.c0;have e1:=f5.c1;have e2:=f5.c2;have e3:=f5.c3;have z0:=f5.f0;have z1:=f5.f1;have z2:=f5.f2;have z3:=f5.f3;have G5:=Lh f5;have HB5:=Lh (HB2.out.then_ hb);clear hb f5)))
  have hp:=G5.out.put (.int .i64 1) (.int .i64 0) (.string ⟨#[]⟩) (.slice none 0 0);have p0:=hp.c0;have p1:=hp.c1;have p2:=hp.c2;have p3:=hp.c3;refine bodyPost_ret (v:=xv 1 0 ⟨#[]⟩ (.slice none 0 0)) (by simp [results,Tryz.results151,go_sem,p0,p1,p2,p3]) rfl ?_;exact⟨_,rfl,cst_fr _ _ 0,below_put HB5.out (by omega) _ _ _ _⟩
 | succ m ih =>
  intro k vi w hk hf hx hN;obtain⟨p,cap,pl,cl,rfl,hs,_⟩:=hx.form;have hkn:((k:Int) == (n:Int))=false:=(by rw [beq_eq_false_iff_ne];omega);have hk8:k≤8:=(by omega);have hwr:IntKind.i64.wrap ((k:Int)+1)=(k:Int)+1:=IntWalk.i64_in _ (by omega);have F0:=Four.new w (.int .i64 i.op) (.int .i64 i.n) (.string i.nm) (.slice p i.args.length cap) 43;have B0:=Blk.new w [.int .i64 i.op,.int .i64 i.n,.string i.nm,.slice p i.args.length cap] 43;have hb1:=ba w (.cells #[.int .i64 i.op,.int .i64 i.n,.string i.nm,.slice p i.args.length cap] 43);have hbz:=ba (w.alloc (.cells #[.int .i64 i.op,.int .i64 i.n,.string i.nm,.slice p i.args.length cap] 43)) (.cells #[.int .i64 0,.int .i64 0,.string ⟨#[]⟩,.slice none 0 0] 43);have hb2:=hb1.then_ hbz;have B1:=Blk.new (w.alloc (.cells #[.int .i64 i.op,.int .i64 i.n,.string i.nm,.slice p i.args.length cap] 43)) [.int .i64 0,.int .i64 0,.string ⟨#[]⟩,.slice none 0 0] 43;have hsz2:((w.alloc (.cells #[.int .i64 i.op,.int .i64 i.n,.string i.nm,.slice p i.args.length cap] 43)).alloc (.cells #[.int .i64 0,.int .i64 0,.string ⟨#[]⟩,.slice none 0 0] 43)).heap.size=w.heap.size+1+1:=(by rw [World.size_alloc,World.size_alloc]);rw [World.size_alloc] at B1;have B0:=B0.stay hbz;obtain⟨W0,hW0⟩:∃ W0,(w.alloc (.cells #[.int .i64 i.op,.int .i64 i.n,.string i.nm,.slice p i.args.length cap] 43)).alloc (.cells #[.int .i64 0,.int .i64 0,.string ⟨#[]⟩,.slice none 0 0] 43)=W0:=⟨_,rfl⟩;have LC:=Lh (LEN.out W0 (by rw [←hW0];exact hf.later hb2));simp only [List.toArray] at B0 B1;rw [hW0] at B0 B1 hb2 hsz2;have hxi:∀ V,Below w.heap.size w V→ExAt N V (xv i.op i.n i.nm (.slice p i.args.length cap)) i:=(fun V hV=>hx.under (hV.mono hN));have HXI:=Lh hxi;have CL:=Lh (cloneI_any i N W0 _ (hxi W0 hb2) (by omega) hsz);have KC:Hid (∀ W,Calls Tryz.prog 135 #[.int .i64 k] W fun e w'=>e=.returned (xv 1 k ⟨#[]⟩ (.slice none 0 0))∧Below W.heap.size W w'):=(Lh fun W=>constant_any k W);have VC:Hid (∀ W,Calls Tryz.prog 150 #[.string a,.int .i64 k] W fun e w'=>e=.returned (xv 2 0 (elmN a k) (.slice none 0 0))∧Below W.heap.size W w'):=(Lh fun W=>variable_any a k (by omega) HA.out W);have CH:Hid (∀ V,Below w.heap.size w V→Calls Tryz.prog 151 #[.map (some fb),.string a,xv i.op i.n i.nm (.slice p i.args.length cap),.int .i64 ((k:Int)+1)] V (tFr (choE a i (k+1) m) V)):=(Lh fun V hV=>ih (k+1) _ V (by omega) (hf.later hV) (hxi V hV) (by have:=hV.size;omega));have EV:=Lh (fun lo W=>elV_fr lo W a k HA.out);have HB2:=Lh hb2;have HB0:=Lh B0;have HB1:=Lh B1;have EE:Hid (choE a i k (m+1)=.mk 22 0 ⟨#[]⟩ [.mk 15 0 ⟨#[]⟩ [i,cst k],elV a k,choE a i (k+1) m]):=Lh rfl;have hEVd:elV a k=.mk 2 0 (elmN a k) []:=rfl;rw [hEVd] at EE EV;have c0:=B0.c 0 _ rfl;have c1:=B0.c 1 _ rfl;have c2:=B0.c 2 _ rfl;have c3:=B0.c 3 _ rfl;clear F0 hb1 hbz hb2 B0 B1 hf hx hs hxi LEN hEVd ih;generalize choE a i (k+1) m=C at *
  generalize choE a i k (m+1)=R at *
  generalize elmN a k=M at *
  go_enter Tryz.func151,Tryz.ntmps151
  go_wp2_with fail
  clear hW0;go_wp2_with (first
   | (go_at_call 152;((with_reducible refine LC.out.mono ?_);rintro e w4 ⟨rfl,rfl⟩))
   | (go_at_call 88;((with_reducible refine CL.out.mono ?_);rintro e w5 ⟨v5,rfl,hfr5,hb5⟩;obtain⟨p5,c5,rfl,h5s,h5c⟩:=hfr5.form;have HFR5:=Lh hfr5;have HB5:=Lh hb5;clear hb5 hfr5))
   | (go_at_call 135;((with_reducible refine (KC.out _).mono ?_);rintro e w6 ⟨rfl,hb⟩;have HB6:=Lh hb;clear hb)))
  have hs5:=HB5.out.size;have hs6:=HB6.out.size;have b8:=ba w6 (.cells #[.int .i64 i.op,.int .i64 i.n,.string i.nm,.slice p5 i.args.length c5,.int .i64 1,.int .i64 k,.string ⟨#[]⟩,.slice none 0 0] 43);have b9:=ba (w6.alloc (.cells #[.int .i64 i.op,.int .i64 i.n,.string i.nm,.slice p5 i.args.length c5,.int .i64 1,.int .i64 k,.string ⟨#[]⟩,.slice none 0 0] 43)) (.cells #[.int .i64 15,.int .i64 0,.string ⟨#[]⟩,.slice (some ⟨w6.heap.size,0,none⟩) 2 2] 43);have B8:=(Blk.new w6 [.int .i64 i.op,.int .i64 i.n,.string i.nm,.slice p5 i.args.length c5,.int .i64 1,.int .i64 k,.string ⟨#[]⟩,.slice none 0 0] 43).stay b9;have B9:=Blk.new (w6.alloc (.cells #[.int .i64 i.op,.int .i64 i.n,.string i.nm,.slice p5 i.args.length c5,.int .i64 1,.int .i64 k,.string ⟨#[]⟩,.slice none 0 0] 43)) [.int .i64 15,.int .i64 0,.string ⟨#[]⟩,.slice (some ⟨w6.heap.size,0,none⟩) 2 2] 43;have z8:=World.size_alloc w6 (.cells #[.int .i64 i.op,.int .i64 i.n,.string i.nm,.slice p5 i.args.length c5,.int .i64 1,.int .i64 k,.string ⟨#[]⟩,.slice none 0 0] 43);rw [z8] at B9;simp only [List.toArray] at B8 B9;have b69:=b8.then_ b9;obtain⟨W7,hW7⟩:∃ W7,(w6.alloc (.cells #[.int .i64 i.op,.int .i64 i.n,.string i.nm,.slice p5 i.args.length c5,.int .i64 1,.int .i64 k,.string ⟨#[]⟩,.slice none 0 0] 43)).alloc (.cells #[.int .i64 15,.int .i64 0,.string ⟨#[]⟩,.slice (some ⟨w6.heap.size,0,none⟩) 2 2] 43)=W7:=⟨_,rfl⟩;rw [hW7] at B8 B9 b69 ⊢;clear hW7 b8 b9 z8 c0 c1 c2 c3;have b57:=HB6.out.then_ b69;have b07:=HB5.out.then_ b57;have FH:Fr (w.heap.size+2) W7 (xv 15 0 ⟨#[]⟩ (.slice (some ⟨w6.heap.size,0,none⟩) 2 2)) (.mk 15 0 ⟨#[]⟩ [i,cst k]) :=
   two_args (T:=fun b=>w.heap.size+2≤b∧b<W7.heap.size) (c:=i) (e:=cst k) ⟨by omega,B8.lt⟩ B8 ((HFR5.out.later b57).low (by omega)) (cst_fr _ _ _)
  have HFH:=Lh FH;have k0:=SC.of (w:=w) (RC.mk (HB0.out.stay b07) (Room4.of (HB1.out.stay b07)) B9 (by omega) (HB2.out.then_ b07));have EC:Hid (∀ V V',SC w (w6.heap.size+1) w6.heap.size i.op i.n i.nm (.slice p i.args.length cap) V→Below V.heap.size V V'→SC w (w6.heap.size+1) w6.heap.size i.op i.n i.nm (.slice p i.args.length cap) V'):=(Lh fun V V' h hb=>SC.of (h.r.stay hb));have EC2:Hid (∀ V x0 x1 x2 x3,SC w (w6.heap.size+1) w6.heap.size i.op i.n i.nm (.slice p i.args.length cap) V→SC w (w6.heap.size+1) w6.heap.size i.op i.n i.nm (.slice p i.args.length cap) ((((V.setCell ⟨w.heap.size+1,0,none⟩ x0).setCell ⟨w.heap.size+1,1,none⟩ x1).setCell ⟨w.heap.size+1,2,none⟩ x2).setCell ⟨w.heap.size+1,3,none⟩ x3)):=(Lh fun V x0 x1 x2 x3 h=>SC.of h.r.put.put.put.put);have k1:=EC.out _ W7.drew k0 (Below.refl _ _).drew
  have KV:Hid (∀ V,SC w (w6.heap.size+1) w6.heap.size i.op i.n i.nm (.slice p i.args.length cap) V→Calls Tryz.prog 150 #[.string a,.int .i64 k] V fun e w'=>e=.returned (xv 2 0 M (.slice none 0 0))∧SC w (w6.heap.size+1) w6.heap.size i.op i.n i.nm (.slice p i.args.length cap) w'∧Hid (Below V.heap.size V w')) :=
   Lh fun V h=>(VC.out V).mono fun e w' ⟨h1,h2⟩=>⟨h1,EC.out _ _ h h2,Lh h2⟩
  have KH:Hid (∀ V,SC w (w6.heap.size+1) w6.heap.size i.op i.n i.nm (.slice p i.args.length cap) V→Calls Tryz.prog 151 #[.map (some fb),.string a,xv i.op i.n i.nm (.slice p i.args.length cap),.int .i64 ((k:Int)+1)] V fun e w'=>∃ q c,e=.returned (xv C.op C.n C.nm (.slice q C.args.length c))∧SC w (w6.heap.size+1) w6.heap.size i.op i.n i.nm (.slice p i.args.length cap) w'∧Hid (Fr (w.heap.size+2) w' (xv C.op C.n C.nm (.slice q C.args.length c)) C)∧Hid (Below V.heap.size V w')) :=
   Lh fun V h=>(CH.out V h.r.lo).mono fun e w' ⟨v,h1,h2,h3⟩=>by
    obtain⟨q,c,rfl,_⟩:=h2.form;exact⟨q,c,h1,EC.out _ _ h h3,Lh (h2.low (by have:=h.r.rm.lt;omega)),Lh h3⟩
  clear VC CH b57 b07 b69 B8 B9 FH HFR5 HB0 HB1 HB5 HB6 HB2 KC CL LC HXI;generalize i.op=o at *
  generalize i.n=nn at *
  generalize i.nm=s at *
  generalize i.args.length=K at *
  go_region_held3 (fun V=>V.cell? ⟨w.heap.size,0,none⟩=some (.int .i64 o)∧V.cell? ⟨w.heap.size,1,none⟩=some (.int .i64 nn)∧V.cell? ⟨w.heap.size,2,none⟩=some (.string s)∧V.cell? ⟨w.heap.size,3,none⟩=some (.slice p K cap) ∧
   V.cell? ⟨w6.heap.size+1,0,none⟩=some (.int .i64 15)∧V.cell? ⟨w6.heap.size+1,1,none⟩=some (.int .i64 0)∧V.cell? ⟨w6.heap.size+1,2,none⟩=some (.string ⟨#[]⟩)∧V.cell? ⟨w6.heap.size+1,3,none⟩=some (.slice (some ⟨w6.heap.size,0,none⟩) 2 2) ∧
   RC w (w6.heap.size+1) [.int .i64 o,.int .i64 nn,.string s,.slice p K cap] [.int .i64 15,.int .i64 0,.string ⟨#[]⟩,.slice (some ⟨w6.heap.size,0,none⟩) 2 2] V)
   (first | with_reducible assumption | (refine EC.out _ _ ?_ (ba _ _);with_reducible assumption) | (refine EC.out _ _ (EC2.out _ _ _ _ _ ?_) (ba _ _);with_reducible assumption) | (refine EC2.out _ _ _ _ _ (EC.out _ _ ?_ (ba _ _));with_reducible assumption) | fail)
   (first
    | (go_at_call 150;(with_reducible refine (KV.out _ ?_).mono ?_);assumption;rintro x w8 ⟨rfl,hg8,hb8⟩)
    | (go_at_call 151;(with_reducible refine (KH.out _ ?_).mono ?_);assumption;rintro x w9 ⟨q9,c9,rfl,hg9,hf9,hb9⟩;have hl9:=hg9.r.rm.lt;obtain⟨z0,z1,z2,z3,⟨_,y0⟩,⟨_,y1⟩,⟨_,y2⟩,⟨_,y3⟩⟩:=hg9.r.rm.facts))
  all_goals
   have hb79:Below W7.heap.size W7 w9:=(Below.refl _ _).drew.trans (hb8.out.then_ hb9.out);have HP:=hg9.r.rm.cells (.int .i64 22) (.int .i64 0) (.string ⟨#[]⟩) (.slice (some ⟨w9.heap.size,0,none⟩) 3 3);have hl:=((hg9.r.put (i:=0) (x:=.int .i64 22)).put (i:=1) (x:=.int .i64 0)).put (i:=2) (x:=.string ⟨#[]⟩);have hlo:=(hl.put (i:=3) (x:=.slice (some ⟨w9.heap.size,0,none⟩) 3 3)).lo;have hfh:=fr_put4 (g:=w.heap.size+1) (HFH.out.later hb79) (.int .i64 22) (.int .i64 0) (.string ⟨#[]⟩) (.slice (some ⟨w9.heap.size,0,none⟩) 3 3);have hfc:=fr_put4 (g:=w.heap.size+1) hf9.out (.int .i64 22) (.int .i64 0) (.string ⟨#[]⟩) (.slice (some ⟨w9.heap.size,0,none⟩) 3 3);have hz:((((w9.setCell ⟨w.heap.size+1,0,none⟩ (.int .i64 22)).setCell ⟨w.heap.size+1,1,none⟩ (.int .i64 0)).setCell ⟨w.heap.size+1,2,none⟩ (.string ⟨#[]⟩)).setCell ⟨w.heap.size+1,3,none⟩ (.slice (some ⟨w9.heap.size,0,none⟩) 3 3)).heap.size=w9.heap.size:=(by simp only [setCell_size]);clear hl;go_wp2;clear KV KH EC EC2 k0 k1 hg8 hg9 hf9 HFH hb79;obtain⟨V,hV⟩:∃ V,((((w9.setCell ⟨w.heap.size+1,0,none⟩ (.int .i64 22)).setCell ⟨w.heap.size+1,1,none⟩ (.int .i64 0)).setCell ⟨w.heap.size+1,2,none⟩ (.string ⟨#[]⟩)).setCell ⟨w.heap.size+1,3,none⟩ (.slice (some ⟨w9.heap.size,0,none⟩) 3 3))=V:=⟨_,rfl⟩;rw [hV] at HP hlo hfh hfc hz ⊢;clear hV;have bx:=ba V (.cells #[.int .i64 15,.int .i64 0,.string ⟨#[]⟩,.slice (some ⟨w6.heap.size,0,none⟩) 2 2,.int .i64 2,.int .i64 0,.string M,.slice none 0 0,.int .i64 C.op,.int .i64 C.n,.string C.nm,.slice q9 C.args.length c9] 43);have Bx:=Blk.at_ hz [.int .i64 15,.int .i64 0,.string ⟨#[]⟩,.slice (some ⟨w6.heap.size,0,none⟩) 2 2,.int .i64 2,.int .i64 0,.string M,.slice none 0 0,.int .i64 C.op,.int .i64 C.n,.string C.nm,.slice q9 C.args.length c9] 43;have hr:=three_args (T:=fun b=>w.heap.size+1+1≤b∧b<_) (op:=22) (x:=.mk 15 0 ⟨#[]⟩ [i,cst k]) (y:=.mk 2 0 M []) (z:=C) ⟨by omega,Bx.lt⟩ Bx (hfh.later bx) (EV.out _ _) (hfc.later bx);have hp:=HP.stay bx;have p0:=hp.c 0 _ rfl;have p1:=hp.c 1 _ rfl;have p2:=hp.c 2 _ rfl;have p3:=hp.c 3 _ rfl;rw [EE.out];exact bodyPost_ret (v:=xv 22 0 ⟨#[]⟩ (.slice (some ⟨w9.heap.size,0,none⟩) 3 3)) (by simp [results,Tryz.results151,go_sem,p0,p1,p2,p3]) rfl ⟨_,rfl,Fr.low hr (by omega),hlo.then_ bx⟩
end ItW
namespace ItW
open Go Go.RowKit NumM LexW LexM ExM ExW ItM
open ClM (Fld)
theorem isE_name {s:ByteArray} (h:nmB s.data.toList=true):isE s=false:=by
 rw [Bool.eq_false_iff];intro he;obtain⟨d,e,_⟩:=elm_parts he;refine nm_no h ?_;rw [e];simp
theorem szO_mem {fs:List Fld} {s:ByteArray} {n:Int} (h:szO fs s=some n):∃ f∈fs,f.nm=s∧f.sz=n:=by
 unfold szO at h;obtain⟨f,hf,rfl⟩:=Option.map_eq_some_iff.1 h;exact⟨f,List.mem_of_find?_eq_some hf,ClM.same_iff.1 (by simpa using List.find?_some hf),rfl⟩
theorem cutK_pos (s:ByteArray):0≤cutK s:=by unfold cutK;omega
theorem variableR_any (fs:List Fld) (hNm:∀ f∈fs,nmB f.nm.data.toList=true) (cv:Value) (s:ByteArray) (N:Nat) (w:World) (hc:ClA N w cv fs) (hN:N≤w.heap.size) (hs:s.size≤140737488351232) :
  Calls Tryz.prog 103 #[cv,.string s] w (tInt (varE fs s) w):=by
 have FC:Hid (∀ W t,Below w.heap.size w W→Calls Tryz.prog 91 #[cv,.string t] W (tFld fs t W)):=(Lh fun W t hW=>fieldR_any fs cv t N W (hc.under (hW.mono hN)) (by have:=hW.size;omega));have SC:Hid (∀ W,Calls Tryz.prog 154 #[.string s] W (tSplitV s (isE s) W)):=(Lh fun W=>splitV_any s W hs);obtain⟨cnm,par,vf,pb,kb,cb,rfl,p,cap,rfl,_⟩:=hc;have B0:=Blk.new w [.string cnm,.string par,.slice p fs.length cap,.slice pb kb cb] 34;have hb0:=ba w (.cells #[.string cnm,.string par,.slice p fs.length cap,.slice pb kb cb] 34);have d0:=B0.c 0 _ rfl;have d1:=B0.c 1 _ rfl;have d2:=B0.c 2 _ rfl;have d3:=B0.c 3 _ rfl;have HB:=Lh hb0;have H0:=Lh B0;have VE:Hid (varE fs s=if (hasA fs s||misP fs s)=true then 9 else if hasV fs s=true then 0 else 7):=Lh rfl;have HA:Hid (hasA fs s=decide (0<szI fs s)):=Lh rfl;have HV:Hid (hasV fs s=(hasP fs s||(isE s&&decide (cutK s<szI fs (cutA s))))):=Lh rfl;have HM:Hid (misP fs s=(isE s&&hasP fs (cutA s))):=Lh rfl;have HI:Hid (∀ n,szO fs s=some n→isE s=false):=Lh fun n h=>by
  obtain⟨f,hf,rfl,_⟩:=szO_mem h;exact isE_name (hNm f hf)
 have hk0:=cutK_pos s;clear B0 hb0 hNm hN;generalize fs.length=KF at *
 cases ho:szO fs s with
 | some n =>
  have hI:=HI.out n ho;have F1:Hid (∀ W,Below w.heap.size w W→Calls Tryz.prog 91 #[.agg #[.string cnm,.string par,.slice p KF cap,.slice pb kb cb],.string s] W fun e w'=>e=.returned (.tuple #[.int .i64 n,.bool true])∧Below W.heap.size W w'):=Lh fun W hW=>(FC.out W s hW).mono fun e w' h=>by
   unfold tFld at h;rw [szI_some ho,ho] at h;exact h
  by_cases hn:0<n
  ·have E:Hid (varE fs s=9):=Lh (by rw [VE.out,HA.out,szI_some ho,decide_eq_true hn];rfl);clear FC SC ho VE HA HV HM HI hI
   go_enter Tryz.func103,Tryz.ntmps103
   go_wp2_with (go_at_call 91;((with_reducible refine (F1.out _ HB.out).mono ?_);rintro e w1 ⟨rfl,hb⟩;have HB1:=Lh (HB.out.then_ hb);have G:=H0.out.stay hb;clear d0 d1 d2 d3;have d0:=G.c 0 _ rfl;have d1:=G.c 1 _ rfl;have d2:=G.c 2 _ rfl;have d3:=G.c 3 _ rfl;have H0:=Lh G;clear hb G))
   go_ret;exact tInt_mk E.out HB1.out
  ·have E:Hid (varE fs s=0):=Lh (by rw [VE.out,HA.out,szI_some ho,decide_eq_false hn,HM.out,hI,HV.out,hasP_some ho,decide_eq_true (by omega)];rfl);clear FC SC ho VE HA HV HM HI hI
   go_enter Tryz.func103,Tryz.ntmps103
   go_wp2_with (go_at_call 91;((with_reducible refine (F1.out _ HB.out).mono ?_);rintro e w1 ⟨rfl,hb⟩;have HB1:=Lh (HB.out.then_ hb);have G:=H0.out.stay hb;clear d0 d1 d2 d3;have d0:=G.c 0 _ rfl;have d1:=G.c 1 _ rfl;have d2:=G.c 2 _ rfl;have d3:=G.c 3 _ rfl;have H0:=Lh G;clear hb G))
   go_ret;exact tInt_mk E.out HB1.out
 | none =>
  have F1:Hid (∀ W,Below w.heap.size w W→Calls Tryz.prog 91 #[.agg #[.string cnm,.string par,.slice p KF cap,.slice pb kb cb],.string s] W fun e w'=>e=.returned (.tuple #[.int .i64 0,.bool false])∧Below W.heap.size W w'):=Lh fun W hW=>(FC.out W s hW).mono fun e w' h=>by
   unfold tFld at h;rw [szI_none ho,ho] at h;exact h
  have FA2:Hid (∀ W t,Below w.heap.size w W→Calls Tryz.prog 91 #[.agg #[.string cnm,.string par,.slice p KF cap,.slice pb kb cb],.string t] W (fun e w'=>∃ a b,e=.returned (.tuple #[.int .i64 a,.bool b])∧Below W.heap.size W w')):=(Lh fun W t hW=>(FC.out W t hW).mono fun e w' h=>⟨_,_,h.1,h.2⟩);cases hE:isE s with
  | false =>
   have E:Hid (varE fs s=7):=Lh (by rw [VE.out,HA.out,szI_none ho,HM.out,hE,HV.out,hasP_none ho,hE];rfl);rw [hE] at SC;clear FC ho VE HA HV HM HI hE
   go_enter Tryz.func103,Tryz.ntmps103
   go_wp2_with (first
    | (go_at_call 91;((with_reducible refine (F1.out _ HB.out).mono ?_);rintro e w1 ⟨rfl,hb⟩;have HB1:=Lh (HB.out.then_ hb);have G:=H0.out.stay hb;clear d0 d1 d2 d3;have d0:=G.c 0 _ rfl;have d1:=G.c 1 _ rfl;have d2:=G.c 2 _ rfl;have d3:=G.c 3 _ rfl;have H0:=Lh G;clear hb G))
    | (go_at_call 154;((with_reducible refine (SC.out _).mono ?_);rintro e w2 ⟨t,i,rfl,hb,_⟩;have HB2:=Lh (HB1.out.then_ hb);have G:=H0.out.stay hb;clear d0 d1 d2 d3;have d0:=G.c 0 _ rfl;have d1:=G.c 1 _ rfl;have d2:=G.c 2 _ rfl;have d3:=G.c 3 _ rfl;have H0:=Lh G;clear hb G))
    | (go_at_call 91;((with_reducible refine (FA2.out _ _ HB2.out).mono ?_);rintro e w3 ⟨fa,fbb,rfl,hb⟩;have HB3:=Lh (HB2.out.then_ hb);clear hb)))
   go_ret;exact tInt_mk E.out HB3.out
  | true =>
   have SC2:Hid (∀ W,Calls Tryz.prog 154 #[.string s] W fun e w'=>e=.returned (.tuple #[.string (cutA s),.int .i64 (cutK s),.bool true])∧Below W.heap.size W w'):=Lh fun W=>(SC.out W).mono fun e w' h=>by
    obtain⟨t,i,h1,h2,h3⟩:=h;obtain⟨rfl,rfl⟩:=split_parts hE (h3 hE);rw [hE] at h1;exact⟨h1,h2⟩
   cases ho2:szO fs (cutA s) with
   | none =>
    have F2:Hid (∀ W,Below w.heap.size w W→Calls Tryz.prog 91 #[.agg #[.string cnm,.string par,.slice p KF cap,.slice pb kb cb],.string (cutA s)] W fun e w'=>e=.returned (.tuple #[.int .i64 0,.bool false])∧Below W.heap.size W w'):=Lh fun W hW=>(FC.out W (cutA s) hW).mono fun e w' h=>by
     unfold tFld at h;rw [szI_none ho2,ho2] at h;exact h
    have E:Hid (varE fs s=7):=Lh (by rw [VE.out,HA.out,szI_none ho,HM.out,hE,hasP_none ho2,HV.out,hasP_none ho,hE,szI_none ho2,decide_eq_false (by omega)];rfl);clear FC SC ho ho2 VE HA HV HM HI hE FA2;generalize cutA s=ca at *
    generalize cutK s=ck at *
    go_enter Tryz.func103,Tryz.ntmps103
    go_wp2_with (first
     | (go_at_call 91;((with_reducible refine (F1.out _ HB.out).mono ?_);rintro e w1 ⟨rfl,hb⟩;have HB1:=Lh (HB.out.then_ hb);have G:=H0.out.stay hb;clear d0 d1 d2 d3;have d0:=G.c 0 _ rfl;have d1:=G.c 1 _ rfl;have d2:=G.c 2 _ rfl;have d3:=G.c 3 _ rfl;have H0:=Lh G;clear hb G))
     | (go_at_call 154;((with_reducible refine (SC2.out _).mono ?_);rintro e w2 ⟨rfl,hb⟩;have HB2:=Lh (HB1.out.then_ hb);have G:=H0.out.stay hb;clear d0 d1 d2 d3;have d0:=G.c 0 _ rfl;have d1:=G.c 1 _ rfl;have d2:=G.c 2 _ rfl;have d3:=G.c 3 _ rfl;have H0:=Lh G;clear hb G))
     | (go_at_call 91;((with_reducible refine (F2.out _ HB2.out).mono ?_);rintro e w3 ⟨rfl,hb⟩;have HB3:=Lh (HB2.out.then_ hb);have G:=H0.out.stay hb;clear d0 d1 d2 d3;have d0:=G.c 0 _ rfl;have d1:=G.c 1 _ rfl;have d2:=G.c 2 _ rfl;have d3:=G.c 3 _ rfl;have H0:=Lh G;clear hb G)))
    go_ret;exact tInt_mk E.out HB3.out
   | some m =>
    have F2:Hid (∀ W,Below w.heap.size w W→Calls Tryz.prog 91 #[.agg #[.string cnm,.string par,.slice p KF cap,.slice pb kb cb],.string (cutA s)] W fun e w'=>e=.returned (.tuple #[.int .i64 m,.bool true])∧Below W.heap.size W w'):=Lh fun W hW=>(FC.out W (cutA s) hW).mono fun e w' h=>by
     unfold tFld at h;rw [szI_some ho2,ho2] at h;exact h
    by_cases hm:m<1
    ·have E:Hid (varE fs s=9):=Lh (by rw [VE.out,HA.out,szI_none ho,HM.out,hE,hasP_some ho2,decide_eq_true (show m≤0 by omega)];rfl);clear FC SC ho ho2 VE HA HV HM HI hE FA2;generalize cutA s=ca at *
     generalize cutK s=ck at *
     go_enter Tryz.func103,Tryz.ntmps103
     go_wp2_with (first
      | (go_at_call 91;((with_reducible refine (F1.out _ HB.out).mono ?_);rintro e w1 ⟨rfl,hb⟩;have HB1:=Lh (HB.out.then_ hb);have G:=H0.out.stay hb;clear d0 d1 d2 d3;have d0:=G.c 0 _ rfl;have d1:=G.c 1 _ rfl;have d2:=G.c 2 _ rfl;have d3:=G.c 3 _ rfl;have H0:=Lh G;clear hb G))
      | (go_at_call 154;((with_reducible refine (SC2.out _).mono ?_);rintro e w2 ⟨rfl,hb⟩;have HB2:=Lh (HB1.out.then_ hb);have G:=H0.out.stay hb;clear d0 d1 d2 d3;have d0:=G.c 0 _ rfl;have d1:=G.c 1 _ rfl;have d2:=G.c 2 _ rfl;have d3:=G.c 3 _ rfl;have H0:=Lh G;clear hb G))
      | (go_at_call 91;((with_reducible refine (F2.out _ HB2.out).mono ?_);rintro e w3 ⟨rfl,hb⟩;have HB3:=Lh (HB2.out.then_ hb);have G:=H0.out.stay hb;clear d0 d1 d2 d3;have d0:=G.c 0 _ rfl;have d1:=G.c 1 _ rfl;have d2:=G.c 2 _ rfl;have d3:=G.c 3 _ rfl;have H0:=Lh G;clear hb G)))
     go_ret;exact tInt_mk E.out HB3.out
    ·by_cases hk:cutK s<m
     ·have hk':¬ m≤cutK s:=(by omega);have E:Hid (varE fs s=0):=Lh (by rw [VE.out,HA.out,szI_none ho,HM.out,hE,hasP_some ho2,decide_eq_false (show ¬ m≤0 by omega),HV.out,hasP_none ho,hE,szI_some ho2,decide_eq_true hk];rfl);clear FC SC ho ho2 VE HA HV HM HI hE FA2;generalize cutA s=ca at *
      generalize cutK s=ck at *
      go_enter Tryz.func103,Tryz.ntmps103
      go_wp2_with (first
       | (go_at_call 91;((with_reducible refine (F1.out _ HB.out).mono ?_);rintro e w1 ⟨rfl,hb⟩;have HB1:=Lh (HB.out.then_ hb);have G:=H0.out.stay hb;clear d0 d1 d2 d3;have d0:=G.c 0 _ rfl;have d1:=G.c 1 _ rfl;have d2:=G.c 2 _ rfl;have d3:=G.c 3 _ rfl;have H0:=Lh G;clear hb G))
       | (go_at_call 154;((with_reducible refine (SC2.out _).mono ?_);rintro e w2 ⟨rfl,hb⟩;have HB2:=Lh (HB1.out.then_ hb);have G:=H0.out.stay hb;clear d0 d1 d2 d3;have d0:=G.c 0 _ rfl;have d1:=G.c 1 _ rfl;have d2:=G.c 2 _ rfl;have d3:=G.c 3 _ rfl;have H0:=Lh G;clear hb G))
       | (go_at_call 91;((with_reducible refine (F2.out _ HB2.out).mono ?_);rintro e w3 ⟨rfl,hb⟩;have HB3:=Lh (HB2.out.then_ hb);have G:=H0.out.stay hb;clear d0 d1 d2 d3;have d0:=G.c 0 _ rfl;have d1:=G.c 1 _ rfl;have d2:=G.c 2 _ rfl;have d3:=G.c 3 _ rfl;have H0:=Lh G;clear hb G)))
      go_ret;exact tInt_mk E.out HB3.out
     ·have hk':m≤cutK s:=(by omega);have E:Hid (varE fs s=7):=Lh (by rw [VE.out,HA.out,szI_none ho,HM.out,hE,hasP_some ho2,decide_eq_false (show ¬ m≤0 by omega),HV.out,hasP_none ho,hE,szI_some ho2,decide_eq_false hk];rfl);clear FC SC ho ho2 VE HA HV HM HI hE FA2;generalize cutA s=ca at *
      generalize cutK s=ck at *
      go_enter Tryz.func103,Tryz.ntmps103
      go_wp2_with (first
       | (go_at_call 91;((with_reducible refine (F1.out _ HB.out).mono ?_);rintro e w1 ⟨rfl,hb⟩;have HB1:=Lh (HB.out.then_ hb);have G:=H0.out.stay hb;clear d0 d1 d2 d3;have d0:=G.c 0 _ rfl;have d1:=G.c 1 _ rfl;have d2:=G.c 2 _ rfl;have d3:=G.c 3 _ rfl;have H0:=Lh G;clear hb G))
       | (go_at_call 154;((with_reducible refine (SC2.out _).mono ?_);rintro e w2 ⟨rfl,hb⟩;have HB2:=Lh (HB1.out.then_ hb);have G:=H0.out.stay hb;clear d0 d1 d2 d3;have d0:=G.c 0 _ rfl;have d1:=G.c 1 _ rfl;have d2:=G.c 2 _ rfl;have d3:=G.c 3 _ rfl;have H0:=Lh G;clear hb G))
       | (go_at_call 91;((with_reducible refine (F2.out _ HB2.out).mono ?_);rintro e w3 ⟨rfl,hb⟩;have HB3:=Lh (HB2.out.then_ hb);have G:=H0.out.stay hb;clear d0 d1 d2 d3;have d0:=G.c 0 _ rfl;have d1:=G.c 1 _ rfl;have d2:=G.c 2 _ rfl;have d3:=G.c 3 _ rfl;have H0:=Lh G;clear hb G)))
      go_ret;exact tInt_mk E.out HB3.out
end ItW
end Go.Proofs.YtpejflgdehioaaaGreatDoor
