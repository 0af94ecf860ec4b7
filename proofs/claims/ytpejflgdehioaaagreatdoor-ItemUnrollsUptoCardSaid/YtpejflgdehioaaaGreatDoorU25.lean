/-
  Laws that the card uses; no conditions beside those that each states (ItLCnt).
-/
import Derived.Test.YtpejflgdehioaaaGreatDoorU21
set_option maxRecDepth 100000
set_option maxHeartbeats 16000000
namespace Go.Proofs.YtpejflgdehioaaaGreatDoor
namespace ItW
open Go Go.RowKit Go.«Sort» NumM LexW LexM ExM ExW ItM
theorem lc_drop {l:List It} {j:Nat} {a:It} (h:l[j]? = some a) (n k:Int):lcL (l.drop j) n k=if k≤n then (if okB a=true then lcL (l.drop (j+1)) n (k+lcI a (n - k)) else n+1) else k:=by
 obtain⟨hj,he⟩:=List.getElem?_eq_some_iff.1 h;rw [List.drop_eq_getElem_cons hj,lcL_cons,he]
theorem lcount_any (l:List It):∀ (n:Int) (v:Value) (N:Nat) (w:World),-10000000000≤n→n≤70→iszs l≤2000000→ItsA N w v l→N≤w.heap.size →
  Calls Tryz.prog 34 #[v,.int .i64 n] w (ExW.tInt (lcL l n l.length) w):=by
 induction l using its_ind with
 | h l ih =>
  intro n v N w hn0 hn hz hx hN;obtain⟨p,cap,V,rfl,hr⟩:=hx.form;have hl:=hr.hl;have HR:=Lh hr;have HIH:=Lh ih;obtain⟨K,hK⟩:∃ K,l.length=K:=⟨_,rfl⟩;have HK:=Lh hK;have HD0:Hid (lcL (l.drop 0) n K=lcL l n K):=Lh rfl;have hKz:K≤2000000:=(by have:=len_iszs l;omega);rw [hK] at hl ⊢;clear hK hr ih hx;have HB0:=Lh (Below.refl w.heap.size w)
  go_enter Tryz.func34,Tryz.ntmps34
  go_wp2;go_loopw [5,6] (fun t i wr=>∃ (j:Nat) (k:Int),j≤K∧i=.int .i64 j∧t=.int .i64 k∧0≤k∧k≤1000000000∧Hid (k≤(K:Int)+73*(iszs (l.take j):Int))∧Hid (lcL (l.drop j) n k=lcL l n K)∧Hid (Below w.heap.size w wr)) (fun _ i _=>K - (intOf i).toNat)
  case atStart=>exact⟨0,K,Nat.zero_le _,rfl,rfl,by omega,by omega,Lh (by omega),HD0,HB0⟩
  case round =>
   obtain⟨j,k,hj,rfl,rfl,hk0,hk1,KB,LD,BW⟩:=hrel;by_cases hlt:j<K
   ·obtain⟨a,ha⟩:∃ a,l[j]? = some a:=⟨_,List.getElem?_eq_getElem (by rw [HK.out];exact hlt)⟩;by_cases hkn:k≤n
    ·have hbw:Below N w wr:=BW.out.mono hN;have hr2:=HR.out.under hbw;obtain⟨b,off,rfl,hb,hcell⟩:=hr2.hp (by rw [HK.out];omega);have hva:=hr2.hv j a ha;obtain⟨g0,g1,g2,g3,g4,g5,g6,g7,g8,g9,g10,g11⟩:=hcell j a ha;have hmem:=List.mem_of_getElem? ha;have hsa:=iszs_take ha;have hsb:=iszs_take_le (j+1) l;have hse:=isz_eq a;have HDR:Hid (lcL (l.drop j) n k=if okB a=true then lcL (l.drop (j+1)) n (k+lcI a (n - k)) else n+1):=Lh (by rw [lc_drop ha,if_pos hkn]);have HOK:=Lh (okB_iff (x:=a));have hnN:N≤wr.heap.size:=(by have:=BW.out.size;omega);have CI:∀ W,Below wr.heap.size wr W→Calls Tryz.prog 34 #[V j 8,.int .i64 (n - k)] W (ExW.tInt (lcL a.it (n - k) a.it.length) W):=fun W hW =>
      (HIH.out a hmem).1 (n - k) _ N W (by omega) (by omega) (by omega) (hva.its.under (hW.mono hnN)) (by have:=hW.size;omega)
     have CE:∀ W,Below wr.heap.size wr W→Calls Tryz.prog 34 #[V j 9,.int .i64 (n - k)] W (ExW.tInt (lcL a.el (n - k) a.el.length) W):=fun W hW =>
      (HIH.out a hmem).2 (n - k) _ N W (by omega) (by omega) (by omega) (hva.els.under (hW.mono hnN)) (by have:=hW.size;omega)
     have FC0:∀ W,Below wr.heap.size wr W→Calls Tryz.prog 25 #[xv a.e.op a.e.n a.e.nm (V j 4),.int .i64 60] W (tBool (decide (sz a.e≤60)) W):=fun W hW =>
      few_any a.e N 60 W _ (by decide) (hva.ex.under (hW.mono hnN)) (by have:=hW.size;omega)
     have hli:=lcI_eq a (n - k);have l1:=lc_ge a.it (n - k) a.it.length;have l2:=lc_ge a.el (n - k) a.el.length;have l3:=len_iszs a.it;have l4:=len_iszs a.el;have l5:=l1.1 (by omega);have l6:=l2.1 (by omega);have l7:=l1.2 (by omega) (by omega);have l8:=l2.2 (by omega) (by omega);have KB1:=KB.out;have KB2:Hid (k+lcI a (n - k)≤(K:Int)+73*(iszs (l.take (j+1)):Int)):=Lh (by omega);have hr1:0≤k+lcI a (n - k):=(by omega);have hr2':k+lcI a (n - k)≤1000000000:=(by omega);have hnm47:=hva.nm;have hix47:=hva.ix;obtain⟨p4,c4,p7,c7,p8,c8,p9,c9,p10,c10,p11,c11,e4,e7,e8,e9,e10,e11⟩:=hva.slices;have hw47:a.ws.length≤140737488351232∧a.bf.length≤140737488351232∧a.af.length≤140737488351232:=by
      obtain⟨_,_,_,q1,_⟩:=hva.wt;obtain⟨_,_,_,q2,_⟩:=hva.bfs;obtain⟨_,_,_,q3,_⟩:=hva.afs;omega
     rw [e4] at g4 FC0;rw [e7] at g7;rw [e8] at g8 CI;rw [e9] at g9 CE;rw [e10] at g10;rw [e11] at g11;obtain⟨A1,hA1⟩:∃ A,lcL a.it (n - k) a.it.length=A:=⟨_,rfl⟩;obtain⟨A2,hA2⟩:∃ A,lcL a.el (n - k) a.el.length=A:=⟨_,rfl⟩;rw [hA1] at CI hli l5 l7;rw [hA2] at CE hli l6 l8;have b1:0≤A1∧A1≤200000000:=(by omega);have b2:0≤A2∧A2≤200000000:=(by omega);clear l1 l2 l3 l4 l5 l6 l7 l8 hA1 hA2 KB1 hsa hsb hse hbw hcell hva e4 e7 e8 e9 e10 e11 hr2 hmem ha hz;obtain⟨k4,hk4⟩:∃ k,a.e.args.length=k:=⟨_,rfl⟩;obtain⟨k7,hk7⟩:∃ k,a.ws.length=k:=⟨_,rfl⟩;obtain⟨k8,hk8⟩:∃ k,a.it.length=k:=⟨_,rfl⟩;obtain⟨k9,hk9⟩:∃ k,a.el.length=k:=⟨_,rfl⟩;obtain⟨k10,hk10⟩:∃ k,a.bf.length=k:=⟨_,rfl⟩;obtain⟨k11,hk11⟩:∃ k,a.af.length=k:=⟨_,rfl⟩;rw [hk4] at g4 FC0;rw [hk7] at g7 HOK hw47;rw [hk8] at g8 CI;rw [hk9] at g9 CE;rw [hk10] at g10 HOK hw47;rw [hk11] at g11 HOK hw47;clear hk4 hk7 hk8 hk9 hk10 hk11;obtain⟨hw1,hw2,hw3⟩:=hw47;have HBX:=ba wr (.cells (ics a.kd a.e.op a.e.n a.e.nm (.slice p4 k4 c4) a.nm a.ix (.slice p7 k7 c7) (.slice p8 k8 c8) (.slice p9 k9 c9) (.slice p10 k10 c10) (.slice p11 k11 c11)).toArray 55);have HB1:=Lh (BW.out.then_ HBX);have bk:=Blk.new wr (ics a.kd a.e.op a.e.n a.e.nm (.slice p4 k4 c4) a.nm a.ix (.slice p7 k7 c7) (.slice p8 k8 c8) (.slice p9 k9 c9) (.slice p10 k10 c10) (.slice p11 k11 c11)) 55;have HK1:=Lh bk;have FC:=Lh (FC0 _ HBX);have d1:=bk.c 1 _ rfl;have d2:=bk.c 2 _ rfl;have d3:=bk.c 3 _ rfl;have d4:=bk.c 4 _ rfl;clear FC0;generalize hU:decide (sz a.e≤60)=u at *
     generalize a.kd=kd at *
     generalize a.e.op=eo at *
     generalize a.e.n=en at *
     generalize a.e.nm=enm at *
     generalize a.nm=anm at *
     generalize a.ix=aix at *
     have HBX:=Lh HBX;have HOK2:Hid (okB a=true↔u=true∧k7≤20∧k10≤20∧k11≤20∧anm.size≤40∧aix.size≤40):=Lh (by rw [HOK.out,←hU,decide_eq_true_eq]);clear HOK hU bk;by_cases hok:u=true∧k7≤20∧k10≤20∧k11≤20∧anm.size≤40∧aix.size≤40
     ·have HD:Hid (lcL (l.drop (j+1)) n (k+lcI a (n - k))=lcL l n K):=Lh (by rw [←LD.out,HDR.out,if_pos (HOK2.out.2 hok)]);obtain⟨rfl,h7,h10,h11,hnm,hix⟩:=hok;clear HDR HOK2 LD KB;go_wp2_with (go_at_call 25;((with_reducible refine FC.out.mono ?_);rintro e w1 ⟨rfl,hb⟩;have HB2:=Lh (HB1.out.then_ hb);have HK2:=Lh (HK1.out.stay hb);have HZ2:=Lh (HBX.out.then_ hb);clear hb d1 d2 d3 d4;have d5:=HK2.out.c 5 _ rfl;have d6:=HK2.out.c 6 _ rfl;have d7:=HK2.out.c 7 _ rfl;have d8:=HK2.out.c 8 _ rfl;have d9:=HK2.out.c 9 _ rfl;have d10:=HK2.out.c 10 _ rfl;have d11:=HK2.out.c 11 _ rfl))
      have E1:=reB (v:=.int .i64 A1) (fun W hW=>CI W (HZ2.out.then_ hW));have E2:=reB (v:=.int .i64 A2) (fun W hW=>CE W (HZ2.out.then_ hW));have m8:=cell_regrown d8;have m9:=cell_regrown d9;clear CI CE;refine wp_region_quiet_below (by kernel_rfl) (by kernel_rfl) ?_;repeat (first | go_big_quiet_step ((go_at_call 34;first | with_reducible exact E1 _ _ | with_reducible exact E2 _ _)) | quiet_step ((go_at_call 34;first | with_reducible exact E1 _ _ | with_reducible exact E2 _ _)))
      refine wpQuiet_nil ?_;intro w4 hw';obtain⟨pq,hw''⟩:=hw';have HX:=Lh (HB2.out.then_ (by rw [hw''];exact below_regrown _ _ _:Below _ _ w4));have HLI:Hid (k+A1+A2=k+lcI a (n - k)):=Lh (by omega);clear hw'' E1 E2 m8 m9;go_wp2;go_roundw
      case rel=>exact⟨j+1,k+lcI a (n - k),by omega,by go_num,by rw [←HLI.out],hr1,hr2',KB2,HD,HX⟩
      case measure=>simp [intOf];omega
     ·have HD:Hid (n+1=lcL l n K):=Lh (by rw [←LD.out,HDR.out,if_neg (fun h=>hok (HOK2.out.1 h))]);clear HDR HOK2 LD KB KB2 CI CE hr1 hr2' hli b1 b2;cases u
      ·clear hok;go_wp2_with (go_at_call 25;((with_reducible refine FC.out.mono ?_);rintro e w1 ⟨rfl,hb⟩;have HB2:=Lh (HB1.out.then_ hb);have HK2:=Lh (HK1.out.stay hb);have HZ2:=Lh (HBX.out.then_ hb);clear hb d1 d2 d3 d4;have d5:=HK2.out.c 5 _ rfl;have d6:=HK2.out.c 6 _ rfl;have d7:=HK2.out.c 7 _ rfl;have d8:=HK2.out.c 8 _ rfl;have d9:=HK2.out.c 9 _ rfl;have d10:=HK2.out.c 10 _ rfl;have d11:=HK2.out.c 11 _ rfl))
       go_ret;exact ExW.tInt_mk HD.out HB2.out
      ·have hok:¬ (k7≤20∧k10≤20∧k11≤20∧anm.size≤40∧aix.size≤40):=(fun h=>hok ⟨rfl,h⟩);by_cases h0:k7≤20
       case neg =>
        clear hok;go_wp2_with (go_at_call 25;((with_reducible refine FC.out.mono ?_);rintro e w1 ⟨rfl,hb⟩;have HB2:=Lh (HB1.out.then_ hb);have HK2:=Lh (HK1.out.stay hb);have HZ2:=Lh (HBX.out.then_ hb);clear hb d1 d2 d3 d4;have d5:=HK2.out.c 5 _ rfl;have d6:=HK2.out.c 6 _ rfl;have d7:=HK2.out.c 7 _ rfl;have d8:=HK2.out.c 8 _ rfl;have d9:=HK2.out.c 9 _ rfl;have d10:=HK2.out.c 10 _ rfl;have d11:=HK2.out.c 11 _ rfl))
        go_ret;exact ExW.tInt_mk HD.out HB2.out
       by_cases h1:k10≤20
       case neg =>
        clear hok;go_wp2_with (go_at_call 25;((with_reducible refine FC.out.mono ?_);rintro e w1 ⟨rfl,hb⟩;have HB2:=Lh (HB1.out.then_ hb);have HK2:=Lh (HK1.out.stay hb);have HZ2:=Lh (HBX.out.then_ hb);clear hb d1 d2 d3 d4;have d5:=HK2.out.c 5 _ rfl;have d6:=HK2.out.c 6 _ rfl;have d7:=HK2.out.c 7 _ rfl;have d8:=HK2.out.c 8 _ rfl;have d9:=HK2.out.c 9 _ rfl;have d10:=HK2.out.c 10 _ rfl;have d11:=HK2.out.c 11 _ rfl))
        go_ret;exact ExW.tInt_mk HD.out HB2.out
       by_cases h2:k11≤20
       case neg =>
        clear hok;go_wp2_with (go_at_call 25;((with_reducible refine FC.out.mono ?_);rintro e w1 ⟨rfl,hb⟩;have HB2:=Lh (HB1.out.then_ hb);have HK2:=Lh (HK1.out.stay hb);have HZ2:=Lh (HBX.out.then_ hb);clear hb d1 d2 d3 d4;have d5:=HK2.out.c 5 _ rfl;have d6:=HK2.out.c 6 _ rfl;have d7:=HK2.out.c 7 _ rfl;have d8:=HK2.out.c 8 _ rfl;have d9:=HK2.out.c 9 _ rfl;have d10:=HK2.out.c 10 _ rfl;have d11:=HK2.out.c 11 _ rfl))
        go_ret;exact ExW.tInt_mk HD.out HB2.out
       by_cases h3:anm.size≤40
       case neg =>
        clear hok;go_wp2_with (go_at_call 25;((with_reducible refine FC.out.mono ?_);rintro e w1 ⟨rfl,hb⟩;have HB2:=Lh (HB1.out.then_ hb);have HK2:=Lh (HK1.out.stay hb);have HZ2:=Lh (HBX.out.then_ hb);clear hb d1 d2 d3 d4;have d5:=HK2.out.c 5 _ rfl;have d6:=HK2.out.c 6 _ rfl;have d7:=HK2.out.c 7 _ rfl;have d8:=HK2.out.c 8 _ rfl;have d9:=HK2.out.c 9 _ rfl;have d10:=HK2.out.c 10 _ rfl;have d11:=HK2.out.c 11 _ rfl))
        go_ret;exact ExW.tInt_mk HD.out HB2.out
       by_cases h4:aix.size≤40
       case neg =>
        clear hok;go_wp2_with (go_at_call 25;((with_reducible refine FC.out.mono ?_);rintro e w1 ⟨rfl,hb⟩;have HB2:=Lh (HB1.out.then_ hb);have HK2:=Lh (HK1.out.stay hb);have HZ2:=Lh (HBX.out.then_ hb);clear hb d1 d2 d3 d4;have d5:=HK2.out.c 5 _ rfl;have d6:=HK2.out.c 6 _ rfl;have d7:=HK2.out.c 7 _ rfl;have d8:=HK2.out.c 8 _ rfl;have d9:=HK2.out.c 9 _ rfl;have d10:=HK2.out.c 10 _ rfl;have d11:=HK2.out.c 11 _ rfl))
        go_ret;exact ExW.tInt_mk HD.out HB2.out
       exact absurd ⟨h0,h1,h2,h3,h4⟩ hok
    ·have HD:Hid (lcL l n K=k):=Lh (by rw [←LD.out,lc_drop ha,if_neg hkn]);clear ha;go_wp2;go_ret;exact ExW.tInt_mk HD.out.symm BW.out
   ·have HD:Hid (lcL l n K=k):=Lh (by rw [←LD.out,List.drop_eq_nil_of_le (by rw [HK.out];omega),lcL_nil]);go_wp2;go_ret;exact ExW.tInt_mk HD.out.symm BW.out
theorem fewI_any (l:List It) (v:Value) (N:Nat) (w:World) (hz:iszs l≤2000000) (hx:ItsA N w v l) (hN:N≤w.heap.size) :
  Calls Tryz.prog 10 #[v] w (tBool (fewB l) w):=by
 have CC:=Lh (lcount_any l 70 v N w (by decide) (by decide) hz hx hN);have HF:Hid (decide (lcL l 70 l.length≤70)=fewB l):=Lh rfl;generalize lcL l 70 l.length=z at *
 go_enter Tryz.func10,Tryz.ntmps10
 go_wp2_with (go_at_call 34;((with_reducible refine CC.out.mono ?_);rintro e w1 ⟨rfl,hb⟩;have HB:=Lh hb;clear hb))
 go_ret;exact⟨congrArg (fun b=>Ending.returned (Value.bool b)) HF.out,HB.out⟩
end ItW
end Go.Proofs.YtpejflgdehioaaaGreatDoor
