/-
  Laws that the card uses; no conditions beside those that each states (ItRVal ItRCk).
-/
import Derived.Test.YtpejflgdehioaaaGreatDoorU34
import Derived.Test.YtpejflgdehioaaaGreatDoorU39
set_option maxRecDepth 100000
set_option maxHeartbeats 16000000
namespace Go.Proofs.YtpejflgdehioaaaGreatDoor
namespace ItW
open Go Go.RowKit NumM LexW LexM ExM ExW ItM
open ClM (firstE firstE_zero)
theorem quietN {P:Program} {f:FuncId} {args:Array Value} {w:World} {n:Nat} {v:Value} (h:Calls P f args (w.drewN n) fun e w'=>e=.returned v∧∃ m,w'=(w.drewN n).drewN m):Calls P f args (w.drewN n) fun e w''=>e=.returned v∧∃ m,w''=w.drewN m :=
 h.mono fun _ _ ⟨he,m,hm⟩=>⟨he,n+m,by rw [hm,World.drewN_drewN]⟩
theorem dB {w:World} {n:Nat}:Below w.heap.size w (w.drewN n):=drewB (Below.refl _ _)
theorem reti {a b:Int} (h:a=b):Ending.returned (.int .i64 a)=.returned (.int .i64 b):=by rw [h]
theorem kids_take {l:List It} {j:Nat} {a:It} (h:l[j]? = some a):(l.length - (j+1))+iszs (l.take (j+1))=(l.length - j)+iszs (l.take j)+iszs a.it+iszs a.el:=by
 have h1:=(List.getElem?_eq_some_iff.1 h).1;have h2:=iszs_take h;have h3:=isz_eq a;omega
theorem sizeR_any (l:List It):∀ (v:Value) (N:Nat) (w:World),ItsA N w v l→N≤w.heap.size→iszs l≤10000→Calls Tryz.prog 13 #[v] w fun e w'=>e=.returned (.int .i64 (iszs l))∧∃ m,w'=w.drewN m:=by
 induction l using its_ind with
 | h l ih =>
  intro v N w hx hN hsz;obtain⟨p,cap,V,rfl,hr⟩:=hx.form;have hl:=hr.hl;have HR:=Lh hr;have HIH:=Lh ih;have hlen:=len_iszs l;obtain⟨K,hK⟩:∃ K,l.length=K:=⟨_,rfl⟩;have HK:=Lh hK;rw [hK] at hl hlen ⊢;have HT0:Hid ((K - 0)+iszs (l.take 0)=K):=Lh (by rw [List.take_zero,iszs_nil];omega);clear hx hr ih hK
  go_enter Tryz.func13,Tryz.ntmps13
  go_wp2;go_loopw [3,4] (fun s i wr=>∃ (j t:Nat),j≤K∧i=.int .i64 j∧s=.int .i64 t∧t≤20000∧Hid (t=(K - j)+iszs (l.take j))∧Hid (∃ m,wr=w.drewN m)) (fun _ i _=>K - (intOf i).toNat)
  case atStart=>exact⟨0,K,Nat.zero_le _,rfl,rfl,by omega,Lh HT0.out.symm,Lh ⟨0,rfl⟩⟩
  case round =>
   obtain⟨j,t,hj,rfl,rfl,ht,TW,DW⟩:=hrel;have hbw:Below w.heap.size w wr:=by
    obtain⟨m,hm⟩:=DW.out;rw [hm];exact drewB (Below.refl _ _)
   by_cases hlt:j<K
   ·obtain⟨a,ha⟩:∃ a,l[j]? = some a:=⟨_,List.getElem?_eq_getElem (by rw [HK.out];exact hlt)⟩;have hmem:=List.mem_of_getElem? ha;have hr2:=HR.out.under (hbw.mono hN);obtain⟨b,off,rfl,hb,hcell⟩:=hr2.hp (by rw [HK.out];omega);have hva:=hr2.hv j a ha;have hc:=hcell j a ha;have g8:=hc.c8;have g9:=hc.c9;obtain⟨p4,k4,p7,k7,p8,k8,p9,k9,p10,k10,p11,k11,e4,e7,e8,e9,e10,e11⟩:=hva.slices;have hi8:=hva.its;have hi9:=hva.els;rw [e8] at g8 hi8;rw [e9] at g9 hi9;have hkt:=kids_take ha;rw [HK.out] at hkt;have hil:=isz_mem hmem;have hie:=isz_eq a;have hA:iszs a.it≤10000:=(by omega);have hB:iszs a.el≤10000:=(by omega);have VC8:Hid (∀ W,Below wr.heap.size wr W→Calls Tryz.prog 13 #[.slice p8 a.it.length k8] W fun e w'=>e=.returned (.int .i64 (iszs a.it))∧∃ m,w'=W.drewN m):=(Lh fun W hW=>(HIH.out a hmem).1 _ N W (hi8.under (hW.mono (Nat.le_trans hN hbw.size))) (Nat.le_trans (Nat.le_trans hN hbw.size) hW.size) hA);have VC9:Hid (∀ W,Below wr.heap.size wr W→Calls Tryz.prog 13 #[.slice p9 a.el.length k9] W fun e w'=>e=.returned (.int .i64 (iszs a.el))∧∃ m,w'=W.drewN m):=(Lh fun W hW=>(HIH.out a hmem).2 _ N W (hi9.under (hW.mono (Nat.le_trans hN hbw.size))) (Nat.le_trans (Nat.le_trans hN hbw.size) hW.size) hB);have TN:Hid (t+iszs a.it+iszs a.el=(K - (j+1))+iszs (l.take (j+1))):=Lh (by rw [hkt,TW.out]);have htl:=iszs_take_le (j+1) l;have htn:t+iszs a.it+iszs a.el≤20000:=(by have:=TN.out;omega);clear hcell hva hc hi8 hi9 hr2 e4 e7 e8 e9 e10 e11 ha hmem hkt hil hie htl;generalize iszs a.it=A at *
    generalize iszs a.el=B at *
    generalize a.it.length=KA at *
    generalize a.el.length=KB at *
    have hw1:IntKind.i64.wrap ((t:Int)+(A:Int))=(t:Int)+(A:Int):=IntWalk.i64_in _ (by omega);have hw2:IntKind.i64.wrap ((t:Int)+(A:Int)+(B:Int))=(t:Int)+(A:Int)+(B:Int):=IntWalk.i64_in _ (by omega);go_wp2;go_quiet ((go_at_call 13;first | with_reducible exact quietN (VC8.out _ dB) | with_reducible exact quietN (VC9.out _ dB)))
    go_wp2;go_roundw
    case rel=>exact⟨j+1,t+A+B,by omega,by go_num,by go_num,htn,TN,Lh (by obtain⟨m,hm⟩:=DW.out;exact⟨m+nq,by rw [hm,World.drewN_drewN]⟩)⟩
    case measure=>simp [intOf];omega
   ·have hjK:j=K:=(by omega);have TE:Hid ((t:Int)=(iszs l:Int)):=Lh (by
     have:=TW.out;rw [List.take_of_length_le (by rw [HK.out];omega)] at this;omega)
    have R:=DW;clear hjK;go_wp2;go_ret;exact⟨reti TE.out,R.out⟩
def vlL (d:Nat) (l:List It):Int:=firstE ((wks d [] l).map fltP)
theorem flt_map (l:List It):∀ d B,(wks d B l).map fltP=(wks d [] l).map fltP:=by
 induction l using its_rec with
 | h0=>intro d B;rw [wks_nil,wks_nil]
 | h1 x r h1 h2 h3 =>
  intro d B;rw [wks_cons,wks_cons,wk_eq,wk_eq];simp only [List.map_append,List.map_cons];rw [h1 (d+1) (inn x.kd x.ix B),h1 (d+1) (inn x.kd x.ix []),h2 (d+1) B,h3 d B];rfl
theorem vl_nil (d:Nat):vlL d []=0:=by unfold vlL;rw [wks_nil];rfl
theorem vl_append (d:Nat) (a b:List It):vlL d (a++b)=if vlL d a=0 then vlL d b else vlL d a:=by
 unfold vlL;rw [wks_append,List.map_append,firstE_append]
theorem vl_cons (d:Nat) (a:It) (r:List It):vlL d (a::r)=if fltI d a=0 then (if vlL (d+1) a.it=0 then (if vlL (d+1) a.el=0 then vlL d r else vlL (d+1) a.el) else vlL (d+1) a.it) else fltI d a:=by
 unfold vlL;rw [wks_cons,wk_eq,List.map_append,List.map_cons,List.map_append,List.cons_append,firstE_cons,firstE_append,firstE_append,flt_map a.it (d+1) (inn a.kd a.ix [])];show (if fltI d a=0 then _ else fltI d a)=_;by_cases h1:fltI d a=0
 ·rw [if_pos h1,if_pos h1];by_cases h2:firstE ((wks (d+1) [] a.it).map fltP)=0
  ·simp only [h2,if_true]
  ·simp only [h2,if_false]
 ·rw [if_neg h1,if_neg h1]
theorem vl_at {d j:Nat} {l:List It} {a:It} (h:l[j]? = some a) (h0:vlL d (l.take j)=0) :
  (fltI d a≠0→vlL d l=fltI d a)∧(fltI d a=0→vlL (d+1) a.it≠0→vlL d l=vlL (d+1) a.it)∧(fltI d a=0→vlL (d+1) a.it=0→vlL (d+1) a.el≠0→vlL d l=vlL (d+1) a.el) ∧
   (fltI d a=0→vlL (d+1) a.it=0→vlL (d+1) a.el=0→vlL d (l.take (j+1))=0):=by
 obtain⟨hj,he⟩:=List.getElem?_eq_some_iff.1 h;have hs:l=l.take j++a::l.drop (j+1):=by
  rw [←he,List.getElem_cons_drop hj,List.take_append_drop]
 have e:=vl_append d (l.take j) (a::l.drop (j+1));rw [←hs,if_pos h0,vl_cons] at e;have e2:=vl_append d (l.take j) [a];rw [←he,←List.take_succ_eq_append_getElem hj,if_pos h0,he,vl_cons,vl_nil] at e2;refine⟨fun h1=>by rw [e,if_neg h1],fun h1 h2=>by rw [e,if_pos h1,if_neg h2],fun h1 h2 h3=>by rw [e,if_pos h1,if_pos h2,if_neg h3],fun h1 h2 h3=>by rw [e2,if_pos h1,if_pos h2,if_pos h3]⟩
theorem flt_deep2 {d:Nat} {x:It} (h:fltI d x=0):d≤4:=by
 unfold fltI at h;split at h
 ·cases h
 ·rename_i hn;simp only [Bool.or_eq_true,decide_eq_true_eq,not_or] at hn;omega
theorem validLR_any (l:List It):∀ (d:Nat) (v:Value) (N:Nat) (w:World),d≤5→ItsA N w v l→N≤w.heap.size→RsL l→Calls Tryz.prog 41 #[v,.int .i64 d] w (tInt (vlL d l) w):=by
 induction l using its_ind with
 | h l ih =>
  intro d v N w hd5 hx hN hrs;obtain⟨p,cap,V,rfl,hr⟩:=hx.form;have hl:=hr.hl;have HR:=Lh hr;have HIH:=Lh ih;have HRS:=Lh hrs;obtain⟨K,hK⟩:∃ K,l.length=K:=⟨_,rfl⟩;have HK:=Lh hK;rw [hK] at hl ⊢;have hk47:K≤140737488351232:=(by omega);have HV0:Hid (vlL d (l.take 0)=0):=Lh (by rw [List.take_zero];exact vl_nil d);have HB0:=Lh (Below.refl w.heap.size w);clear hx hr ih hK hrs hl
  go_enter Tryz.func41,Tryz.ntmps41
  go_wp2;go_loopw [5] (fun i wr=>∃ (j:Nat),j≤K∧i=.int .i64 j∧Hid (vlL d (l.take j)=0)∧Hid (Below w.heap.size w wr)) (fun i _=>K - (intOf i).toNat)
  case atStart=>exact⟨0,Nat.zero_le _,rfl,HV0,HB0⟩
  case round =>
   obtain⟨j,hj,rfl,VW,BW⟩:=hrel;by_cases hlt:j<K
   ·obtain⟨a,ha⟩:∃ a,l[j]? = some a:=⟨_,List.getElem?_eq_getElem (by rw [HK.out];exact hlt)⟩;have hmem:=List.mem_of_getElem? ha;obtain⟨b,off,rfl,hb,hcell⟩:=HR.out.hp (by rw [HK.out];omega);have hva:=HR.out.hv j a ha;have hc:=hcell j a ha;have hrs:=(rsI_eq a).1 (rsL_mem.1 HRS.out a hmem);have WC0:=(fun (W:World) (hW:Below w.heap.size w W)=>wrongR_any a _ _ _ _ _ _ N d (by omega) W (hva.under (hW.mono hN)) (by have:=hW.size;omega) hrs.1.1);have hi8:=hva.its;have hi9:=hva.els;obtain⟨p4,k4,p7,k7,p8,k8,p9,k9,p10,k10,p11,k11,e4,e7,e8,e9,e10,e11⟩:=hva.slices;have HCE:Hid (∀ W,Below w.heap.size w W→C12 W b (off+j*12) a (V j)):=(Lh fun W hW=>hc.kept (low_cells (hW.mono hN) b · hb));have AT:=Lh (vl_at ha VW.out);have VC8:Hid (∀ W,Below w.heap.size w W→fltI d a=0→Calls Tryz.prog 41 #[.slice p8 a.it.length k8,.int .i64 ((d:Int)+1)] W (tInt (vlL (d+1) a.it) W)):=Lh fun W hW h0=>by
     have:=(HIH.out a hmem).1 (d+1) _ N W (by have:=flt_deep2 h0;omega) (hi8.under (hW.mono hN)) (by have:=hW.size;omega) hrs.2.1;rw [e8] at this;exact this
    have VC9:Hid (∀ W,Below w.heap.size w W→fltI d a=0→Calls Tryz.prog 41 #[.slice p9 a.el.length k9,.int .i64 ((d:Int)+1)] W (tInt (vlL (d+1) a.el) W)):=Lh fun W hW h0=>by
     have:=(HIH.out a hmem).2 (d+1) _ N W (by have:=flt_deep2 h0;omega) (hi9.under (hW.mono hN)) (by have:=hW.size;omega) hrs.2.2;rw [e9] at this;exact this
    obtain⟨g0,g1,g2,g3,g4,g5,g6,g7,g8,g9,g10,g11⟩:=HCE.out wr BW.out;rw [e4] at g4 WC0;rw [e7] at g7 WC0;rw [e8] at g8 WC0;rw [e9] at g9 WC0;rw [e10] at g10 WC0;rw [e11] at g11 WC0;have HC8:Hid (∀ W,Below w.heap.size w W→W.cell? ⟨b,off+j*12+5+3,none⟩=some (.slice p8 a.it.length k8)):=(Lh fun W hW=>by have:=(HCE.out W hW).c8;rw [e8] at this;exact this);have HC8':Hid (∀ W,Below w.heap.size w W→W.cell? ⟨b,off+j*12+8,none⟩=some (.slice p8 a.it.length k8)):=(Lh fun W hW=>by have:=(HCE.out W hW).c8;rw [e8] at this;exact this);have HC9:Hid (∀ W,Below w.heap.size w W→W.cell? ⟨b,off+j*12+9,none⟩=some (.slice p9 a.el.length k9)):=(Lh fun W hW=>by have:=(HCE.out W hW).c9;rw [e9] at this;exact this);have WC:=Lh (WC0 wr BW.out);clear hcell hva hc hi8 hi9 e4 e7 e8 e9 e10 e11 ha hmem WC0 hrs HCE;generalize fltI d a=E1 at *
    generalize vlL (d+1) a.it=E2 at *
    generalize vlL (d+1) a.el=E3 at *
    by_cases h1:E1=0
    ·rw [h1] at WC;by_cases h2:E2=0
     ·rw [h2] at VC8;by_cases h3:E3=0
      ·have VN:=Lh (AT.out.2.2.2 h1 h2 h3);rw [h3] at VC9;have V8:=Lh (fun W hW=>VC8.out W hW h1);have V9:=Lh (fun W hW=>VC9.out W hW h1);clear h1 h2 h3 AT VC8 VC9;go_wp2_with (first
        | (go_at_call 77;((with_reducible refine WC.out.mono ?_);rintro e w1 ⟨rfl,hb1⟩;have HB1:=Lh (BW.out.then_ hb1);have g8':=HC8'.out _ HB1.out;clear hb1))
        | (go_at_call 41;((with_reducible refine (V8.out _ HB1.out).mono ?_);rintro e w2 ⟨rfl,hb2⟩;have HB2:=Lh (HB1.out.then_ hb2);have g9':=HC9.out _ HB2.out;clear hb2))
        | (go_at_call 41;((with_reducible refine (V9.out _ HB2.out).mono ?_);rintro e w3 ⟨rfl,hb3⟩;have HB3:=Lh (HB2.out.then_ hb3);clear hb3)))
       go_roundw
       case rel=>exact⟨j+1,by omega,by go_num,VN,HB3⟩
       case measure=>simp [intOf];omega
      ·have VN:=Lh (AT.out.2.2.1 h1 h2 h3);have f3:(E3 != 0)=true:=(by simpa using h3);have V8:=Lh (fun W hW=>VC8.out W hW h1);have V9:=Lh (fun W hW=>VC9.out W hW h1);clear h1 h2 AT VC8 VC9;go_wp2_with (first
        | (go_at_call 77;((with_reducible refine WC.out.mono ?_);rintro e w1 ⟨rfl,hb1⟩;have HB1:=Lh (BW.out.then_ hb1);have g8':=HC8'.out _ HB1.out;clear hb1))
        | (go_at_call 41;((with_reducible refine (V8.out _ HB1.out).mono ?_);rintro e w2 ⟨rfl,hb2⟩;have HB2:=Lh (HB1.out.then_ hb2);have g9':=HC9.out _ HB2.out;clear hb2))
        | (go_at_call 41;((with_reducible refine (V9.out _ HB2.out).mono ?_);rintro e w3 ⟨rfl,hb3⟩;have HB3:=Lh (HB2.out.then_ hb3);clear hb3)))
       go_ret;exact tInt_mk VN.out HB3.out
     ·have VN:=Lh (AT.out.2.1 h1 h2);have f2:(E2 != 0)=true:=(by simpa using h2);have V8:=Lh (fun W hW=>VC8.out W hW h1);clear h1 AT VC8 VC9;go_wp2_with (first
       | (go_at_call 77;((with_reducible refine WC.out.mono ?_);rintro e w1 ⟨rfl,hb1⟩;have HB1:=Lh (BW.out.then_ hb1);have g8':=HC8'.out _ HB1.out;clear hb1))
       | (go_at_call 41;((with_reducible refine (V8.out _ HB1.out).mono ?_);rintro e w2 ⟨rfl,hb2⟩;have HB2:=Lh (HB1.out.then_ hb2);clear hb2)))
      go_ret;exact tInt_mk VN.out HB2.out
    ·have VN:=Lh (AT.out.1 h1);have f1:(E1 != 0)=true:=(by simpa using h1);clear AT VC8 VC9;go_wp2_with (first
      | (go_at_call 77;((with_reducible refine WC.out.mono ?_);rintro e w1 ⟨rfl,hb1⟩;have HB1:=Lh (BW.out.then_ hb1);clear hb1)))
     go_ret;exact tInt_mk VN.out HB1.out
   ·have VN:Hid (vlL d l=0):=Lh (by have:=VW.out;rw [List.take_of_length_le (by rw [HK.out];omega)] at this;exact this);go_wp2;go_ret;exact tInt_mk VN.out BW.out
theorem itemValidR_any (l:List It) (v:Value) (w:World) (hx:ItsA w.heap.size w v l) (hsz:iszs l≤10000) (hrs:RsL l) :
  Calls Tryz.prog 18 #[v] w (tInt (validI l) w):=by
 have SC:=Lh (sizeR_any l v _ w hx (Nat.le_refl _) hsz);have VC:Hid (∀ W,Below w.heap.size w W→Calls Tryz.prog 41 #[v,.int .i64 0] W (tInt (vlL 0 l) W)):=(Lh fun W hW=>validLR_any l 0 v w.heap.size W (by decide) (hx.under hW) hW.size hrs);have EE:Hid (validI l=if 64<iszs l then 2 else vlL 0 l):=Lh rfl;obtain⟨p,cap,V,rfl,_⟩:=hx.form;generalize iszs l=z at *
 generalize vlL 0 l=y at *
 generalize l.length=K at *
 by_cases h:64<z
 ·rw [if_pos h] at EE;have d:decide ((64:Int)<(z:Int))=true:=decide_eq_true (by omega)
  go_enter Tryz.func18,Tryz.ntmps18
  go_wp2_with (go_at_call 13;((with_reducible refine SC.out.mono ?_);rintro e w1 ⟨rfl,m,rfl⟩))
  go_ret;exact tInt_mk EE.out dB
 ·rw [if_neg h] at EE;have d:decide ((64:Int)<(z:Int))=false:=decide_eq_false (by omega)
  go_enter Tryz.func18,Tryz.ntmps18
  go_wp2_with (first
   | (go_at_call 13;((with_reducible refine SC.out.mono ?_);rintro e w1 ⟨rfl,m,rfl⟩))
   | (go_at_call 41;((with_reducible refine (VC.out _ dB).mono ?_);rintro e w2 ⟨rfl,hb⟩;have HB:=Lh (dB.then_ hb);clear hb)))
  go_ret;exact tInt_mk EE.out HB.out
end ItW
namespace ItW
open Go Go.RowKit NumM LexW LexM ExM ExW ItM
open ClM (Fld firstE)
attribute [local go_sem ↓] Go.wp_at_zero Go.wp_at_succ
def ckL (fs:List Fld) (d:Nat) (B:List ByteArray) (l:List It):Int:=firstE ((wks d B l).map (chkP fs))
theorem ck_nil (fs:List Fld) (d:Nat) (B:List ByteArray):ckL fs d B []=0:=by unfold ckL;rw [wks_nil];rfl
theorem ck_append (fs:List Fld) (d:Nat) (B:List ByteArray) (a b:List It):ckL fs d B (a++b)=if ckL fs d B a=0 then ckL fs d B b else ckL fs d B a:=by
 unfold ckL;rw [wks_append,List.map_append,firstE_append]
theorem ck_cons (fs:List Fld) (d:Nat) (B:List ByteArray) (a:It) (r:List It):ckL fs d B (a::r)=if chkI fs B a=0 then (if ckL fs (d+1) (inn a.kd a.ix B) a.it=0 then (if ckL fs (d+1) B a.el=0 then ckL fs d B r else ckL fs (d+1) B a.el) else ckL fs (d+1) (inn a.kd a.ix B) a.it) else chkI fs B a:=by
 unfold ckL;rw [wks_cons,wk_eq,List.map_append,List.map_cons,List.map_append,List.cons_append,firstE_cons,firstE_append,firstE_append];show (if chkI fs B a=0 then _ else chkI fs B a)=_;by_cases h1:chkI fs B a=0
 ·rw [if_pos h1,if_pos h1];by_cases h2:firstE ((wks (d+1) (inn a.kd a.ix B) a.it).map (chkP fs))=0
  ·simp only [h2,if_true]
  ·simp only [h2,if_false]
 ·rw [if_neg h1,if_neg h1]
theorem ck_at {fs:List Fld} {d j:Nat} {B:List ByteArray} {l:List It} {a:It} (h:l[j]? = some a) (h0:ckL fs d B (l.take j)=0) :
  (chkI fs B a≠0→ckL fs d B l=chkI fs B a)∧(chkI fs B a=0→ckL fs (d+1) (inn a.kd a.ix B) a.it≠0→ckL fs d B l=ckL fs (d+1) (inn a.kd a.ix B) a.it)∧(chkI fs B a=0→ckL fs (d+1) (inn a.kd a.ix B) a.it=0→ckL fs (d+1) B a.el≠0→ckL fs d B l=ckL fs (d+1) B a.el) ∧
   (chkI fs B a=0→ckL fs (d+1) (inn a.kd a.ix B) a.it=0→ckL fs (d+1) B a.el=0→ckL fs d B (l.take (j+1))=0):=by
 obtain⟨hj,he⟩:=List.getElem?_eq_some_iff.1 h;have hs:l=l.take j++a::l.drop (j+1):=by
  rw [←he,List.getElem_cons_drop hj,List.take_append_drop]
 have e:=ck_append fs d B (l.take j) (a::l.drop (j+1));rw [←hs,if_pos h0,ck_cons] at e;have e2:=ck_append fs d B (l.take j) [a];rw [←he,←List.take_succ_eq_append_getElem hj,if_pos h0,he,ck_cons,ck_nil] at e2;refine⟨fun h1=>by rw [e,if_neg h1],fun h1 h2=>by rw [e,if_pos h1,if_neg h2],fun h1 h2 h3=>by rw [e,if_pos h1,if_pos h2,if_neg h3],fun h1 h2 h3=>by rw [e2,if_pos h1,if_pos h2,if_pos h3]⟩
theorem innR_len (kd:Int) (ix:ByteArray) (B:List ByteArray):(innR kd ix B).length≤B.length+1:=by
 unfold innR;split
 ·simp
 ·exact Nat.le_succ _
theorem innR_sz {kd:Int} {ix:ByteArray} {B:List ByteArray} (h:∀ s∈B,s.size≤140737488351232) (hx:ix.size≤140737488351232):∀ s∈innR kd ix B,s.size≤140737488351232:=by
 unfold innR;split
 ·intro s hs;rcases List.mem_append.1 hs with h1 | h1
  ·exact h s h1
  ·simp at h1;subst h1;exact hx
 ·exact h
abbrev S16 (w:World) (b o:Nat) (v0 v1 v2 v3 v4 v5 v6 v7 v8 v9 v10 v11 c0 c1 c2 c3:Value) (W:World):Prop :=
 W.cell? ⟨b,o,none⟩=some v0∧W.cell? ⟨b,o+1,none⟩=some v1∧W.cell? ⟨b,o+2,none⟩=some v2∧W.cell? ⟨b,o+3,none⟩=some v3∧W.cell? ⟨b,o+4,none⟩=some v4∧W.cell? ⟨b,o+5,none⟩=some v5∧W.cell? ⟨b,o+6,none⟩=some v6∧W.cell? ⟨b,o+7,none⟩=some v7∧W.cell? ⟨b,o+8,none⟩=some v8∧W.cell? ⟨b,o+9,none⟩=some v9∧W.cell? ⟨b,o+10,none⟩=some v10∧W.cell? ⟨b,o+11,none⟩=some v11∧W.cell? ⟨w.heap.size,0,none⟩=some c0∧W.cell? ⟨w.heap.size,1,none⟩=some c1∧W.cell? ⟨w.heap.size,2,none⟩=some c2∧W.cell? ⟨w.heap.size,3,none⟩=some c3∧Hid (Below w.heap.size w W)
theorem S16.keep {w:World} {b o:Nat} {v0 v1 v2 v3 v4 v5 v6 v7 v8 v9 v10 v11 c0 c1 c2 c3:Value} {W W':World} (h:S16 w b o v0 v1 v2 v3 v4 v5 v6 v7 v8 v9 v10 v11 c0 c1 c2 c3 W) (hb:Below W.heap.size W W'):S16 w b o v0 v1 v2 v3 v4 v5 v6 v7 v8 v9 v10 v11 c0 c1 c2 c3 W':=by
 obtain⟨h0,h1,h2,h3,h4,h5,h6,h7,h8,h9,h10,h11,k0,k1,k2,k3,hB⟩:=h;have q:∀ a v,W.cell? a=some v→W'.cell? a=some v:=(fun a v h=>by rw [hb.cell (World.block_lt_of_cell? W a h)];exact h);exact⟨q _ _ h0,q _ _ h1,q _ _ h2,q _ _ h3,q _ _ h4,q _ _ h5,q _ _ h6,q _ _ h7,q _ _ h8,q _ _ h9,q _ _ h10,q _ _ h11,q _ _ k0,q _ _ k1,q _ _ k2,q _ _ k3,Lh (hB.out.trans (hb.mono hB.out.size))⟩
theorem checkR_any (fs:List Fld) (hNm:∀ f∈fs,nmB f.nm.data.toList=true) (l:List It):∀ (k d:Nat) (B B':List ByteArray) (v cv vi:Value) (w:World),dpt k l→(∀ s,memB B' s=memB B s)→B'.length+k≤1000 →
  ItsA w.heap.size w v l→ClA w.heap.size w cv fs→StA w.heap.size w vi B'→RsL l→Calls Tryz.prog 45 #[v,cv,vi] w (tInt (ckL fs d B l) w):=by
 induction l using its_ind with
 | h l ih =>
  intro k d B B' v cv vi w hd hBB hBk hx hcl hst hrs;obtain⟨p,cap,V,rfl,hr⟩:=hx.form;have hl:=hr.hl;have HR:=Lh hr;have HIH:=Lh ih;have HRS:=Lh hrs;have HD:=Lh hd;have HBB:=Lh hBB;have HC:=Lh hcl;have HST:=Lh hst;obtain⟨cnm,par,vf,pb,kb,cb,rfl,pf,cf,rfl,_⟩:=hcl;obtain⟨pi,ci,rfl,_⟩:=hst;obtain⟨K,hK⟩:∃ K,l.length=K:=⟨_,rfl⟩;have HK:=Lh hK;rw [hK] at hl ⊢;have hk47:K≤140737488351232:=(by omega);have HV0:Hid (ckL fs d B (l.take 0)=0):=Lh (by rw [List.take_zero];exact ck_nil fs d B);obtain⟨KF,hKF⟩:∃ KF,fs.length=KF:=⟨_,rfl⟩;obtain⟨KB,hKB⟩:∃ KB,B'.length=KB:=⟨_,rfl⟩;have HKB:=Lh hKB;have HKF:=Lh hKF;rw [hKF,hKB];have B4:=Blk.new w [.string cnm,.string par,.slice pf KF cf,.slice pb kb cb] 34;have hb0:=ba w (.cells #[.string cnm,.string par,.slice pf KF cf,.slice pb kb cb] 34);simp only [List.toArray] at B4;obtain⟨W0,hW0⟩:∃ W0,w.alloc (.cells #[.string cnm,.string par,.slice pf KF cf,.slice pb kb cb] 34)=W0:=⟨_,rfl⟩;rw [hW0] at B4 hb0;have HB0:=Lh hb0;have H4:=Lh (And.intro (B4.c 0 _ rfl) (And.intro (B4.c 1 _ rfl) (And.intro (B4.c 2 _ rfl) (B4.c 3 _ rfl))));clear hx hr ih hK hrs hl hd hBB B4 hb0 hKF hKB
  go_enter Tryz.func45,Tryz.ntmps45
  go_wp2;clear hW0;go_loopw [7] (fun i wr=>∃ (j:Nat),j≤K∧i=.int .i64 j∧Hid (ckL fs d B (l.take j)=0)∧Hid (Below w.heap.size w wr)∧Hid (wr.cell? ⟨w.heap.size,0,none⟩=some (.string cnm)∧wr.cell? ⟨w.heap.size,1,none⟩=some (.string par)∧wr.cell? ⟨w.heap.size,2,none⟩=some (.slice pf KF cf)∧wr.cell? ⟨w.heap.size,3,none⟩=some (.slice pb kb cb))) (fun i _=>K - (intOf i).toNat)
  case atStart=>exact⟨0,Nat.zero_le _,rfl,HV0,HB0,H4⟩
  case round =>
   obtain⟨j,hj,rfl,VW,BW,CW⟩:=hrel;by_cases hlt:j<K
   ·obtain⟨a,ha⟩:∃ a,l[j]? = some a:=⟨_,List.getElem?_eq_getElem (by rw [HK.out];exact hlt)⟩;have hmem:=List.mem_of_getElem? ha;obtain⟨b,off,rfl,hb,hcell⟩:=HR.out.hp (by rw [HK.out];omega);have hva:=HR.out.hv j a ha;have hc:=(hcell j a ha).kept (low_cells BW.out b · hb);have hrs:=(rsI_eq a).1 (rsL_mem.1 HRS.out a hmem);have hkd:∃ k',dpt k' a.it∧dpt k' a.el∧k'+1≤k:=by
     cases k with
     | zero=>have:=HD.out;have h0:l=[]:=this;rw [h0] at hmem;cases hmem
     | succ k=>exact⟨k,(HD.out a hmem).1,(HD.out a hmem).2,Nat.le_refl _⟩
    obtain⟨k',hd1,hd2,hk'⟩:=hkd;obtain⟨p4,k4,p7,k7,p8,k8,p9,k9,p10,k10,p11,k11,e4,e7,e8,e9,e10,e11⟩:=hva.slices;rw [e4,e7,e8,e9,e10,e11] at hva;obtain⟨g0,g1,g2,g3,g4,g5,g6,g7,g8,g9,g10,g11⟩:=hc;rw [e4] at g4;rw [e7] at g7;rw [e8] at g8;rw [e9] at g9;rw [e10] at g10;rw [e11] at g11;have AT:=Lh (ck_at ha VW.out);have HVA:=Lh hva;have s0:S16 w b (off+j*12) (.int .i64 a.kd) (.int .i64 a.e.op) (.int .i64 a.e.n) (.string a.e.nm) (.slice p4 a.e.args.length k4) (.string a.nm) (.string a.ix) (.slice p7 a.ws.length k7) (.slice p8 a.it.length k8) (.slice p9 a.el.length k9) (.slice p10 a.bf.length k10) (.slice p11 a.af.length k11) (.string cnm) (.string par) (.slice pf KF cf) (.slice pb kb cb) wr:=⟨g0,g1,g2,g3,g4,g5,g6,g7,g8,g9,g10,g11,CW.out.1,CW.out.2.1,CW.out.2.2.1,CW.out.2.2.2,BW⟩;have KE:Hid (∀ W W',S16 w b (off+j*12) (.int .i64 a.kd) (.int .i64 a.e.op) (.int .i64 a.e.n) (.string a.e.nm) (.slice p4 a.e.args.length k4) (.string a.nm) (.string a.ix) (.slice p7 a.ws.length k7) (.slice p8 a.it.length k8) (.slice p9 a.el.length k9) (.slice p10 a.bf.length k10) (.slice p11 a.af.length k11) (.string cnm) (.string par) (.slice pf KF cf) (.slice pb kb cb) W→Below W.heap.size W W'→S16 w b (off+j*12) (.int .i64 a.kd) (.int .i64 a.e.op) (.int .i64 a.e.n) (.string a.e.nm) (.slice p4 a.e.args.length k4) (.string a.nm) (.string a.ix) (.slice p7 a.ws.length k7) (.slice p8 a.it.length k8) (.slice p9 a.el.length k9) (.slice p10 a.bf.length k10) (.slice p11 a.af.length k11) (.string cnm) (.string par) (.slice pf KF cf) (.slice pb kb cb) W'):=(Lh fun W W' h hb=>S16.keep h hb);have C4:Hid (∀ W,Below w.heap.size w W→ClA W.heap.size W (.agg #[.string cnm,.string par,.slice pf KF cf,.slice pb kb cb]) fs):=Lh fun W hW=>by
     have:=(HC.out.under hW).wide hW.size;rw [HKF.out] at this;exact this
    have K1:Hid (∀ W,S16 w b (off+j*12) (.int .i64 a.kd) (.int .i64 a.e.op) (.int .i64 a.e.n) (.string a.e.nm) (.slice p4 a.e.args.length k4) (.string a.nm) (.string a.ix) (.slice p7 a.ws.length k7) (.slice p8 a.it.length k8) (.slice p9 a.el.length k9) (.slice p10 a.bf.length k10) (.slice p11 a.af.length k11) (.string cnm) (.string par) (.slice pf KF cf) (.slice pb kb cb) W→Calls Tryz.prog 85 #[iv a.kd a.e.op a.e.n a.e.nm (.slice p4 a.e.args.length k4) a.nm a.ix (.slice p7 a.ws.length k7) (.slice p8 a.it.length k8) (.slice p9 a.el.length k9) (.slice p10 a.bf.length k10) (.slice p11 a.af.length k11),.agg #[.string cnm,.string par,.slice pf KF cf,.slice pb kb cb],.slice pi KB ci] W fun e w'=>e=.returned (.int .i64 (chkI fs B a))∧S16 w b (off+j*12) (.int .i64 a.kd) (.int .i64 a.e.op) (.int .i64 a.e.n) (.string a.e.nm) (.slice p4 a.e.args.length k4) (.string a.nm) (.string a.ix) (.slice p7 a.ws.length k7) (.slice p8 a.it.length k8) (.slice p9 a.el.length k9) (.slice p10 a.bf.length k10) (.slice p11 a.af.length k11) (.string cnm) (.string par) (.slice pf KF cf) (.slice pb kb cb) w'):=Lh fun W hS=>by
     have hW:=hS.2.2.2.2.2.2.2.2.2.2.2.2.2.2.2.2.out;have:=oneR_any fs hNm a _ _ _ _ _ _ B B' HBB.out (.agg #[.string cnm,.string par,.slice pf KF cf,.slice pb kb cb]) _ W.heap.size W.heap.size W ((HVA.out.under hW).wide hW.size) (C4.out W hW) ((HST.out.under hW).wide hW.size) (Nat.le_refl _) (Nat.le_refl _) hrs.1.1;rw [HKB.out] at this;exact this.mono fun e w' h=>⟨h.1,KE.out _ _ hS h.2⟩
    have KI:Hid (∀ W,S16 w b (off+j*12) (.int .i64 a.kd) (.int .i64 a.e.op) (.int .i64 a.e.n) (.string a.e.nm) (.slice p4 a.e.args.length k4) (.string a.nm) (.string a.ix) (.slice p7 a.ws.length k7) (.slice p8 a.it.length k8) (.slice p9 a.el.length k9) (.slice p10 a.bf.length k10) (.slice p11 a.af.length k11) (.string cnm) (.string par) (.slice pf KF cf) (.slice pb kb cb) W→Calls Tryz.prog 70 #[iv a.kd a.e.op a.e.n a.e.nm (.slice p4 a.e.args.length k4) a.nm a.ix (.slice p7 a.ws.length k7) (.slice p8 a.it.length k8) (.slice p9 a.el.length k9) (.slice p10 a.bf.length k10) (.slice p11 a.af.length k11),.slice pi KB ci] W fun e w'=>∃ v,e=.returned v∧S16 w b (off+j*12) (.int .i64 a.kd) (.int .i64 a.e.op) (.int .i64 a.e.n) (.string a.e.nm) (.slice p4 a.e.args.length k4) (.string a.nm) (.string a.ix) (.slice p7 a.ws.length k7) (.slice p8 a.it.length k8) (.slice p9 a.el.length k9) (.slice p10 a.bf.length k10) (.slice p11 a.af.length k11) (.string cnm) (.string par) (.slice pf KF cf) (.slice pb kb cb) w'∧Hid (StA w'.heap.size w' v (innR a.kd a.ix B'))):=Lh fun W hS=>by
     have hW:=hS.2.2.2.2.2.2.2.2.2.2.2.2.2.2.2.2.out;have hB2:=HKB.out;have:=innerR_any a _ _ _ _ _ _ B' _ W.heap.size W ((HVA.out.under hW).wide hW.size) ((HST.out.under hW).wide hW.size) (Nat.le_refl _) (by omega);rw [hB2] at this;refine (this.mono fun e w' ⟨v,h1,h2,h3⟩=>⟨v,h1,KE.out _ _ hS h3,Lh ?_⟩);have hil:=innR_len a.kd a.ix B';obtain⟨_,_,_,_,_,hsz2,_⟩:=HST.out;exact (own_StS h2 (by omega) (innR_sz hsz2 HVA.out.ix)).toAt fun b hb=>hb.2
    have K8:Hid (∀ W v,S16 w b (off+j*12) (.int .i64 a.kd) (.int .i64 a.e.op) (.int .i64 a.e.n) (.string a.e.nm) (.slice p4 a.e.args.length k4) (.string a.nm) (.string a.ix) (.slice p7 a.ws.length k7) (.slice p8 a.it.length k8) (.slice p9 a.el.length k9) (.slice p10 a.bf.length k10) (.slice p11 a.af.length k11) (.string cnm) (.string par) (.slice pf KF cf) (.slice pb kb cb) W→Hid (StA W.heap.size W v (innR a.kd a.ix B'))→Calls Tryz.prog 45 #[.slice p8 a.it.length k8,.agg #[.string cnm,.string par,.slice pf KF cf,.slice pb kb cb],v] W fun e w'=>e=.returned (.int .i64 (ckL fs (d+1) (inn a.kd a.ix B) a.it))∧S16 w b (off+j*12) (.int .i64 a.kd) (.int .i64 a.e.op) (.int .i64 a.e.n) (.string a.e.nm) (.slice p4 a.e.args.length k4) (.string a.nm) (.string a.ix) (.slice p7 a.ws.length k7) (.slice p8 a.it.length k8) (.slice p9 a.el.length k9) (.slice p10 a.bf.length k10) (.slice p11 a.af.length k11) (.string cnm) (.string par) (.slice pf KF cf) (.slice pb kb cb) w'):=Lh fun W v hS hv=>by
     have hW:=hS.2.2.2.2.2.2.2.2.2.2.2.2.2.2.2.2.out;have hil:=innR_len a.kd a.ix B';have hB2:=HKB.out;exact ((HIH.out a hmem).1 k' (d+1) _ (innR a.kd a.ix B') _ _ v W hd1 (fun s=>mem_innR a.kd a.ix B B' HBB.out s) (by omega) ((HVA.out.its.under hW).wide hW.size) (C4.out W hW) hv.out hrs.2.1).mono fun e w' h=>⟨h.1,KE.out _ _ hS h.2⟩
    have K9:Hid (∀ W,S16 w b (off+j*12) (.int .i64 a.kd) (.int .i64 a.e.op) (.int .i64 a.e.n) (.string a.e.nm) (.slice p4 a.e.args.length k4) (.string a.nm) (.string a.ix) (.slice p7 a.ws.length k7) (.slice p8 a.it.length k8) (.slice p9 a.el.length k9) (.slice p10 a.bf.length k10) (.slice p11 a.af.length k11) (.string cnm) (.string par) (.slice pf KF cf) (.slice pb kb cb) W→Calls Tryz.prog 45 #[.slice p9 a.el.length k9,.agg #[.string cnm,.string par,.slice pf KF cf,.slice pb kb cb],.slice pi KB ci] W fun e w'=>e=.returned (.int .i64 (ckL fs (d+1) B a.el))∧S16 w b (off+j*12) (.int .i64 a.kd) (.int .i64 a.e.op) (.int .i64 a.e.n) (.string a.e.nm) (.slice p4 a.e.args.length k4) (.string a.nm) (.string a.ix) (.slice p7 a.ws.length k7) (.slice p8 a.it.length k8) (.slice p9 a.el.length k9) (.slice p10 a.bf.length k10) (.slice p11 a.af.length k11) (.string cnm) (.string par) (.slice pf KF cf) (.slice pb kb cb) w'):=Lh fun W hS=>by
     have hW:=hS.2.2.2.2.2.2.2.2.2.2.2.2.2.2.2.2.out;have hB2:=HKB.out;have:=((HIH.out a hmem).2 k' (d+1) B B' _ (.agg #[.string cnm,.string par,.slice pf KF cf,.slice pb kb cb]) _ W hd2 HBB.out (by omega) ((HVA.out.els.under hW).wide hW.size) (C4.out W hW) ((HST.out.under hW).wide hW.size) hrs.2.2);rw [hB2] at this;exact this.mono fun e w' h=>⟨h.1,KE.out _ _ hS h.2⟩
    clear hcell hva e4 e7 e8 e9 e10 e11 ha hmem hrs HIH HVA C4 hd1 hd2 g0 g1 g2 g3 g4 g5 g6 g7 g8 g9 g10 g11 HR HRS HD;generalize chkI fs B a=E1 at *
    generalize ckL fs (d+1) (inn a.kd a.ix B) a.it=E2 at *
    generalize ckL fs (d+1) B a.el=E3 at *
    generalize innR a.kd a.ix B'=BI at *
    have s0d:=KE.out _ wr.drew s0 (Below.refl _ _).drew;by_cases h1:E1=0
    ·rw [h1] at K1;by_cases h2:E2=0
     ·rw [h2] at K8;by_cases h3:E3=0
      ·have VN:=Lh (AT.out.2.2.2 h1 h2 h3);rw [h3] at K9;clear h1 h2 h3 AT;go_wp2
       go_region_held3 (fun W=>W.cell? ⟨b,off+j*12,none⟩=some (.int .i64 a.kd)∧W.cell? ⟨b,off+j*12+1,none⟩=some (.int .i64 a.e.op)∧W.cell? ⟨b,off+j*12+2,none⟩=some (.int .i64 a.e.n)∧W.cell? ⟨b,off+j*12+3,none⟩=some (.string a.e.nm)∧W.cell? ⟨b,off+j*12+4,none⟩=some (.slice p4 a.e.args.length k4)∧W.cell? ⟨b,off+j*12+5,none⟩=some (.string a.nm)∧W.cell? ⟨b,off+j*12+6,none⟩=some (.string a.ix)∧W.cell? ⟨b,off+j*12+7,none⟩=some (.slice p7 a.ws.length k7)∧W.cell? ⟨b,off+j*12+8,none⟩=some (.slice p8 a.it.length k8)∧W.cell? ⟨b,off+j*12+9,none⟩=some (.slice p9 a.el.length k9)∧W.cell? ⟨b,off+j*12+10,none⟩=some (.slice p10 a.bf.length k10)∧W.cell? ⟨b,off+j*12+11,none⟩=some (.slice p11 a.af.length k11)∧W.cell? ⟨w.heap.size,0,none⟩=some (.string cnm)∧W.cell? ⟨w.heap.size,1,none⟩=some (.string par)∧W.cell? ⟨w.heap.size,2,none⟩=some (.slice pf KF cf)∧W.cell? ⟨w.heap.size,3,none⟩=some (.slice pb kb cb)∧Hid (Below w.heap.size w W))
        (first | with_reducible assumption | fail)
        (first
         | (go_at_call 85;(with_reducible refine (K1.out _ ?_).mono ?_);assumption;rintro x w1 ⟨rfl,s1⟩))
       clear s0 s0d K1;go_wp2;have s1d:=KE.out _ w1.drew s1 (Below.refl _ _).drew
       go_region_held3 (fun W=>W.cell? ⟨b,off+j*12,none⟩=some (.int .i64 a.kd)∧W.cell? ⟨b,off+j*12+1,none⟩=some (.int .i64 a.e.op)∧W.cell? ⟨b,off+j*12+2,none⟩=some (.int .i64 a.e.n)∧W.cell? ⟨b,off+j*12+3,none⟩=some (.string a.e.nm)∧W.cell? ⟨b,off+j*12+4,none⟩=some (.slice p4 a.e.args.length k4)∧W.cell? ⟨b,off+j*12+5,none⟩=some (.string a.nm)∧W.cell? ⟨b,off+j*12+6,none⟩=some (.string a.ix)∧W.cell? ⟨b,off+j*12+7,none⟩=some (.slice p7 a.ws.length k7)∧W.cell? ⟨b,off+j*12+8,none⟩=some (.slice p8 a.it.length k8)∧W.cell? ⟨b,off+j*12+9,none⟩=some (.slice p9 a.el.length k9)∧W.cell? ⟨b,off+j*12+10,none⟩=some (.slice p10 a.bf.length k10)∧W.cell? ⟨b,off+j*12+11,none⟩=some (.slice p11 a.af.length k11)∧W.cell? ⟨w.heap.size,0,none⟩=some (.string cnm)∧W.cell? ⟨w.heap.size,1,none⟩=some (.string par)∧W.cell? ⟨w.heap.size,2,none⟩=some (.slice pf KF cf)∧W.cell? ⟨w.heap.size,3,none⟩=some (.slice pb kb cb)∧Hid (Below w.heap.size w W))
        (first | with_reducible assumption | fail)
        (first
         | (go_at_call 70;(with_reducible refine (KI.out _ ?_).mono ?_);assumption;rintro x w2 ⟨v2,rfl,s2,t2⟩)
         | (go_at_call 45;(with_reducible refine (K8.out _ _ ?_ t2).mono ?_);assumption;rintro x w3 ⟨rfl,s3⟩))
       clear s1 s1d s2 t2 KI K8;go_wp2;have s3d:=KE.out _ w3.drew s3 (Below.refl _ _).drew
       go_region_held3 (fun W=>W.cell? ⟨b,off+j*12,none⟩=some (.int .i64 a.kd)∧W.cell? ⟨b,off+j*12+1,none⟩=some (.int .i64 a.e.op)∧W.cell? ⟨b,off+j*12+2,none⟩=some (.int .i64 a.e.n)∧W.cell? ⟨b,off+j*12+3,none⟩=some (.string a.e.nm)∧W.cell? ⟨b,off+j*12+4,none⟩=some (.slice p4 a.e.args.length k4)∧W.cell? ⟨b,off+j*12+5,none⟩=some (.string a.nm)∧W.cell? ⟨b,off+j*12+6,none⟩=some (.string a.ix)∧W.cell? ⟨b,off+j*12+7,none⟩=some (.slice p7 a.ws.length k7)∧W.cell? ⟨b,off+j*12+8,none⟩=some (.slice p8 a.it.length k8)∧W.cell? ⟨b,off+j*12+9,none⟩=some (.slice p9 a.el.length k9)∧W.cell? ⟨b,off+j*12+10,none⟩=some (.slice p10 a.bf.length k10)∧W.cell? ⟨b,off+j*12+11,none⟩=some (.slice p11 a.af.length k11)∧W.cell? ⟨w.heap.size,0,none⟩=some (.string cnm)∧W.cell? ⟨w.heap.size,1,none⟩=some (.string par)∧W.cell? ⟨w.heap.size,2,none⟩=some (.slice pf KF cf)∧W.cell? ⟨w.heap.size,3,none⟩=some (.slice pb kb cb)∧Hid (Below w.heap.size w W))
        (first | with_reducible assumption | fail)
        (first
         | (go_at_call 45;(with_reducible refine (K9.out _ ?_).mono ?_);assumption;rintro x w4 ⟨rfl,s4⟩))
       clear s3 s3d K9;go_wp2;have hB4:=s4.2.2.2.2.2.2.2.2.2.2.2.2.2.2.2.2.out;have HQ:=Lh (And.intro s4.2.2.2.2.2.2.2.2.2.2.2.2.1 (And.intro s4.2.2.2.2.2.2.2.2.2.2.2.2.2.1 (And.intro s4.2.2.2.2.2.2.2.2.2.2.2.2.2.2.1 s4.2.2.2.2.2.2.2.2.2.2.2.2.2.2.2.1)));go_roundw
       case rel=>exact⟨j+1,by omega,by go_num,VN,Lh hB4,HQ⟩
       case measure=>simp [intOf];omega
      ·have VN:=Lh (AT.out.2.2.1 h1 h2 h3);have f3:(E3 != 0)=true:=(by simpa using h3);clear h1 h2 AT;go_wp2
       go_region_held3 (fun W=>W.cell? ⟨b,off+j*12,none⟩=some (.int .i64 a.kd)∧W.cell? ⟨b,off+j*12+1,none⟩=some (.int .i64 a.e.op)∧W.cell? ⟨b,off+j*12+2,none⟩=some (.int .i64 a.e.n)∧W.cell? ⟨b,off+j*12+3,none⟩=some (.string a.e.nm)∧W.cell? ⟨b,off+j*12+4,none⟩=some (.slice p4 a.e.args.length k4)∧W.cell? ⟨b,off+j*12+5,none⟩=some (.string a.nm)∧W.cell? ⟨b,off+j*12+6,none⟩=some (.string a.ix)∧W.cell? ⟨b,off+j*12+7,none⟩=some (.slice p7 a.ws.length k7)∧W.cell? ⟨b,off+j*12+8,none⟩=some (.slice p8 a.it.length k8)∧W.cell? ⟨b,off+j*12+9,none⟩=some (.slice p9 a.el.length k9)∧W.cell? ⟨b,off+j*12+10,none⟩=some (.slice p10 a.bf.length k10)∧W.cell? ⟨b,off+j*12+11,none⟩=some (.slice p11 a.af.length k11)∧W.cell? ⟨w.heap.size,0,none⟩=some (.string cnm)∧W.cell? ⟨w.heap.size,1,none⟩=some (.string par)∧W.cell? ⟨w.heap.size,2,none⟩=some (.slice pf KF cf)∧W.cell? ⟨w.heap.size,3,none⟩=some (.slice pb kb cb)∧Hid (Below w.heap.size w W))
        (first | with_reducible assumption | fail)
        (first
         | (go_at_call 85;(with_reducible refine (K1.out _ ?_).mono ?_);assumption;rintro x w1 ⟨rfl,s1⟩))
       clear s0 s0d K1;go_wp2;have s1d:=KE.out _ w1.drew s1 (Below.refl _ _).drew
       go_region_held3 (fun W=>W.cell? ⟨b,off+j*12,none⟩=some (.int .i64 a.kd)∧W.cell? ⟨b,off+j*12+1,none⟩=some (.int .i64 a.e.op)∧W.cell? ⟨b,off+j*12+2,none⟩=some (.int .i64 a.e.n)∧W.cell? ⟨b,off+j*12+3,none⟩=some (.string a.e.nm)∧W.cell? ⟨b,off+j*12+4,none⟩=some (.slice p4 a.e.args.length k4)∧W.cell? ⟨b,off+j*12+5,none⟩=some (.string a.nm)∧W.cell? ⟨b,off+j*12+6,none⟩=some (.string a.ix)∧W.cell? ⟨b,off+j*12+7,none⟩=some (.slice p7 a.ws.length k7)∧W.cell? ⟨b,off+j*12+8,none⟩=some (.slice p8 a.it.length k8)∧W.cell? ⟨b,off+j*12+9,none⟩=some (.slice p9 a.el.length k9)∧W.cell? ⟨b,off+j*12+10,none⟩=some (.slice p10 a.bf.length k10)∧W.cell? ⟨b,off+j*12+11,none⟩=some (.slice p11 a.af.length k11)∧W.cell? ⟨w.heap.size,0,none⟩=some (.string cnm)∧W.cell? ⟨w.heap.size,1,none⟩=some (.string par)∧W.cell? ⟨w.heap.size,2,none⟩=some (.slice pf KF cf)∧W.cell? ⟨w.heap.size,3,none⟩=some (.slice pb kb cb)∧Hid (Below w.heap.size w W))
        (first | with_reducible assumption | fail)
        (first
         | (go_at_call 70;(with_reducible refine (KI.out _ ?_).mono ?_);assumption;rintro x w2 ⟨v2,rfl,s2,t2⟩)
         | (go_at_call 45;(with_reducible refine (K8.out _ _ ?_ t2).mono ?_);assumption;rintro x w3 ⟨rfl,s3⟩))
       clear s1 s1d s2 t2 KI K8;go_wp2;have s3d:=KE.out _ w3.drew s3 (Below.refl _ _).drew
       go_region_held3 (fun W=>W.cell? ⟨b,off+j*12,none⟩=some (.int .i64 a.kd)∧W.cell? ⟨b,off+j*12+1,none⟩=some (.int .i64 a.e.op)∧W.cell? ⟨b,off+j*12+2,none⟩=some (.int .i64 a.e.n)∧W.cell? ⟨b,off+j*12+3,none⟩=some (.string a.e.nm)∧W.cell? ⟨b,off+j*12+4,none⟩=some (.slice p4 a.e.args.length k4)∧W.cell? ⟨b,off+j*12+5,none⟩=some (.string a.nm)∧W.cell? ⟨b,off+j*12+6,none⟩=some (.string a.ix)∧W.cell? ⟨b,off+j*12+7,none⟩=some (.slice p7 a.ws.length k7)∧W.cell? ⟨b,off+j*12+8,none⟩=some (.slice p8 a.it.length k8)∧W.cell? ⟨b,off+j*12+9,none⟩=some (.slice p9 a.el.length k9)∧W.cell? ⟨b,off+j*12+10,none⟩=some (.slice p10 a.bf.length k10)∧W.cell? ⟨b,off+j*12+11,none⟩=some (.slice p11 a.af.length k11)∧W.cell? ⟨w.heap.size,0,none⟩=some (.string cnm)∧W.cell? ⟨w.heap.size,1,none⟩=some (.string par)∧W.cell? ⟨w.heap.size,2,none⟩=some (.slice pf KF cf)∧W.cell? ⟨w.heap.size,3,none⟩=some (.slice pb kb cb)∧Hid (Below w.heap.size w W))
        (first | with_reducible assumption | fail)
        (first
         | (go_at_call 45;(with_reducible refine (K9.out _ ?_).mono ?_);assumption;rintro x w4 ⟨rfl,s4⟩))
       clear s3 s3d K9;go_wp2;go_ret;exact tInt_mk VN.out s4.2.2.2.2.2.2.2.2.2.2.2.2.2.2.2.2.out
     ·have VN:=Lh (AT.out.2.1 h1 h2);have f2:(E2 != 0)=true:=(by simpa using h2);clear h1 AT K9;go_wp2
      go_region_held3 (fun W=>W.cell? ⟨b,off+j*12,none⟩=some (.int .i64 a.kd)∧W.cell? ⟨b,off+j*12+1,none⟩=some (.int .i64 a.e.op)∧W.cell? ⟨b,off+j*12+2,none⟩=some (.int .i64 a.e.n)∧W.cell? ⟨b,off+j*12+3,none⟩=some (.string a.e.nm)∧W.cell? ⟨b,off+j*12+4,none⟩=some (.slice p4 a.e.args.length k4)∧W.cell? ⟨b,off+j*12+5,none⟩=some (.string a.nm)∧W.cell? ⟨b,off+j*12+6,none⟩=some (.string a.ix)∧W.cell? ⟨b,off+j*12+7,none⟩=some (.slice p7 a.ws.length k7)∧W.cell? ⟨b,off+j*12+8,none⟩=some (.slice p8 a.it.length k8)∧W.cell? ⟨b,off+j*12+9,none⟩=some (.slice p9 a.el.length k9)∧W.cell? ⟨b,off+j*12+10,none⟩=some (.slice p10 a.bf.length k10)∧W.cell? ⟨b,off+j*12+11,none⟩=some (.slice p11 a.af.length k11)∧W.cell? ⟨w.heap.size,0,none⟩=some (.string cnm)∧W.cell? ⟨w.heap.size,1,none⟩=some (.string par)∧W.cell? ⟨w.heap.size,2,none⟩=some (.slice pf KF cf)∧W.cell? ⟨w.heap.size,3,none⟩=some (.slice pb kb cb)∧Hid (Below w.heap.size w W))
       (first | with_reducible assumption | fail)
       (first
        | (go_at_call 85;(with_reducible refine (K1.out _ ?_).mono ?_);assumption;rintro x w1 ⟨rfl,s1⟩))
      clear s0 s0d K1;go_wp2;have s1d:=KE.out _ w1.drew s1 (Below.refl _ _).drew
      go_region_held3 (fun W=>W.cell? ⟨b,off+j*12,none⟩=some (.int .i64 a.kd)∧W.cell? ⟨b,off+j*12+1,none⟩=some (.int .i64 a.e.op)∧W.cell? ⟨b,off+j*12+2,none⟩=some (.int .i64 a.e.n)∧W.cell? ⟨b,off+j*12+3,none⟩=some (.string a.e.nm)∧W.cell? ⟨b,off+j*12+4,none⟩=some (.slice p4 a.e.args.length k4)∧W.cell? ⟨b,off+j*12+5,none⟩=some (.string a.nm)∧W.cell? ⟨b,off+j*12+6,none⟩=some (.string a.ix)∧W.cell? ⟨b,off+j*12+7,none⟩=some (.slice p7 a.ws.length k7)∧W.cell? ⟨b,off+j*12+8,none⟩=some (.slice p8 a.it.length k8)∧W.cell? ⟨b,off+j*12+9,none⟩=some (.slice p9 a.el.length k9)∧W.cell? ⟨b,off+j*12+10,none⟩=some (.slice p10 a.bf.length k10)∧W.cell? ⟨b,off+j*12+11,none⟩=some (.slice p11 a.af.length k11)∧W.cell? ⟨w.heap.size,0,none⟩=some (.string cnm)∧W.cell? ⟨w.heap.size,1,none⟩=some (.string par)∧W.cell? ⟨w.heap.size,2,none⟩=some (.slice pf KF cf)∧W.cell? ⟨w.heap.size,3,none⟩=some (.slice pb kb cb)∧Hid (Below w.heap.size w W))
       (first | with_reducible assumption | fail)
       (first
        | (go_at_call 70;(with_reducible refine (KI.out _ ?_).mono ?_);assumption;rintro x w2 ⟨v2,rfl,s2,t2⟩)
        | (go_at_call 45;(with_reducible refine (K8.out _ _ ?_ t2).mono ?_);assumption;rintro x w3 ⟨rfl,s3⟩))
      clear s1 s1d s2 t2 KI K8;go_wp2;go_ret;exact tInt_mk VN.out s3.2.2.2.2.2.2.2.2.2.2.2.2.2.2.2.2.out
    ·have VN:=Lh (AT.out.1 h1);have f1:(E1 != 0)=true:=(by simpa using h1);clear AT K8 K9 KI;go_wp2
     go_region_held3 (fun W=>W.cell? ⟨b,off+j*12,none⟩=some (.int .i64 a.kd)∧W.cell? ⟨b,off+j*12+1,none⟩=some (.int .i64 a.e.op)∧W.cell? ⟨b,off+j*12+2,none⟩=some (.int .i64 a.e.n)∧W.cell? ⟨b,off+j*12+3,none⟩=some (.string a.e.nm)∧W.cell? ⟨b,off+j*12+4,none⟩=some (.slice p4 a.e.args.length k4)∧W.cell? ⟨b,off+j*12+5,none⟩=some (.string a.nm)∧W.cell? ⟨b,off+j*12+6,none⟩=some (.string a.ix)∧W.cell? ⟨b,off+j*12+7,none⟩=some (.slice p7 a.ws.length k7)∧W.cell? ⟨b,off+j*12+8,none⟩=some (.slice p8 a.it.length k8)∧W.cell? ⟨b,off+j*12+9,none⟩=some (.slice p9 a.el.length k9)∧W.cell? ⟨b,off+j*12+10,none⟩=some (.slice p10 a.bf.length k10)∧W.cell? ⟨b,off+j*12+11,none⟩=some (.slice p11 a.af.length k11)∧W.cell? ⟨w.heap.size,0,none⟩=some (.string cnm)∧W.cell? ⟨w.heap.size,1,none⟩=some (.string par)∧W.cell? ⟨w.heap.size,2,none⟩=some (.slice pf KF cf)∧W.cell? ⟨w.heap.size,3,none⟩=some (.slice pb kb cb)∧Hid (Below w.heap.size w W))
      (first | with_reducible assumption | fail)
      (first
       | (go_at_call 85;(with_reducible refine (K1.out _ ?_).mono ?_);assumption;rintro x w1 ⟨rfl,s1⟩))
     clear s0 s0d K1;go_wp2;go_ret;exact tInt_mk VN.out s1.2.2.2.2.2.2.2.2.2.2.2.2.2.2.2.2.out
   ·have VN:Hid (ckL fs d B l=0):=Lh (by have:=VW.out;rw [List.take_of_length_le (by rw [HK.out];omega)] at this;exact this);go_wp2;go_ret;exact tInt_mk VN.out BW.out
theorem itemCheckR_any (fs:List Fld) (hNm:∀ f∈fs,nmB f.nm.data.toList=true) (l:List It) (v cv:Value) (w:World) (hx:ItsA w.heap.size w v l) (hcl:ClA w.heap.size w cv fs) (hsz:iszs l≤10000) (hrs:RsL l) :
  Calls Tryz.prog 21 #[v,cv] w (tInt (checkI fs l) w):=by
 have HV:=Lh (itemValidR_any l v w hx hsz hrs);have HC:Hid (∀ W,Below w.heap.size w W→validI l=0→Calls Tryz.prog 45 #[v,cv,.slice none 0 0] W (tInt (ckL fs 0 [] l) W)):=(Lh fun W hW h0=>checkR_any fs hNm l 5 0 [] [] v cv _ W (dpt_valid h0) (fun _=>rfl) (by decide) ((hx.under hW).wide hW.size) ((hcl.under hW).wide hW.size) (StA.nil _ _ _ _) hrs);have EE:Hid (checkI fs l=if validI l=0 then ckL fs 0 [] l else validI l):=Lh rfl;obtain⟨p,cap,V,rfl,_⟩:=hx.form;obtain⟨cnm,par,vf,pb,kb,cb,rfl,pf,cf,rfl,_⟩:=hcl;generalize fs.length=KF at *
 have HB0:=Lh (ba w (.cells #[.string cnm,.string par,.slice pf KF cf,.slice pb kb cb] 34));have B4:=Blk.new w [.string cnm,.string par,.slice pf KF cf,.slice pb kb cb] 34;simp only [List.toArray] at B4;have HV2:Hid (∀ W,Below w.heap.size w W→Calls Tryz.prog 18 #[.slice p l.length cap] W (tInt (validI l) W)):=(Lh fun W hW=>itemValidR_any l _ W ((hx.under hW).wide hW.size) hsz hrs);generalize ckL fs 0 [] l=y at *
 generalize l.length=K at *
 obtain⟨W0,hW0⟩:∃ W0,w.alloc (.cells #[.string cnm,.string par,.slice pf KF cf,.slice pb kb cb] 34)=W0:=⟨_,rfl⟩;rw [hW0] at B4 HB0;have H4:=Lh B4;clear B4 HV;by_cases h:validI l=0
 ·rw [h] at EE HV2;rw [if_pos rfl] at EE
  go_enter Tryz.func21,Tryz.ntmps21
  go_wp2_with (first
   | (go_at_call 18;((with_reducible refine (HV2.out _ HB0.out).mono ?_);rintro e w1 ⟨rfl,hb⟩;have HB1:=Lh (HB0.out.then_ hb);have F4:=H4.out.stay hb;have a0:=F4.c 0 _ rfl;have a1:=F4.c 1 _ rfl;have a2:=F4.c 2 _ rfl;have a3:=F4.c 3 _ rfl;clear hb F4))
   | (go_at_call 45;((with_reducible refine (HC.out _ HB1.out h).mono ?_);rintro e w2 ⟨rfl,hb⟩;have HB2:=Lh (HB1.out.then_ hb);clear hb)))
  go_ret;exact tInt_mk EE.out HB2.out
 ·rw [if_neg h] at EE;generalize validI l=z at *
  have f1:(z != 0)=true:=by simpa using h
  go_enter Tryz.func21,Tryz.ntmps21
  go_wp2_with (first
   | (go_at_call 18;((with_reducible refine (HV2.out _ HB0.out).mono ?_);rintro e w1 ⟨rfl,hb⟩;have HB1:=Lh (HB0.out.then_ hb);clear hb)))
  go_ret;exact tInt_mk EE.out HB1.out
end ItW
end Go.Proofs.YtpejflgdehioaaaGreatDoor
