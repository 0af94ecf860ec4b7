/-
  Laws that the card uses; no conditions beside those that each states (ItRExd ItLUnr).
-/
import Derived.Test.YtpejflgdehioaaaGreatDoorU25
import Derived.Test.YtpejflgdehioaaaGreatDoorU42
import Derived.Test.YtpejflgdehioaaaGreatDoorU43
import Derived.Test.YtpejflgdehioaaaGreatDoorU44
import Derived.Test.YtpejflgdehioaaaGreatDoorU45
set_option maxRecDepth 100000
set_option maxHeartbeats 16000000
namespace Go.Proofs.YtpejflgdehioaaaGreatDoor
namespace ItW
open Go Go.RowKit NumM LexW LexM ExM ExW ItM
open ClM (Fld firstE_zero)
def badB (x:It):Bool:=askK x.kd&&!decide (vld x.e=0)
theorem flt_kind {d:Nat} {x:It} (h:fltI d x=0):1≤x.kd∧x.kd≤6:=by
 unfold fltI at h;split at h
 ·cases h
 ·rename_i hc;rw [Bool.or_eq_true,not_or] at hc;have hk:=hc.1;simp only [Bool.not_eq_true',Bool.not_eq_false] at hk;unfold kindB at hk
  simpa only [Bool.and_eq_true,decide_eq_true_eq] using hk
theorem kinds_ex (fs:List Fld) (l:List It):∀ (q:Option Ex) (σ:Ex→Ex) (d:Nat) (B:List ByteArray),(∀ p∈wks d B l,fltP p=0)→∀ y∈exL fs q σ l,y.kd=1∨y.kd=2∨y.kd=3∨y.kd=6:=by
 induction l using its_rec with
 | h0=>intro q σ d B _ y hy;rw [exL_nil] at hy;cases hy
 | h1 x r h1 h2 h3 =>
  intro q σ d B hp y hy;rw [wks_cons,wk_eq] at hp;have hpx:=hp _ (List.mem_append_left _ List.mem_cons_self);have hpi:∀ p∈wks (d+1) (inn x.kd x.ix B) x.it,fltP p=0:=(fun p h=>hp p (List.mem_append_left _ (List.mem_cons_of_mem _ (List.mem_append_left _ h))));have hpe:∀ p∈wks (d+1) B x.el,fltP p=0:=(fun p h=>hp p (List.mem_append_left _ (List.mem_cons_of_mem _ (List.mem_append_right _ h))));have hpr:∀ p∈wks d B r,fltP p=0:=(fun p h=>hp p (List.mem_append_right _ h));rw [exL_cons] at hy;rcases List.mem_append.1 hy with hy | hy
  ·rw [exI_eq] at hy;split at hy
   ·rcases List.mem_append.1 hy with hy | hy
    ·exact h1 _ _ _ _ hpi y hy
    ·exact h2 _ _ _ _ hpe y hy
   ·rename_i k4;split at hy
    ·obtain⟨k,_,hy⟩:=List.mem_flatMap.1 hy;exact h1 _ _ _ _ hpi y hy
    ·rename_i k5;split at hy
     ·rename_i k12;rw [List.mem_singleton] at hy;subst hy;show x.kd=1∨x.kd=2∨x.kd=3∨x.kd=6;omega
     ·rename_i k12;rw [List.mem_singleton] at hy;subst hy;show x.kd=1∨x.kd=2∨x.kd=3∨x.kd=6;have hk:1≤x.kd∧x.kd≤6:=flt_kind (d:=d) hpx;omega
  ·exact h3 _ _ _ _ hpr y hy
theorem rs_ex {fs:List Fld} (l:List It):∀ (q:Option Ex) (σ:Ex→Ex),RsL l→(∀ x∈exL fs q σ l,sz x.e≤10000)→∀ x∈exL fs q σ l,RsI x:=by
 induction l using its_rec with
 | h0=>intro q σ _ _ y hy;rw [exL_nil] at hy;cases hy
 | h1 x r h1 h2 h3 =>
  intro q σ hr hs y hy;rw [rsL_cons,rsI_eq] at hr;rw [exL_cons] at hy hs;have hsz:=hs y hy;rcases List.mem_append.1 hy with hy | hy
  ·have hs1:∀ z∈exI fs q σ x,sz z.e≤10000:=(fun z hz=>hs z (List.mem_append_left _ hz));rw [exI_eq] at hy hs1;split at hy
   ·rename_i k4;rw [if_pos k4] at hs1;rcases List.mem_append.1 hy with hy | hy
    ·exact h1 _ _ hr.1.2.1 (fun z hz=>hs1 z (List.mem_append_left _ hz)) y hy
    ·exact h2 _ _ hr.1.2.2 (fun z hz=>hs1 z (List.mem_append_right _ hz)) y hy
   ·rename_i k4;rw [if_neg k4] at hs1;split at hy
    ·rename_i k5;rw [if_pos k5] at hs1;obtain⟨k,hk,hy⟩:=List.mem_flatMap.1 hy;exact h1 _ _ hr.1.2.1 (fun z hz=>hs1 z (List.mem_flatMap.2 ⟨k,hk,hz⟩)) y hy
    ·split at hy
     ·rw [List.mem_singleton] at hy;subst hy;rw [rsI_eq];exact⟨⟨hsz,by simp [hardI,It.ws],by simp [hardI,It.bf],by simp [hardI,It.af]⟩,rsL_nil,rsL_nil⟩
     ·rw [List.mem_singleton] at hy;subst hy;rw [rsI_eq];exact⟨⟨hsz,hr.1.1.2.1,hr.1.1.2.2.1,hr.1.1.2.2.2⟩,rsL_nil,rsL_nil⟩
  ·exact h3 _ _ hr.2 (fun z hz=>hs z (List.mem_append_right _ hz)) y hy
theorem exp_rs {fs:List Fld} {l:List It} (hrs:RsL l) (hsm:SmE l):RsL (expS fs l).1:=by
 unfold expS;split
 ·rename_i hk;have hv:validI l=0:=by
   unfold checkI at hk;split at hk
   ·assumption
   ·exact hk
  split
  ·exact rsL_nil
  ·split
   ·exact rsL_nil
   ·exact rsL_mem.2 (rs_ex l _ _ hrs (exL_sz fs l 5 none (fun a=>a) (dpt_valid hv) (by decide) hsm (fun _=>Nat.le_refl _) (fun c hc=>by cases hc)))
 ·exact rsL_nil
theorem badB_eq {x:It} (h:x.kd=1∨x.kd=2∨x.kd=3∨x.kd=6):badB x=largeB x:=by
 unfold badB largeB;rcases h with h | h | h | h<;>rw [h]<;>rfl
theorem any_bad {X:List It} (h:∀ x∈X,x.kd=1∨x.kd=2∨x.kd=3∨x.kd=6):X.any badB=X.any largeB:=by
 rw [Bool.eq_iff_iff,List.any_eq_true,List.any_eq_true];exact⟨fun ⟨x,h1,h2⟩=>⟨x,h1,by rw [←badB_eq (h x h1)];exact h2⟩,fun ⟨x,h1,h2⟩=>⟨x,h1,by rw [badB_eq (h x h1)];exact h2⟩⟩
theorem exp_by {fs:List Fld} (hF:∀ f∈fs,0≤f.sz∧f.sz≤8) {l X:List It} (hX:rxA fs none (fun a=>a) 0 l=X) (h0:checkI fs l=0) :
  (400<X.length→expS fs l=([],2))∧(X.length≤400→X=exL fs none (fun a=>a) l∧expS fs l=if X.any badB=true then ([],2) else (X,0)):=by
 have hv:validI l=0:=by
  unfold checkI at h0;split at h0
  ·assumption
  ·exact h0
 have hf:firstV l=0:=by
  unfold validI at hv;split at hv
  ·cases hv
  ·exact hv
 have hfl:∀ p∈wks 0 [] l,fltP p=0:=(fun p hp=>firstE_zero.1 hf _ (List.mem_map_of_mem hp));obtain⟨x1,x2⟩:=rx_eq fs l none (fun a=>a) 0 0 [] hfl (Nat.zero_le _);rw [hX,Nat.zero_add] at x1 x2;rw [Nat.zero_add] at x2;have hlen:=exL_len fs hF l none (fun a=>a);have hk:=kinds_ex fs l none (fun a=>a) 0 [] hfl;constructor
 ·intro h;have h4:400<cntL fs l:=by
   rcases Nat.lt_or_ge 400 (exL fs none (fun a=>a) l).length with g | g
   ·omega
   ·rw [x1 g] at h;omega
  unfold expS;rw [if_pos h0,if_pos h4]
 ·intro h;have g:(exL fs none (fun a=>a) l).length≤400:=by
   rcases Nat.lt_or_ge 400 (exL fs none (fun a=>a) l).length with g | g
   ·have:=x2 g;omega
   ·exact g
  have e:=x1 g;refine⟨e,?_⟩;unfold expS;rw [if_pos h0,if_neg (by omega),e,any_bad hk]
theorem itemExpandR_any (fs:List Fld) (hF:∀ f∈fs,0≤f.sz∧f.sz≤8) (hNm:∀ f∈fs,nmB f.nm.data.toList=true) (l:List It) (v cv:Value) (w:World) (hx:ItsA w.heap.size w v l) (hc:ClA w.heap.size w cv fs) (hsz:iszs l≤100) (hrs:RsL l) (hsm:SmE l) :
  Calls Tryz.prog 23 #[v,cv] w (tLE (expS fs l) w):=by
 obtain⟨X,hX⟩:∃ X,rxA fs none (fun a=>a) 0 l=X:=⟨_,rfl⟩;obtain⟨E,hE⟩:∃ E,checkI fs l=E:=⟨_,rfl⟩;have KC0:Hid (∀ W,Below w.heap.size w W→Calls Tryz.prog 21 #[v,cv] W (tInt E W)):=Lh fun W hW=>by
  have:=itemCheckR_any fs hNm l v cv W ((hx.under hW).wide hW.size) ((hc.under hW).wide hW.size) (by omega) hrs;rw [hE] at this;exact this
 have hvl:checkI fs l=0→validI l=0:=fun hk=>by
  unfold checkI at hk;split at hk
  ·assumption
  ·exact hk
 have XC0:Hid (checkI fs l=0→∀ W,Below w.heap.size w W→Calls Tryz.prog 49 #[v,cv,.slice none 0 0] W fun e w'=>∃ v',e=.returned v'∧Hid (ItsA w'.heap.size w' v' X)∧Hid (Below W.heap.size W w')):=Lh fun hk W hW=>by
  have hd:=dpt_valid (hvl hk);have hb:∀ b,b<w.heap.size→b<W.heap.size:=(fun b hb=>Nat.lt_of_lt_of_le hb hW.size);have:=expandR_any fs hF l 5 none (fun a=>a) (fun b=>b<w.heap.size) v cv (.slice none 0 0) W hd (by decide) hsz hrs (fun _=>Nat.le_refl _) (its_cast (hx.toS.eq fun b hb=>⟨hb,hW.block b hb⟩) (smL_id l).symm) ⟨none,0,rfl⟩ hb ((hc.under hW).wide hW.size);refine (this.mono fun e w' ⟨v',n0,L,h1,h2,h3,h4⟩=>⟨v',h1,Lh ?_,Lh h4⟩);have hlen:L.length≤26214400:=by
   have h5:=rx_len fs hF l none (fun a=>a) 0 5 hd;have h6:=congrArg List.length h2;rw [List.length_map] at h6;have h7:iszs l*8 ^ 5≤100*8 ^ 5:=Nat.mul_le_mul_right _ hsz;have h8:100*8 ^ 5≤26214400:=(by decide);omega
  have h9:=h3.its (S':=fun b=>b<w'.heap.size) (by omega) (fun b hb'=>hb'.elim (fun g=>by have:=hb b g;have:=h4.size;omega) fun g=>g.2) (fun b e=>(h3.row.lt b e).2);rw [h2,hX] at h9;exact h9.toA fun _ h=>h
 have EXB:Hid (checkI fs l=0→(400<X.length→expS fs l=([],2))∧(X.length≤400→X=exL fs none (fun a=>a) l∧expS fs l=if X.any badB=true then ([],2) else (X,0))):=(Lh fun hk=>exp_by hF hX hk);have XSZ:Hid (checkI fs l=0→∀ x∈exL fs none (fun a=>a) l,sz x.e≤10000):=(Lh fun hk=>exL_sz fs l 5 none (fun a=>a) (dpt_valid (hvl hk)) (by decide) hsm (fun _=>Nat.le_refl _) (fun c hc=>by cases hc));have ENO:Hid (checkI fs l≠0→expS fs l=([],E)):=(Lh fun hk=>by unfold expS;rw [if_neg hk,hE]);obtain⟨p,cap,V,rfl,_⟩:=hx.form;obtain⟨cnm,par,vf,pb,kb,cb,rfl,pf,cf,rfl,_⟩:=hc;obtain⟨KF,hKF⟩:∃ K,fs.length=K:=⟨_,rfl⟩;rw [hKF] at KC0 XC0 ⊢;obtain⟨KL,hKL⟩:∃ K,l.length=K:=⟨_,rfl⟩;rw [hKL] at KC0 XC0 ⊢;have hb0:=ba w (.cells #[.string cnm,.string par,.slice pf KF cf,.slice pb kb cb] 34);have B4:=Blk.new w [.string cnm,.string par,.slice pf KF cf,.slice pb kb cb] 34;simp only [List.toArray] at B4;obtain⟨W0,hW0⟩:∃ W0,w.alloc (.cells #[.string cnm,.string par,.slice pf KF cf,.slice pb kb cb] 34)=W0:=⟨_,rfl⟩;rw [hW0] at B4 hb0;have HB0:=Lh hb0;have H4:=Lh B4;have a0:=B4.c 0 _ rfl;have a1:=B4.c 1 _ rfl;have a2:=B4.c 2 _ rfl;have a3:=B4.c 3 _ rfl;have hEE:checkI fs l=0↔E=0:=(by rw [hE]);clear hx hsz hrs hsm hX hE hKF hKL hvl B4 hb0;obtain⟨RR,hRR⟩:∃ RR,expS fs l=RR:=⟨_,rfl⟩;rw [hRR] at EXB ENO ⊢;clear hRR;by_cases h0:E=0
 ·have hc0:=hEE.2 h0;have XC:Hid (∀ W,Below w.heap.size w W→Calls Tryz.prog 49 #[.slice p KL cap,.agg #[.string cnm,.string par,.slice pf KF cf,.slice pb kb cb],.slice none 0 0] W fun e w'=>∃ v',e=.returned v'∧Hid (ItsA w'.heap.size w' v' X)∧Hid (Below W.heap.size W w')):=Lh (XC0.out hc0);obtain⟨x1,x2⟩:=EXB.out hc0;have XS:=Lh (XSZ.out hc0);subst h0;clear XC0 EXB XSZ ENO hEE hc0
  go_enter Tryz.func23,Tryz.ntmps23
  go_wp2_with (go_at_call 21;((with_reducible refine (KC0.out _ HB0.out).mono ?_);rintro e w1 ⟨rfl,hb⟩;have HB1:=Lh (HB0.out.then_ hb);have F4:=H4.out.stay hb;clear a0 a1 a2 a3;have a0:=F4.c 0 _ rfl;have a1:=F4.c 1 _ rfl;have a2:=F4.c 2 _ rfl;have a3:=F4.c 3 _ rfl;clear hb F4))
  go_at_call 49
  refine (XC.out _ HB1.out).mono ?_;rintro e w2 ⟨u,rfl,hu,hb2⟩;obtain⟨pu,cu,VU,rfl,hru⟩:=hu.out.form;have HRU:=Lh hru;have HUI:=Lh hu.out;obtain⟨K,hK⟩:∃ K,X.length=K:=⟨_,rfl⟩;have hl:=hru.hl;rw [hK] at hl HUI ⊢;have hk47:K≤140737488351232:=(by omega);rw [hK] at x1 x2;have HK:=Lh hK;have HB2:=Lh (HB1.out.then_ hb2.out);clear hru hK hu hb2 hl a0 a1 a2 a3;by_cases h4:400<K
  ·have hR:=x1 h4;clear x1 x2;go_wp2;go_ret2;rw [hR];exact⟨_,rfl,ItsA.nil _ _ _ _,HB2.out⟩
  ·obtain⟨e1,e2⟩:=x2 (by omega);have E1:=Lh e1;have E2:=Lh e2;clear x1 x2 e1 e2;go_wp2;go_loopw [8] (fun i wr=>∃ j:Nat,j≤K∧i=.int .i64 j∧Hid (∀ (i:Nat) (x:It),i<j→X[i]? = some x→badB x=false)∧Hid (Below w2.heap.size w2 wr)) (fun i _=>K - (intOf i).toNat)
   case atStart=>exact⟨0,Nat.zero_le _,rfl,Lh (fun i x h=>absurd h (Nat.not_lt_zero _)),Lh (Below.refl _ _)⟩
   case round =>
    obtain⟨j,hj,rfl,HN,BW⟩:=hrel;by_cases hlt:j<K
    ·obtain⟨a,ha⟩:∃ a,X[j]? = some a:=⟨_,List.getElem?_eq_getElem (by rw [HK.out];exact hlt)⟩;have hmem:=List.mem_of_getElem? ha;obtain⟨b,off,rfl,hb,hcell⟩:=HRU.out.hp (by rw [HK.out];omega);have hva:=HRU.out.hv j a ha;have hc:=(hcell j a ha).kept (low_cells BW.out b · hb);obtain⟨p4,k4,p7,k7,p8,k8,p9,k9,p10,k10,p11,k11,e4,e7,e8,e9,e10,e11⟩:=hva.slices;rw [e4,e7,e8,e9,e10,e11] at hva;obtain⟨g0,g1,g2,g3,g4,_⟩:=hc;rw [e4] at g4;have AC:Hid (∀ W,Calls Tryz.prog 50 #[.int .i64 a.kd] W fun e w'=>e=.returned (.bool (askK a.kd))∧W=w'):=(Lh fun W=>asksR_any a.kd W);have VC:Hid (Calls Tryz.prog 51 #[xv a.e.op a.e.n a.e.nm (.slice p4 a.e.args.length k4)] wr (tInt (vld a.e) wr)):=Lh (validR_any a.e _ wr ((hva.ex.under BW.out).wide BW.out.size) (XS.out a (by rw [←E1.out];exact hmem)));have HSTEP:Hid (badB a=false→∀ (i:Nat) (x:It),i<j+1→X[i]? = some x→badB x=false):=Lh fun hb i x hi hx=>by
      rcases Nat.lt_or_ge i j with h | h
      ·exact HN.out i x h hx
      ·obtain rfl:i=j:=(by omega);rw [ha] at hx;cases hx;exact hb
     have HBAD:Hid (badB a=true→RR=([],2)):=(Lh fun hb=>by rw [E2.out,if_pos (List.any_eq_true.2 ⟨a,hmem,hb⟩)]);have HBB:Hid (badB a=(askK a.kd&&!decide (vld a.e=0))):=Lh rfl;clear hcell hva e4 e7 e8 e9 e10 e11 ha hmem;generalize vld a.e=z at *
     cases hk:askK a.kd
     ·rw [hk] at AC HBB;clear VC hk;go_wp2_with (go_at_call 50;((with_reducible refine (AC.out _).mono ?_);rintro e w5 ⟨rfl,rfl⟩))
      go_roundw
      case rel=>exact⟨j+1,by omega,by go_num,Lh (HSTEP.out (by rw [HBB.out];rfl)),BW⟩
      case measure=>simp [intOf];omega
     ·rw [hk] at AC HBB;clear hk;by_cases hz:z=0
      ·subst hz;go_wp2_with (first
        | (go_at_call 50;((with_reducible refine (AC.out _).mono ?_);rintro e w5 ⟨rfl,rfl⟩))
        | (go_at_call 51;((with_reducible refine VC.out.mono ?_);rintro e w6 ⟨rfl,hb6⟩;have HB6:=Lh hb6;clear hb6)))
       go_roundw
       case rel=>exact⟨j+1,by omega,by go_num,Lh (HSTEP.out (by rw [HBB.out];rfl)),Lh (BW.out.then_ HB6.out)⟩
       case measure=>simp [intOf];omega
      ·have f1:(z != 0)=true:=(by simpa using hz);have hR:=HBAD.out (by rw [HBB.out,decide_eq_false hz];rfl);go_wp2_with (first
        | (go_at_call 50;((with_reducible refine (AC.out _).mono ?_);rintro e w5 ⟨rfl,rfl⟩))
        | (go_at_call 51;((with_reducible refine VC.out.mono ?_);rintro e w6 ⟨rfl,hb6⟩;have HB6:=Lh hb6;clear hb6)))
       go_ret2;rw [hR];exact⟨_,rfl,ItsA.nil _ _ _ _,HB2.out.then_ (BW.out.then_ HB6.out)⟩
    ·have hnone:X.any badB=false:=by
      cases h:X.any badB with
      | false=>rfl
      | true =>
       obtain⟨x,hx,hb⟩:=List.any_eq_true.1 h;obtain⟨i,hi,he⟩:=List.getElem_of_mem hx;have:=HN.out i x (by have:=HK.out;omega) (by rw [List.getElem?_eq_getElem hi,he]);rw [this] at hb;cases hb
     have hR:RR=(X,0):=(by rw [E2.out,hnone];rfl);clear hnone;go_wp2;go_ret2;rw [hR];exact⟨_,rfl,(HUI.out.under BW.out).wide BW.out.size,HB2.out.then_ BW.out⟩
 ·have hR:=ENO.out (fun h=>h0 (hEE.1 h));have f1:(E != 0)=true:=(by simpa using h0);clear XC0 EXB XSZ ENO hEE h0
  go_enter Tryz.func23,Tryz.ntmps23
  go_wp2_with (go_at_call 21;((with_reducible refine (KC0.out _ HB0.out).mono ?_);rintro e w1 ⟨rfl,hb⟩;have HB1:=Lh (HB0.out.then_ hb);clear hb))
  go_ret2;rw [hR];exact⟨_,rfl,ItsA.nil _ _ _ _,HB1.out⟩
end ItW
namespace ItW
open Go Go.RowKit Go.Shelf Go.«Sort» NumM LexW LexM ExM ExW ItM
open ClM (Fld)
theorem itemUnrolls_any (l:List It) (fs:List Fld) (v cv:Value) (w:World) (hx:ItsA w.heap.size w v l) (hc:ClA w.heap.size w cv fs) (hz:iszs l≤2000000) (ht:TabI w) :
  Calls Tryz.prog 5 #[v,cv] w fun e w'=>e=.returned (.bool true)∧Below w.heap.size w w':=by
 have FC0:Hid (∀ W,Below w.heap.size w W→Calls Tryz.prog 10 #[v] W fun e w'=>e=.returned (.bool (fewB l))∧Below W.heap.size W w'):=(Lh fun W hW=>fewI_any l v W.heap.size W hz ((hx.under hW).wide hW.size) (Nat.le_refl _));have SM0:Hid (∀ W,Below w.heap.size w W→Calls Tryz.prog 19 #[cv] W (tSml fs W)):=(Lh fun W hW=>small_any fs cv W.heap.size W ((hc.under hW).wide hW.size) (Nat.le_refl _));have AW0:Hid (∀ W,Below w.heap.size w W→Calls Tryz.prog 11 #[] W fun e w'=>e=.returned (.bool true)∧Below W.heap.size W w'):=(Lh fun W hW=>awake_any W (ht.later hW));obtain⟨out,hout⟩:∃ out,(expS fs l).1=out:=⟨_,rfl⟩;obtain⟨E,hE⟩:∃ E,(expS fs l).2=E:=⟨_,rfl⟩;have hOE:expS fs l=(out,E):=(by rw [←hout,←hE]);have EX0:Hid (fewB l=true→(fs.length≤20∧∀ f∈fs,SmF f)→∀ W,Below w.heap.size w W→Calls Tryz.prog 22 #[v,cv] W (tLE (out,E) W)):=Lh fun hf hsm W hW=>by
  obtain⟨h1,h2⟩:=few_true hf;have:=itemExpand_any fs (fun f hf=>(hsm.2 f hf).1) (by have:=hsm.1;omega) l v cv W ((hx.under hW).wide hW.size) ((hc.under hW).wide hW.size) (by omega) (fw_rs l h1) (fw_sm h1) (ht.later hW);rw [hOE] at this;exact this
 have ER0:Hid (fewB l=true→(fs.length≤20∧∀ f∈fs,SmF f)→∀ W,Below w.heap.size w W→Calls Tryz.prog 23 #[v,cv] W (tLE (out,E) W)):=Lh fun hf hsm W hW=>by
  obtain⟨h1,h2⟩:=few_true hf;have:=itemExpandR_any fs (fun f hf=>(hsm.2 f hf).1) (fun f hf=>(hsm.2 f hf).2) l v cv W ((hx.under hW).wide hW.size) ((hc.under hW).wide hW.size) (by omega) (fw_rs l h1) (fw_sm h1);rw [hOE] at this;exact this
 have RO:Hid (fewB l=true→RsL out):=Lh fun hf=>by
  have:=exp_rs (fs:=fs) (fw_rs l (few_true hf).1) (fw_sm (few_true hf).1);rw [hout] at this;exact this
 obtain⟨cnm,par,vf,pb,kb,cb,rfl,pf,cf,rfl,_⟩:=hc;obtain⟨KF,hKF⟩:∃ K,fs.length=K:=⟨_,rfl⟩;rw [hKF] at SM0 EX0 ER0 ⊢;have l2:=ba w (.cells #[.string cnm,.string par,.slice pf KF cf,.slice pb kb cb] 34);have B3:=Four.new w (.string cnm) (.string par) (.slice pf KF cf) (.slice pb kb cb) 34;obtain⟨W0,hW0⟩:∃ W0,w.alloc (.cells #[.string cnm,.string par,.slice pf KF cf,.slice pb kb cb] 34)=W0:=⟨_,rfl⟩;rw [hW0] at B3 l2;have HB:=Lh l2;have H3:=Lh B3;have HX:=Lh (Below.refl W0.heap.size W0);have a0:=B3.c0;have a1:=B3.c1;have a2:=B3.c2;have a3:=B3.c3;have FC:Hid (∀ W,Below W0.heap.size W0 W→Calls Tryz.prog 10 #[v] W fun e w'=>e=.returned (.bool (fewB l))∧Below W.heap.size W w'):=(Lh fun W hW=>FC0.out W (HB.out.then_ hW));have AW:Hid (∀ W,Below W0.heap.size W0 W→Calls Tryz.prog 11 #[] W fun e w'=>e=.returned (.bool true)∧Below W.heap.size W w'):=(Lh fun W hW=>AW0.out W (HB.out.then_ hW));have SM:Hid (∀ W,Below W0.heap.size W0 W→Calls Tryz.prog 19 #[.agg #[.string cnm,.string par,.slice pf KF cf,.slice pb kb cb]] W fun e w'=>∃ b,e=.returned (.bool b)∧Below W.heap.size W w'∧(b=true→fs.length≤20∧∀ f∈fs,SmF f)):=(Lh fun W hW=>SM0.out W (HB.out.then_ hW));clear B3 l2 hx ht FC0 SM0 AW0 hE hout hOE hz;cases hf:fewB l
 ·rw [hf] at FC;clear EX0 ER0 RO SM hf
  go_enter Tryz.func5,Tryz.ntmps5
  go_wp2_with (first
   | (go_at_call 10;((with_reducible refine (FC.out _ HX.out).mono ?_);rintro e w1 ⟨rfl,hb⟩;have HX:=Lh (HX.out.then_ hb);(try clear a0 a1 a2 a3);have F3:=H3.out.stay HX.out;have a0:=F3.c0;have a1:=F3.c1;have a2:=F3.c2;have a3:=F3.c3;clear F3;clear hb))
   | (go_at_call 11;((with_reducible refine (AW.out _ HX.out).mono ?_);rintro e w9 ⟨rfl,hb⟩;have HX:=Lh (HX.out.then_ hb);(try clear a0 a1 a2 a3);have F3:=H3.out.stay HX.out;have a0:=F3.c0;have a1:=F3.c1;have a2:=F3.c2;have a3:=F3.c3;clear F3;clear hb)))
  go_ret;exact fin_yes (HB.out.then_ HX.out)
 ·rw [hf] at FC
  go_enter Tryz.func5,Tryz.ntmps5
  go_wp2_with (go_at_call 10;((with_reducible refine (FC.out _ HX.out).mono ?_);rintro e w1 ⟨rfl,hb⟩;have HX:=Lh (HX.out.then_ hb);(try clear a0 a1 a2 a3);have F3:=H3.out.stay HX.out;have a0:=F3.c0;have a1:=F3.c1;have a2:=F3.c2;have a3:=F3.c3;clear F3;clear hb))
  go_at_call 19
  refine (SM.out _ HX.out).mono ?_;rintro e w2 ⟨b2,rfl,hb,hsm⟩;have HX:=Lh (HX.out.then_ hb)
  (try clear a0 a1 a2 a3);have F3:=H3.out.stay HX.out;have a0:=F3.c0;have a1:=F3.c1;have a2:=F3.c2;have a3:=F3.c3;clear F3
  clear hb;cases b2
  ·clear EX0 ER0 RO hsm;go_wp2_with (first
    | (go_at_call 11;((with_reducible refine (AW.out _ HX.out).mono ?_);rintro e w9 ⟨rfl,hb⟩;have HX:=Lh (HX.out.then_ hb);(try clear a0 a1 a2 a3);have F3:=H3.out.stay HX.out;have a0:=F3.c0;have a1:=F3.c1;have a2:=F3.c2;have a3:=F3.c3;clear F3;clear hb)))
   go_ret;exact fin_yes (HB.out.then_ HX.out)
  ·have hsm':=hsm rfl;rw [hKF] at hsm';have EX:Hid (∀ W,Below W0.heap.size W0 W→Calls Tryz.prog 22 #[v,.agg #[.string cnm,.string par,.slice pf KF cf,.slice pb kb cb]] W fun x w'=>∃ vo,x=.returned (.tuple #[vo,.int .i64 E])∧ItsA w'.heap.size w' vo out∧Below W.heap.size W w'):=(Lh fun W hW=>EX0.out hf hsm' W (HB.out.then_ hW));have ER:Hid (∀ W,Below W0.heap.size W0 W→Calls Tryz.prog 23 #[v,.agg #[.string cnm,.string par,.slice pf KF cf,.slice pb kb cb]] W fun x w'=>∃ vo,x=.returned (.tuple #[vo,.int .i64 E])∧ItsA w'.heap.size w' vo out∧Below W.heap.size W w'):=(Lh fun W hW=>ER0.out hf hsm' W (HB.out.then_ hW));have S2:Hid (∀ W va vb,ItsA W.heap.size W va out→ItsA W.heap.size W vb out→Calls Tryz.prog 24 #[va,vb] W fun e w'=>e=.returned (.bool true)∧Below W.heap.size W w'):=(Lh fun W va vb ha hb=>sameIR_any out va vb W.heap.size W ha hb (Nat.le_refl _) (RO.out hf));clear EX0 ER0 RO hsm hsm' SM FC hf;have hEE:(E == E)=true:=(by simp);go_wp2_with (go_at_call 10;skip)
   go_at_call 22
   refine (EX.out _ HX.out).mono ?_;rintro e w5 ⟨v5,rfl,ho5,hb⟩;have HX:=Lh (HX.out.then_ hb)
   (try clear a0 a1 a2 a3);have F3:=H3.out.stay HX.out;have a0:=F3.c0;have a1:=F3.c1;have a2:=F3.c2;have a3:=F3.c3;clear F3
   have HO5:=Lh ho5;clear hb ho5;go_wp2_with (go_at_call 10;skip)
   go_at_call 23
   refine (ER.out _ HX.out).mono ?_;rintro e w6 ⟨v6,rfl,ho6,hb⟩;have HX:=Lh (HX.out.then_ hb);have HZ:=Lh hb
   (try clear a0 a1 a2 a3);have F3:=H3.out.stay HX.out;have a0:=F3.c0;have a1:=F3.c1;have a2:=F3.c2;have a3:=F3.c3;clear F3
   have HO6:=Lh ho6;clear hb ho6;go_wp2_with (first
    | (go_at_call 24;((with_reducible refine (S2.out _ _ _ ((HO5.out.under HZ.out).wide HZ.out.size) HO6.out).mono ?_);rintro e w8 ⟨rfl,hb⟩;have HX:=Lh (HX.out.then_ hb);(try clear a0 a1 a2 a3);have F3:=H3.out.stay HX.out;have a0:=F3.c0;have a1:=F3.c1;have a2:=F3.c2;have a3:=F3.c3;clear F3;clear hb))
    | (go_at_call 11;((with_reducible refine (AW.out _ HX.out).mono ?_);rintro e w9 ⟨rfl,hb⟩;have HX:=Lh (HX.out.then_ hb);(try clear a0 a1 a2 a3);have F3:=H3.out.stay HX.out;have a0:=F3.c0;have a1:=F3.c1;have a2:=F3.c2;have a3:=F3.c3;clear F3;clear hb)))
   go_ret;exact fin_yes (HB.out.then_ HX.out)
end ItW
end Go.Proofs.YtpejflgdehioaaaGreatDoor
