/-
  Laws that the card uses; no conditions beside those that each states (ItFlt2 ItFlt3).
-/
import Derived.Test.YtihnejaopejbgaaGreatDoorP24
set_option maxRecDepth 100000
set_option maxHeartbeats 16000000
namespace Go.Proofs.YtihnejaopejbgaaGreatDoor
namespace ItW
open Go Go.RowKit NumM LexW LexM ExM ExW ItM
structure PV (N:Nat) (w:World) (kd o n:Int) (en:ByteArray) (p4:Option Addr) (k4 c4:Nat) (nm ix:ByteArray) (p7:Option Addr) (k7 c7:Nat) (p8:Option Addr) (k8 c8:Nat) (p9:Option Addr) (k9 c9:Nat) (p10:Option Addr) (k10 c10:Nat) (p11:Option Addr) (k11 c11:Nat) (x:It):Prop where
 e0:x.kd=kd
 e1:x.e.op=o
 e2:x.e.n=n
 e3:x.e.nm=en
 e5:x.nm=nm
 e6:x.ix=ix
 l4:x.e.args.length=k4
 l7:x.ws.length=k7
 l8:x.it.length=k8
 l9:x.el.length=k9
 l10:x.bf.length=k10
 l11:x.af.length=k11
 h:IV N w (.slice p4 k4 c4) (.slice p7 k7 c7) (.slice p8 k8 c8) (.slice p9 k9 c9) (.slice p10 k10 c10) (.slice p11 k11 c11) x
theorem IV.open_ {N:Nat} {w:World} {a4 a7 a8 a9 a10 a11:Value} {x:It} (h:IV N w a4 a7 a8 a9 a10 a11 x):∃ kd o n en p4 k4 c4 nm ix p7 k7 c7 p8 k8 c8 p9 k9 c9 p10 k10 c10 p11 k11 c11,
  iv x.kd x.e.op x.e.n x.e.nm a4 x.nm x.ix a7 a8 a9 a10 a11=iv kd o n en (.slice p4 k4 c4) nm ix (.slice p7 k7 c7) (.slice p8 k8 c8) (.slice p9 k9 c9) (.slice p10 k10 c10) (.slice p11 k11 c11)∧PV N w kd o n en p4 k4 c4 nm ix p7 k7 c7 p8 k8 c8 p9 k9 c9 p10 k10 c10 p11 k11 c11 x:=by
 obtain⟨p4,c4,p7,c7,p8,c8,p9,c9,p10,c10,p11,c11,rfl,rfl,rfl,rfl,rfl,rfl⟩:=h.slices;exact⟨_,_,_,_,p4,_,c4,_,_,p7,_,c7,p8,_,c8,p9,_,c9,p10,_,c10,p11,_,c11,rfl,rfl,rfl,rfl,rfl,rfl,rfl,rfl,rfl,rfl,rfl,rfl,rfl,h⟩
theorem IV.lens {N:Nat} {w:World} {a4 a7 a8 a9 a10 a11:Value} {x:It} (h:IV N w a4 a7 a8 a9 a10 a11 x):x.e.args.length≤140737488351232∧x.ws.length≤140737488351232∧x.it.length≤140737488351232∧x.el.length≤140737488351232∧x.bf.length≤140737488351232∧x.af.length≤140737488351232:=by
 obtain⟨_,_,_,_,_,_,ha⟩:=h.ex.form;obtain⟨_,_,_,h7,_⟩:=h.wt;obtain⟨_,_,_,_,h8⟩:=h.its.form;obtain⟨_,_,_,_,h9⟩:=h.els.form;obtain⟨_,_,_,h10,_⟩:=h.bfs;obtain⟨_,_,_,h11,_⟩:=h.afs;have:=ha.hl;have:=h8.hl;have:=h9.hl;omega
theorem sum5 (a b c d e:Nat):decide (0<a+b+c+d+e) = !(decide (a=0)&&(decide (b=0)&&(decide (c=0)&&(decide (d=0)&&decide (e=0))))):=by
 cases a<;>cases b<;>cases c<;>cases d<;>cases e<;>simp<;>omega
def RestP (w:World) (x:It) (e:Ending) (w':World):Prop:=∃ (kd o n:Int) (en:ByteArray) (p4:Option Addr) (k4 c4:Nat) (nm ix:ByteArray) (p7:Option Addr) (k7 c7:Nat) (p8:Option Addr) (k8 c8:Nat) (p9:Option Addr) (k9 c9:Nat) (p10:Option Addr) (k10 c10:Nat) (p11:Option Addr) (k11 c11:Nat),
 e=.returned (.tuple #[iv kd o n en (.slice p4 k4 c4) nm ix (.slice p7 k7 c7) (.slice p8 k8 c8) (.slice p9 k9 c9) (.slice p10 k10 c10) (.slice p11 k11 c11),.bool (kindB x.kd)])∧Below w.heap.size w w'∧(kindB x.kd=true→∃ e',ExAt w.heap.size w (xv o n en (.slice p4 k4 c4)) e'∧sz e'≤2000000 ∧
  (k7≤140737488351232∧k8≤140737488351232∧k9≤140737488351232∧k10≤140737488351232∧k11≤140737488351232)∧hfB (zB e') (isEmp nm) (isEmp ix) (k7+k8+k9+k10+k11) = !freeB x)
theorem zEx (w:World):ExAt w.heap.size w (xv 0 0 ⟨#[]⟩ (.slice none 0 0)) zE:=.of (by decide) (ArgsAt.nil _ _ none 0)
theorem zB_zE:zB zE=true:=rfl
theorem emp_emp:isEmp ⟨#[]⟩=true:=rfl
theorem kindB_no {k:Int} (h1:k≠1) (h2:k≠2) (h3:k≠3) (h4:k≠4) (h5:k≠5) (h6:k≠6):kindB k=false:=by
 unfold kindB;rw [Bool.eq_false_iff];intro h;rw [Bool.and_eq_true,decide_eq_true_eq,decide_eq_true_eq] at h;omega
theorem rest_any (x:It) (a4 a7 a8 a9 a10 a11:Value) (N:Nat) (w:World) (h:IV N w a4 a7 a8 a9 a10 a11 x) (hN:N≤w.heap.size) (hsz:sz x.e≤2000000) :
  Calls Tryz.prog 75 #[iv x.kd x.e.op x.e.n x.e.nm a4 x.nm x.ix a7 a8 a9 a10 a11] w (RestP w x):=by
 have hl:=h.lens;have hE:ExAt w.heap.size w (xv x.e.op x.e.n x.e.nm a4) x.e:=h.ex.wide hN;obtain⟨kd,o,n,en,p4,k4,c4,nm,ix,p7,k7,c7,p8,k8,c8,p9,k9,c9,p10,k10,c10,p11,k11,c11,ev,hv⟩:=h.open_;have ev2:=ev;simp only [Value.agg.injEq,Array.mk.injEq,List.cons.injEq] at ev2;obtain⟨-,-,-,-,rfl,-,-,rfl,rfl,rfl,rfl,rfl,-⟩:=ev2;rw [ev];obtain⟨e0,e1,e2,e3,e5,e6,l4,l7,l8,l9,l10,l11,-⟩:=hv;rw [e1,e2,e3] at hE;rw [l7,l8,l9,l10,l11] at hl;have HE:=Lh hE;have FB:Hid (freeB x=if kd=1∨kd=2 then isEmp nm&&(isEmp ix&&(decide (k7=0)&&(decide (k8=0)&&(decide (k9=0)&&(decide (k10=0)&&decide (k11=0))))))
  else if kd=3 then zB x.e&&(isEmp ix&&(decide (k8=0)&&(decide (k9=0)&&(decide (k10=0)&&decide (k11=0)))))
  else if kd=4 then isEmp nm&&(isEmp ix&&(decide (k7=0)&&(decide (k10=0)&&decide (k11=0))))
  else if kd=5 then zB x.e&&(decide (k7=0)&&(decide (k9=0)&&(decide (k10=0)&&decide (k11=0))))
  else zB x.e&&(isEmp nm&&(isEmp ix&&(decide (k7=0)&&(decide (k8=0)&&decide (k9=0)))))):=Lh (by
   unfold freeB;rw [e0,e5,e6,isEmpty_len,isEmpty_len,isEmpty_len,isEmpty_len,isEmpty_len,l7,l8,l9,l10,l11])
 have HKD:=Lh e0;clear h ev e0 e1 e2 e3 e5 e6 l4 l7 l8 l9 l10 l11 hE hN;have HB:Hid (∀ o,Below w.heap.size w (w.alloc o)):=(Lh fun o=>ba w o);by_cases h1:kd=1
 ·subst h1;have KB:Hid (kindB x.kd=true):=Lh (by rw [HKD.out];rfl)
  go_enter Tryz.func75,Tryz.ntmps75
  go_wp2;refine bodyPost_ret (v:=.tuple #[iv 1 0 0 ⟨#[]⟩ (.slice none 0 0) nm ix (.slice p7 k7 c7) (.slice p8 k8 c8) (.slice p9 k9 c9) (.slice p10 k10 c10) (.slice p11 k11 c11),.bool true]) (by simp [results,Tryz.results75,go_sem]) rfl ?_;refine⟨1,0,0,⟨#[]⟩,none,0,0,nm,ix,p7,k7,c7,p8,k8,c8,p9,k9,c9,p10,k10,c10,p11,k11,c11,by rw [KB.out],by repeat' (first | exact Below.refl _ _ | (refine Below.alloc ?_ (by simp) _) | (refine Below.setCell (p:=⟨_,_,_⟩) ?_ (by simp) _)),fun _=>⟨zE,by first | exact HE.out | exact zEx w,by first | exact hsz | (unfold zE;rw [sz_mk,szs_nil];omega),by omega,?_⟩⟩;rw [FB.out];simp only [hfB,zB_zE];rw [sum5];simp
 by_cases h2:kd=2
 ·subst h2;have KB:Hid (kindB x.kd=true):=Lh (by rw [HKD.out];rfl)
  go_enter Tryz.func75,Tryz.ntmps75
  go_wp2;refine bodyPost_ret (v:=.tuple #[iv 2 0 0 ⟨#[]⟩ (.slice none 0 0) nm ix (.slice p7 k7 c7) (.slice p8 k8 c8) (.slice p9 k9 c9) (.slice p10 k10 c10) (.slice p11 k11 c11),.bool true]) (by simp [results,Tryz.results75,go_sem]) rfl ?_;refine⟨2,0,0,⟨#[]⟩,none,0,0,nm,ix,p7,k7,c7,p8,k8,c8,p9,k9,c9,p10,k10,c10,p11,k11,c11,by rw [KB.out],by repeat' (first | exact Below.refl _ _ | (refine Below.alloc ?_ (by simp) _) | (refine Below.setCell (p:=⟨_,_,_⟩) ?_ (by simp) _)),fun _=>⟨zE,by first | exact HE.out | exact zEx w,by first | exact hsz | (unfold zE;rw [sz_mk,szs_nil];omega),by omega,?_⟩⟩;rw [FB.out];simp only [hfB,zB_zE];rw [sum5];simp
 by_cases h3:kd=3
 ·subst h3;have KB:Hid (kindB x.kd=true):=Lh (by rw [HKD.out];rfl)
  go_enter Tryz.func75,Tryz.ntmps75
  go_wp2;refine bodyPost_ret (v:=.tuple #[iv 3 o n en (.slice p4 k4 c4) ⟨#[]⟩ ix (.slice none 0 0) (.slice p8 k8 c8) (.slice p9 k9 c9) (.slice p10 k10 c10) (.slice p11 k11 c11),.bool true]) (by simp [results,Tryz.results75,go_sem]) rfl ?_;refine⟨3,o,n,en,p4,k4,c4,⟨#[]⟩,ix,none,0,0,p8,k8,c8,p9,k9,c9,p10,k10,c10,p11,k11,c11,by rw [KB.out],by repeat' (first | exact Below.refl _ _ | (refine Below.alloc ?_ (by simp) _) | (refine Below.setCell (p:=⟨_,_,_⟩) ?_ (by simp) _)),fun _=>⟨x.e,by first | exact HE.out | exact zEx w,by first | exact hsz | (unfold zE;rw [sz_mk,szs_nil];omega),by omega,?_⟩⟩;rw [FB.out];simp only [hfB,emp_emp];rw [sum5];simp
 by_cases h4:kd=4
 ·subst h4;have KB:Hid (kindB x.kd=true):=Lh (by rw [HKD.out];rfl)
  go_enter Tryz.func75,Tryz.ntmps75
  go_wp2;refine bodyPost_ret (v:=.tuple #[iv 4 0 0 ⟨#[]⟩ (.slice none 0 0) nm ix (.slice p7 k7 c7) (.slice none 0 0) (.slice none 0 0) (.slice p10 k10 c10) (.slice p11 k11 c11),.bool true]) (by simp [results,Tryz.results75,go_sem]) rfl ?_;refine⟨4,0,0,⟨#[]⟩,none,0,0,nm,ix,p7,k7,c7,none,0,0,none,0,0,p10,k10,c10,p11,k11,c11,by rw [KB.out],by repeat' (first | exact Below.refl _ _ | (refine Below.alloc ?_ (by simp) _) | (refine Below.setCell (p:=⟨_,_,_⟩) ?_ (by simp) _)),fun _=>⟨zE,by first | exact HE.out | exact zEx w,by first | exact hsz | (unfold zE;rw [sz_mk,szs_nil];omega),by omega,?_⟩⟩;rw [FB.out];simp only [hfB,zB_zE];rw [sum5];simp
 by_cases h5:kd=5
 ·subst h5;have KB:Hid (kindB x.kd=true):=Lh (by rw [HKD.out];rfl)
  go_enter Tryz.func75,Tryz.ntmps75
  go_wp2;refine bodyPost_ret (v:=.tuple #[iv 5 o n en (.slice p4 k4 c4) ⟨#[]⟩ ⟨#[]⟩ (.slice p7 k7 c7) (.slice none 0 0) (.slice p9 k9 c9) (.slice p10 k10 c10) (.slice p11 k11 c11),.bool true]) (by simp [results,Tryz.results75,go_sem]) rfl ?_;refine⟨5,o,n,en,p4,k4,c4,⟨#[]⟩,⟨#[]⟩,p7,k7,c7,none,0,0,p9,k9,c9,p10,k10,c10,p11,k11,c11,by rw [KB.out],by repeat' (first | exact Below.refl _ _ | (refine Below.alloc ?_ (by simp) _) | (refine Below.setCell (p:=⟨_,_,_⟩) ?_ (by simp) _)),fun _=>⟨x.e,by first | exact HE.out | exact zEx w,by first | exact hsz | (unfold zE;rw [sz_mk,szs_nil];omega),by omega,?_⟩⟩;rw [FB.out];simp only [hfB,emp_emp];rw [sum5];simp
 by_cases h6:kd=6
 ·subst h6;have KB:Hid (kindB x.kd=true):=Lh (by rw [HKD.out];rfl)
  go_enter Tryz.func75,Tryz.ntmps75
  go_wp2;refine bodyPost_ret (v:=.tuple #[iv 6 o n en (.slice p4 k4 c4) nm ix (.slice p7 k7 c7) (.slice p8 k8 c8) (.slice p9 k9 c9) (.slice none 0 0) (.slice none 0 0),.bool true]) (by simp [results,Tryz.results75,go_sem]) rfl ?_;refine⟨6,o,n,en,p4,k4,c4,nm,ix,p7,k7,c7,p8,k8,c8,p9,k9,c9,none,0,0,none,0,0,by rw [KB.out],by repeat' (first | exact Below.refl _ _ | (refine Below.alloc ?_ (by simp) _) | (refine Below.setCell (p:=⟨_,_,_⟩) ?_ (by simp) _)),fun _=>⟨x.e,by first | exact HE.out | exact zEx w,by first | exact hsz | (unfold zE;rw [sz_mk,szs_nil];omega),by omega,?_⟩⟩;rw [FB.out];simp only [hfB];rw [sum5];simp
 have KB:Hid (kindB x.kd=false):=Lh (by rw [HKD.out];exact kindB_no h1 h2 h3 h4 h5 h6);have q1:(kd == 1)=false:=(by rw [beq_eq_false_iff_ne];exact h1);have q2:(kd == 2)=false:=(by rw [beq_eq_false_iff_ne];exact h2);have q3:(kd == 3)=false:=(by rw [beq_eq_false_iff_ne];exact h3);have q4:(kd == 4)=false:=(by rw [beq_eq_false_iff_ne];exact h4);have q5:(kd == 5)=false:=(by rw [beq_eq_false_iff_ne];exact h5);have q6:(kd == 6)=false:=(by rw [beq_eq_false_iff_ne];exact h6);clear h1 h2 h3 h4 h5 h6
 go_enter Tryz.func75,Tryz.ntmps75
 go_wp2;refine bodyPost_ret (v:=.tuple #[iv 0 0 0 ⟨#[]⟩ (.slice none 0 0) ⟨#[]⟩ ⟨#[]⟩ (.slice none 0 0) (.slice none 0 0) (.slice none 0 0) (.slice none 0 0) (.slice none 0 0),.bool false]) (by simp [results,Tryz.results75,go_sem]) rfl ?_;refine⟨0,0,0,⟨#[]⟩,none,0,0,⟨#[]⟩,⟨#[]⟩,none,0,0,none,0,0,none,0,0,none,0,0,none,0,0,by rw [KB.out],by repeat' (first | exact Below.refl _ _ | (refine Below.alloc ?_ (by simp) _) | (refine Below.setCell (p:=⟨_,_,_⟩) ?_ (by simp) _)),fun h=>by rw [KB.out] at h;cases h⟩
theorem IV.pv {N:Nat} {w:World} {a4 a7 a8 a9 a10 a11:Value} {x:It} (h:IV N w a4 a7 a8 a9 a10 a11 x) {P:Value→Prop}
  (g:∀ kd o n en p4 k4 c4 nm ix p7 k7 c7 p8 k8 c8 p9 k9 c9 p10 k10 c10 p11 k11 c11,PV N w kd o n en p4 k4 c4 nm ix p7 k7 c7 p8 k8 c8 p9 k9 c9 p10 k10 c10 p11 k11 c11 x→P (iv kd o n en (.slice p4 k4 c4) nm ix (.slice p7 k7 c7) (.slice p8 k8 c8) (.slice p9 k9 c9) (.slice p10 k10 c10) (.slice p11 k11 c11))) :
  P (iv x.kd x.e.op x.e.n x.e.nm a4 x.nm x.ix a7 a8 a9 a10 a11):=by
 obtain⟨kd,o,n,en,p4,k4,c4,nm,ix,p7,k7,c7,p8,k8,c8,p9,k9,c9,p10,k10,c10,p11,k11,c11,ev,hv⟩:=h.open_;rw [ev];exact g _ _ _ _ _ _ _ _ _ _ _ _ _ _ _ _ _ _ _ _ _ _ _ _ hv
theorem dist_any (x:It) (a4 a7 a8 a9 a10 a11:Value) (N:Nat) (w:World) (h:IV N w a4 a7 a8 a9 a10 a11 x) (hN:N≤w.heap.size) (ht:Tab w) :
  Calls Tryz.prog 78 #[iv x.kd x.e.op x.e.n x.e.nm a4 x.nm x.ix a7 a8 a9 a10 a11] w (tInt (distE x) w):=by
 refine h.pv (P:=fun v=>Calls Tryz.prog 78 #[v] w (tInt (distE x) w)) ?_;intro kd o n en p4 k4 c4 nm ix p7 k7 c7 p8 k8 c8 p9 k9 c9 p10 k10 c10 p11 k11 c11 hv;have hl:=hv.h.lens;rw [hv.l7] at hl;obtain⟨cs,hcs⟩:∃ cs,cs=ics kd o n en (.slice p4 k4 c4) nm ix (.slice p7 k7 c7) (.slice p8 k8 c8) (.slice p9 k9 c9) (.slice p10 k10 c10) (.slice p11 k11 c11):=⟨_,rfl⟩;have F0:=Blk.new w cs 53;have HB:=Lh (ba w (.cells cs.toArray 53));have HC:Hid (Calls Tryz.prog 110 #[.slice p7 k7 c7,.func (.func 111) #[] #[]] (w.alloc (.cells cs.toArray 53)) (tBool (x.ws.any wrongW) (w.alloc (.cells cs.toArray 53)))) :=
  Lh (wrong_has x.ws wrongW _ N _ (hv.h.wt.under (HB.out.mono hN)) (by simp;omega) (fun t _ W _=>isWrong_any t W))
 have VC:Hid (∀ W,Below w.heap.size w W→Calls Tryz.prog 112 #[.string nm] W (tBool (noVar x.nm) W)):=Lh fun W hW=>by
  rw [hv.e5];exact noVar_any nm W (by rw [←hv.e5];exact hv.h.nm) (ht.later hW)
 have EE:Hid (distE x=if 16<k7 then 2 else if k7=0∨x.ws.any wrongW=true then 1 else if noVar x.nm=true then 7 else 0):=Lh (by unfold distE;rw [hv.l7]);subst hcs;have d5:=F0.c 5 _ rfl;have d7:=F0.c 7 _ rfl;have HF:=Lh F0;clear F0 hv h ht;generalize x.ws.any wrongW=u at *
 generalize noVar x.nm=z at *
 by_cases h1:16<k7
 ·have E:Hid (2=distE x):=Lh (by rw [EE.out,if_pos h1]);have q:decide ((16:Int)<k7)=true:=decide_eq_true (by omega)
  go_enter Tryz.func78,Tryz.ntmps78
  go_wp2;go_ret;exact tInt_mk E.out HB.out
 ·have q:decide ((16:Int)<k7)=false:=decide_eq_false (by omega);by_cases h2:k7=0
  ·have E:Hid (1=distE x):=Lh (by rw [EE.out,if_neg h1,if_pos (.inl h2)]);subst h2
   go_enter Tryz.func78,Tryz.ntmps78
   go_wp2;go_ret;exact tInt_mk E.out HB.out
  ·have q2:((k7:Int) == 0)=false:=(by rw [beq_eq_false_iff_ne];omega);cases u
   ·have EE2:Hid (distE x=if z=true then 7 else 0):=Lh (by rw [EE.out,if_neg h1,if_neg (by simp [h2])]);cases z
    ·have E:Hid (0=distE x):=Lh (by rw [EE2.out];rfl)
     go_enter Tryz.func78,Tryz.ntmps78
     go_wp2_with (first
      |(go_at_call 110;((with_reducible refine HC.out.mono ?_);rintro e w1 ⟨rfl,hb⟩;have HB1:=Lh (HB.out.then_ hb);have F1:=HF.out.stay hb;have d5:=F1.c 5 _ rfl;clear hb F1))
      |(go_at_call 112;((with_reducible refine (VC.out _ HB1.out).mono ?_);rintro e w2 ⟨rfl,hb⟩;have HB2:=Lh (HB1.out.then_ hb);clear hb)))
     go_ret;exact tInt_mk E.out HB2.out
    ·have E:Hid (7=distE x):=Lh (by rw [EE2.out];rfl)
     go_enter Tryz.func78,Tryz.ntmps78
     go_wp2_with (first
      |(go_at_call 110;((with_reducible refine HC.out.mono ?_);rintro e w1 ⟨rfl,hb⟩;have HB1:=Lh (HB.out.then_ hb);have F1:=HF.out.stay hb;have d5:=F1.c 5 _ rfl;clear hb F1))
      |(go_at_call 112;((with_reducible refine (VC.out _ HB1.out).mono ?_);rintro e w2 ⟨rfl,hb⟩;have HB2:=Lh (HB1.out.then_ hb);clear hb)))
     go_ret;exact tInt_mk E.out HB2.out
   ·have E:Hid (1=distE x):=Lh (by rw [EE.out,if_neg h1,if_pos (.inr rfl)])
    go_enter Tryz.func78,Tryz.ntmps78
    go_wp2_with (go_at_call 110;((with_reducible refine HC.out.mono ?_);rintro e w1 ⟨rfl,hb⟩;have HB1:=Lh (HB.out.then_ hb);have F1:=HF.out.stay hb;have d5:=F1.c 5 _ rfl;clear hb F1))
    go_ret;exact tInt_mk E.out HB1.out
theorem solve_any (x:It) (a4 a7 a8 a9 a10 a11:Value) (N:Nat) (w:World) (h:IV N w a4 a7 a8 a9 a10 a11 x) (hN:N≤w.heap.size) (ht:Tab w) :
  Calls Tryz.prog 79 #[iv x.kd x.e.op x.e.n x.e.nm a4 x.nm x.ix a7 a8 a9 a10 a11] w (tInt (solveE x) w):=by
 refine h.pv (P:=fun v=>Calls Tryz.prog 79 #[v] w (tInt (solveE x) w)) ?_;intro kd o n en p4 k4 c4 nm ix p7 k7 c7 p8 k8 c8 p9 k9 c9 p10 k10 c10 p11 k11 c11 hv;have hl:=hv.h.lens;rw [hv.l10,hv.l11] at hl;obtain⟨cs,hcs⟩:∃ cs,cs=ics kd o n en (.slice p4 k4 c4) nm ix (.slice p7 k7 c7) (.slice p8 k8 c8) (.slice p9 k9 c9) (.slice p10 k10 c10) (.slice p11 k11 c11):=⟨_,rfl⟩;have F0:=Blk.new w cs 53;have HB:=Lh (ba w (.cells cs.toArray 53));have HT:=Lh ht;have BC:Hid (∀ W,Below w.heap.size w W→Calls Tryz.prog 54 #[.slice p10 k10 c10,.func (.func 112) #[] #[]] W (tBool (x.bf.any noVar) W)) :=
  Lh fun W hW=>noVar_has x.bf noVar _ N W (hv.h.bfs.under (hW.mono hN)) (by have:=hW.size;omega) (fun t _ W' hW' hs=>noVar_any t W' hs ((HT.out.later hW).later hW'))
 have AC:Hid (∀ W,Below w.heap.size w W→Calls Tryz.prog 54 #[.slice p11 k11 c11,.func (.func 112) #[] #[]] W (tBool (x.af.any noVar) W)) :=
  Lh fun W hW=>noVar_has x.af noVar _ N W (hv.h.afs.under (hW.mono hN)) (by have:=hW.size;omega) (fun t _ W' hW' hs=>noVar_any t W' hs ((HT.out.later hW).later hW'))
 have EE:Hid (solveE x=if k10=0∨k11=0 then 1 else if x.bf.any noVar=true∨x.af.any noVar=true then 7 else 0):=Lh (by unfold solveE;rw [hv.l10,hv.l11]);subst hcs;have d10:=F0.c 10 _ rfl;have d11:=F0.c 11 _ rfl;have HF:=Lh F0;clear F0 hv h ht;generalize x.bf.any noVar=u at *
 generalize x.af.any noVar=z at *
 by_cases h1:k10=0
 ·have E:Hid (1=solveE x):=Lh (by rw [EE.out,if_pos (.inl h1)]);subst h1
  go_enter Tryz.func79,Tryz.ntmps79
  go_wp2;go_ret;exact tInt_mk E.out HB.out
 ·have q1:((k10:Int) == 0)=false:=(by rw [beq_eq_false_iff_ne];omega);by_cases h2:k11=0
  ·have E:Hid (1=solveE x):=Lh (by rw [EE.out,if_pos (.inr h2)]);subst h2
   go_enter Tryz.func79,Tryz.ntmps79
   go_wp2;go_ret;exact tInt_mk E.out HB.out
  ·have q2:((k11:Int) == 0)=false:=(by rw [beq_eq_false_iff_ne];omega);have EE2:Hid (solveE x=if u=true∨z=true then 7 else 0):=Lh (by rw [EE.out,if_neg (by omega)]);cases u
   ·cases z
    ·have E:Hid (0=solveE x):=Lh (by rw [EE2.out];rfl)
     go_enter Tryz.func79,Tryz.ntmps79
     go_wp2_with (first
      |(go_at_call 54;((with_reducible refine (BC.out _ HB.out).mono ?_);rintro e w1 ⟨rfl,hb⟩;have HB1:=Lh (HB.out.then_ hb);have F1:=HF.out.stay hb;clear d11;have d11:=F1.c 11 _ rfl;clear hb F1))
      |(go_at_call 54;((with_reducible refine (AC.out _ HB1.out).mono ?_);rintro e w2 ⟨rfl,hb⟩;have HB2:=Lh (HB1.out.then_ hb);clear hb)))
     go_ret;exact tInt_mk E.out HB2.out
    ·have E:Hid (7=solveE x):=Lh (by rw [EE2.out];rfl)
     go_enter Tryz.func79,Tryz.ntmps79
     go_wp2_with (first
      |(go_at_call 54;((with_reducible refine (BC.out _ HB.out).mono ?_);rintro e w1 ⟨rfl,hb⟩;have HB1:=Lh (HB.out.then_ hb);have F1:=HF.out.stay hb;clear d11;have d11:=F1.c 11 _ rfl;clear hb F1))
      |(go_at_call 54;((with_reducible refine (AC.out _ HB1.out).mono ?_);rintro e w2 ⟨rfl,hb⟩;have HB2:=Lh (HB1.out.then_ hb);clear hb)))
     go_ret;exact tInt_mk E.out HB2.out
   ·have E:Hid (7=solveE x):=Lh (by rw [EE2.out,if_pos (.inl rfl)])
    go_enter Tryz.func79,Tryz.ntmps79
    go_wp2_with (go_at_call 54;((with_reducible refine (BC.out _ HB.out).mono ?_);rintro e w1 ⟨rfl,hb⟩;have HB1:=Lh (HB.out.then_ hb);clear hb))
    go_ret;exact tInt_mk E.out HB1.out
end ItW
end Go.Proofs.YtihnejaopejbgaaGreatDoor
