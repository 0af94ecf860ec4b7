/-
  Laws that the card uses; no conditions beside those that each states (ItFlt1 ItFlt2).
-/
import Derived.Test.YtpejflgdehioaaaGreatDoorU12
import Derived.Test.YtpejflgdehioaaaGreatDoorU13
set_option maxRecDepth 100000
set_option maxHeartbeats 16000000
namespace Go.Proofs.YtpejflgdehioaaaGreatDoor
namespace ItW
open Go Go.RowKit NumM LexW LexM ExM ExW ItM
theorem out_any (k:Int) (w:World):Calls Tryz.prog 73 #[.int .i64 k] w fun e w'=>e=.returned (.bool (outK k))∧w=w':=by
 by_cases h3:k=3
 ·subst h3
  go_enter Tryz.func73,Tryz.ntmps73
  go_wp2;go_ret;exact⟨rfl,rfl⟩
 ·have q3:(k == 3)=false:=(by rw [beq_eq_false_iff_ne];exact h3);have EE:Hid (outK k=(k == 6)):=Lh (by unfold outK;rw [decide_eq_false h3,Bool.eq_iff_iff];simp);clear h3
  go_enter Tryz.func73,Tryz.ntmps73
  go_wp2;go_ret;exact⟨retb (by rw [EE.out]),rfl⟩
theorem wrongW_eq (lo hi wt:Int) (ea:Bool):wrongW ⟨lo,hi,wt,ea⟩=(decide (lo<0)||(decide (hi<lo)||(decide (65535<hi)||(decide (wt<0)||decide (1000<wt))))):=rfl
theorem isWrong_any (t:Wt) (w:World):Calls Tryz.prog 116 #[.agg #[.int .i64 t.lo,.int .i64 t.hi,.int .i64 t.wt,.bool t.ea]] w (tBool (wrongW t) w):=by
 obtain⟨lo,hi,wt,ea⟩:=t;simp only;have F0:=Blk.new w [.int .i64 lo,.int .i64 hi,.int .i64 wt,.bool ea] 130;have c0:=F0.c 0 _ rfl;have c1:=F0.c 1 _ rfl;have c2:=F0.c 2 _ rfl;have HB:=Lh (ba w (.cells #[.int .i64 lo,.int .i64 hi,.int .i64 wt,.bool ea] 130));have EE:=Lh (wrongW_eq lo hi wt ea);clear F0;by_cases h1:lo<0
 ·have E:Hid (wrongW ⟨lo,hi,wt,ea⟩=true):=Lh (by rw [EE.out,decide_eq_true h1];rfl)
  go_enter Tryz.func116,Tryz.ntmps116
  go_wp2;go_ret;exact tBool_mk E.out.symm HB.out
 ·by_cases h2:hi<lo
  ·have E:Hid (wrongW ⟨lo,hi,wt,ea⟩=true):=Lh (by rw [EE.out,decide_eq_false h1,decide_eq_true h2];rfl)
   go_enter Tryz.func116,Tryz.ntmps116
   go_wp2;go_ret;exact tBool_mk E.out.symm HB.out
  ·by_cases h3:65535<hi
   ·have E:Hid (wrongW ⟨lo,hi,wt,ea⟩=true):=Lh (by rw [EE.out,decide_eq_false h1,decide_eq_false h2,decide_eq_true h3];rfl)
    go_enter Tryz.func116,Tryz.ntmps116
    go_wp2;go_ret;exact tBool_mk E.out.symm HB.out
   ·by_cases h4:wt<0
    ·have E:Hid (wrongW ⟨lo,hi,wt,ea⟩=true):=Lh (by rw [EE.out,decide_eq_false h1,decide_eq_false h2,decide_eq_false h3,decide_eq_true h4];rfl)
     go_enter Tryz.func116,Tryz.ntmps116
     go_wp2;go_ret;exact tBool_mk E.out.symm HB.out
    ·by_cases h5:1000<wt
     ·have E:Hid (wrongW ⟨lo,hi,wt,ea⟩=true):=Lh (by rw [EE.out,decide_eq_false h1,decide_eq_false h2,decide_eq_false h3,decide_eq_false h4,decide_eq_true h5];rfl)
      go_enter Tryz.func116,Tryz.ntmps116
      go_wp2;go_ret;exact tBool_mk E.out.symm HB.out
     ·have E:Hid (wrongW ⟨lo,hi,wt,ea⟩=false):=Lh (by rw [EE.out,decide_eq_false h1,decide_eq_false h2,decide_eq_false h3,decide_eq_false h4,decide_eq_false h5];rfl)
      go_enter Tryz.func116,Tryz.ntmps116
      go_wp2;go_ret;exact tBool_mk E.out.symm HB.out
theorem vld_var (s:ByteArray):decide (vld (.mk 2 0 s [])=0)=varB s.data.toList:=by
 rw [Bool.eq_iff_iff,decide_eq_true_eq,vld_zero,ok_mk,sz_mk,dep_mk,szs_nil,deps_nil];constructor
 ·rintro ⟨⟨h,_⟩,_⟩;unfold fltS at h;split at h
  ·cases h
  ·split at h
   ·cases h
   ·rename_i hb
    simpa [badN,isVr,isAr] using hb
 ·intro h;refine⟨⟨?_,fun a ha=>by cases ha⟩,by omega,by omega⟩;unfold fltS;rw [if_neg (by simp [badA,isVr,isAr,takesS,arS,greatS]),if_neg (by simp [badN,isVr,isAr,h])]
theorem noVar_any (s:ByteArray) (w:World) (hs:s.size≤140737488351232) (ht:Tab w):Calls Tryz.prog 117 #[.string s] w (tBool (noVar s) w):=by
 have hx:ExAt w.heap.size w (xv 2 0 s (.slice none 0 0)) (.mk 2 0 s []):=.of hs (ArgsAt.nil w.heap.size w none 0);have VC:=Lh (valid_any (.mk 2 0 s []) _ w hx (by rw [sz_mk,szs_nil];omega) ht);have hv:=vld_var s;have hr:=vld_range (.mk 2 0 s []);clear hx;obtain⟨z,hz⟩:∃ z,vld (.mk 2 0 s [])=z:=⟨_,rfl⟩;rw [hz] at VC hv hr;have HZ:=Lh hz;clear hz;by_cases h0:z=0
 ·subst h0;have E:Hid (false=noVar s):=Lh (by unfold noVar;rw [←hv];rfl)
  go_enter Tryz.func117,Tryz.ntmps117
  go_wp2_with (go_at_call 55;((with_reducible refine VC.out.mono ?_);rintro e w1 ⟨rfl,hb⟩;have HB:=Lh hb;clear hb))
  go_ret;exact tBool_mk E.out HB.out
 ·have q:(z != 0)=true:=(by simpa using h0);have E:Hid (true=noVar s):=Lh (by unfold noVar;rw [←hv,decide_eq_false h0];rfl)
  go_enter Tryz.func117,Tryz.ntmps117
  go_wp2_with (go_at_call 55;((with_reducible refine VC.out.mono ?_);rintro e w1 ⟨rfl,hb⟩;have HB:=Lh hb;clear hb))
  go_ret;exact tBool_mk E.out HB.out
def hfB (z a b:Bool) (k:Nat):Bool:=!z||(!a||(!b||decide (0<k)))
theorem hasFields_any (kd o n:Int) (en:ByteArray) (p4:Option Addr) (k4 c4:Nat) (nm ix:ByteArray) (p7:Option Addr) (k7 c7:Nat) (p8:Option Addr) (k8 c8:Nat) (p9:Option Addr) (k9 c9:Nat) (p10:Option Addr) (k10 c10:Nat) (p11:Option Addr) (k11 c11:Nat) (e:Ex) (w:World)
  (hx:ExAt w.heap.size w (xv o n en (.slice p4 k4 c4)) e) (hsz:sz e≤10000) (h7:k7≤140737488351232) (h8:k8≤140737488351232) (h9:k9≤140737488351232) (h10:k10≤140737488351232) (h11:k11≤140737488351232) :
  Calls Tryz.prog 72 #[iv kd o n en (.slice p4 k4 c4) nm ix (.slice p7 k7 c7) (.slice p8 k8 c8) (.slice p9 k9 c9) (.slice p10 k10 c10) (.slice p11 k11 c11)] w (tBool (hfB (zB e) (isEmp nm) (isEmp ix) (k7+k8+k9+k10+k11)) w):=by
 obtain⟨cs,hcs⟩:∃ cs,cs=ics kd o n en (.slice p4 k4 c4) nm ix (.slice p7 k7 c7) (.slice p8 k8 c8) (.slice p9 k9 c9) (.slice p10 k10 c10) (.slice p11 k11 c11):=⟨_,rfl⟩;have F0:=Blk.new w cs 55;have HB:=Lh (ba w (.cells cs.toArray 55));have SC:Hid (Calls Tryz.prog 114 #[xv o n en (.slice p4 k4 c4),xv 0 0 ⟨#[]⟩ (.slice none 0 0)] (w.alloc (.cells cs.toArray 55)) (tBool (eqB e zE) (w.alloc (.cells cs.toArray 55)))):=Lh
  (same_any e zE w.heap.size _ _ _ (hx.under HB.out) (.of (by decide) (ArgsAt.nil _ _ none 0)) (by simp) hsz)
 rw [eqB_zE] at SC;subst hcs;have d1:=F0.c 1 _ rfl;have d2:=F0.c 2 _ rfl;have d3:=F0.c 3 _ rfl;have d4:=F0.c 4 _ rfl;have d5:=F0.c 5 _ rfl;have d6:=F0.c 6 _ rfl;have d7:=F0.c 7 _ rfl;have d8:=F0.c 8 _ rfl;have d9:=F0.c 9 _ rfl;have d10:=F0.c 10 _ rfl;have d11:=F0.c 11 _ rfl;have hn:=isEmp_toList nm;have hi:=isEmp_toList ix;have HF:=Lh F0;have EE:∀ z a b k,Hid (hfB z a b k=(!z||(!a||(!b||decide (0<k))))):=(fun z a b k=>Lh rfl);clear F0 hx hsz;generalize isEmp nm=a at *
 generalize isEmp ix=b at *
 generalize zB e=z at *
 cases z
 ·go_enter Tryz.func72,Tryz.ntmps72
  go_wp2_with (go_at_call 114;((with_reducible refine SC.out.mono ?_);rintro e w1 ⟨rfl,hb⟩;have HB1:=Lh (HB.out.then_ hb);clear hb))
  go_ret;exact⟨rfl,HB1.out⟩
 ·cases a
  ·go_enter Tryz.func72,Tryz.ntmps72
   go_wp2_with (go_at_call 114;((with_reducible refine SC.out.mono ?_);rintro e w1 ⟨rfl,hb⟩;have HB1:=Lh (HB.out.then_ hb);have F1:=HF.out.stay hb;have d5:=F1.c 5 _ rfl;have d6:=F1.c 6 _ rfl;clear hb F1))
   go_ret;exact⟨rfl,HB1.out⟩
  ·cases b
   ·go_enter Tryz.func72,Tryz.ntmps72
    go_wp2_with (go_at_call 114;((with_reducible refine SC.out.mono ?_);rintro e w1 ⟨rfl,hb⟩;have HB1:=Lh (HB.out.then_ hb);have F1:=HF.out.stay hb;have d5:=F1.c 5 _ rfl;have d6:=F1.c 6 _ rfl;clear hb F1))
    go_ret;exact⟨rfl,HB1.out⟩
   ·by_cases hk:0<k7+k8+k9+k10+k11
    ·have E:Hid (true=hfB true true true (k7+k8+k9+k10+k11)):=Lh (by rw [(EE _ _ _ _).out,decide_eq_true hk];rfl);have q:decide ((0:Int)<(k7:Int)+(k8:Int)+(k9:Int)+(k10:Int)+(k11:Int))=true:=decide_eq_true (by omega)
     go_enter Tryz.func72,Tryz.ntmps72
     go_wp2_with (go_at_call 114;((with_reducible refine SC.out.mono ?_);rintro e w1 ⟨rfl,hb⟩;have HB1:=Lh (HB.out.then_ hb);have F1:=HF.out.stay hb;have d5:=F1.c 5 _ rfl;have d6:=F1.c 6 _ rfl;clear hb F1))
     go_ret;exact tBool_mk E.out HB1.out
    ·have E:Hid (false=hfB true true true (k7+k8+k9+k10+k11)):=Lh (by rw [(EE _ _ _ _).out,decide_eq_false hk];rfl);have q:decide ((0:Int)<(k7:Int)+(k8:Int)+(k9:Int)+(k10:Int)+(k11:Int))=false:=decide_eq_false (by omega)
     go_enter Tryz.func72,Tryz.ntmps72
     go_wp2_with (go_at_call 114;((with_reducible refine SC.out.mono ?_);rintro e w1 ⟨rfl,hb⟩;have HB1:=Lh (HB.out.then_ hb);have F1:=HF.out.stay hb;have d5:=F1.c 5 _ rfl;have d6:=F1.c 6 _ rfl;clear hb F1))
     go_ret;exact tBool_mk E.out HB1.out
structure PV (N:Nat) (w:World) (kd o n:Int) (en:ByteArray) (p4:Option Addr) (k4 c4:Nat) (nm ix:ByteArray) (p7:Option Addr) (k7 c7:Nat) (p8:Option Addr) (k8 c8:Nat) (p9:Option Addr) (k9 c9:Nat) (p10:Option Addr) (k10 c10:Nat) (p11:Option Addr) (k11 c11:Nat) (x:It):Prop where
 e0:x.kd=kd
 e1:x.e.op=o
 e2:x.e.n=n
 e3:x.e.nm=en
 e5:x.nm=nm
 e6:x.ix=ix
 l4:x.e.args.length=k4
 l7:x.ws.length=k7
 l8:x.it.length=k8
 l9:x.el.length=k9
 l10:x.bf.length=k10
 l11:x.af.length=k11
 h:IV N w (.slice p4 k4 c4) (.slice p7 k7 c7) (.slice p8 k8 c8) (.slice p9 k9 c9) (.slice p10 k10 c10) (.slice p11 k11 c11) x
theorem IV.open_ {N:Nat} {w:World} {a4 a7 a8 a9 a10 a11:Value} {x:It} (h:IV N w a4 a7 a8 a9 a10 a11 x):∃ kd o n en p4 k4 c4 nm ix p7 k7 c7 p8 k8 c8 p9 k9 c9 p10 k10 c10 p11 k11 c11,
  iv x.kd x.e.op x.e.n x.e.nm a4 x.nm x.ix a7 a8 a9 a10 a11=iv kd o n en (.slice p4 k4 c4) nm ix (.slice p7 k7 c7) (.slice p8 k8 c8) (.slice p9 k9 c9) (.slice p10 k10 c10) (.slice p11 k11 c11)∧PV N w kd o n en p4 k4 c4 nm ix p7 k7 c7 p8 k8 c8 p9 k9 c9 p10 k10 c10 p11 k11 c11 x:=by
 obtain⟨p4,c4,p7,c7,p8,c8,p9,c9,p10,c10,p11,c11,rfl,rfl,rfl,rfl,rfl,rfl⟩:=h.slices;exact⟨_,_,_,_,p4,_,c4,_,_,p7,_,c7,p8,_,c8,p9,_,c9,p10,_,c10,p11,_,c11,rfl,rfl,rfl,rfl,rfl,rfl,rfl,rfl,rfl,rfl,rfl,rfl,rfl,h⟩
theorem IV.lens {N:Nat} {w:World} {a4 a7 a8 a9 a10 a11:Value} {x:It} (h:IV N w a4 a7 a8 a9 a10 a11 x):x.e.args.length≤140737488351232∧x.ws.length≤140737488351232∧x.it.length≤140737488351232∧x.el.length≤140737488351232∧x.bf.length≤140737488351232∧x.af.length≤140737488351232:=by
 obtain⟨_,_,_,_,_,_,ha⟩:=h.ex.form;obtain⟨_,_,_,h7,_⟩:=h.wt;obtain⟨_,_,_,_,h8⟩:=h.its.form;obtain⟨_,_,_,_,h9⟩:=h.els.form;obtain⟨_,_,_,h10,_⟩:=h.bfs;obtain⟨_,_,_,h11,_⟩:=h.afs;have:=ha.hl;have:=h8.hl;have:=h9.hl;omega
theorem sum5 (a b c d e:Nat):decide (0<a+b+c+d+e) = !(decide (a=0)&&(decide (b=0)&&(decide (c=0)&&(decide (d=0)&&decide (e=0))))):=by
 cases a<;>cases b<;>cases c<;>cases d<;>cases e<;>simp<;>omega
def RestP (w:World) (x:It) (e:Ending) (w':World):Prop:=∃ (kd o n:Int) (en:ByteArray) (p4:Option Addr) (k4 c4:Nat) (nm ix:ByteArray) (p7:Option Addr) (k7 c7:Nat) (p8:Option Addr) (k8 c8:Nat) (p9:Option Addr) (k9 c9:Nat) (p10:Option Addr) (k10 c10:Nat) (p11:Option Addr) (k11 c11:Nat),
 e=.returned (.tuple #[iv kd o n en (.slice p4 k4 c4) nm ix (.slice p7 k7 c7) (.slice p8 k8 c8) (.slice p9 k9 c9) (.slice p10 k10 c10) (.slice p11 k11 c11),.bool (kindB x.kd)])∧Below w.heap.size w w'∧(kindB x.kd=true→∃ e',ExAt w.heap.size w (xv o n en (.slice p4 k4 c4)) e'∧sz e'≤10000 ∧
  (k7≤140737488351232∧k8≤140737488351232∧k9≤140737488351232∧k10≤140737488351232∧k11≤140737488351232)∧hfB (zB e') (isEmp nm) (isEmp ix) (k7+k8+k9+k10+k11) = !freeB x)
theorem zEx (w:World):ExAt w.heap.size w (xv 0 0 ⟨#[]⟩ (.slice none 0 0)) zE:=.of (by decide) (ArgsAt.nil _ _ none 0)
theorem zB_zE:zB zE=true:=rfl
theorem emp_emp:isEmp ⟨#[]⟩=true:=rfl
theorem kindB_no {k:Int} (h1:k≠1) (h2:k≠2) (h3:k≠3) (h4:k≠4) (h5:k≠5) (h6:k≠6):kindB k=false:=by
 unfold kindB;rw [Bool.eq_false_iff];intro h;rw [Bool.and_eq_true,decide_eq_true_eq,decide_eq_true_eq] at h;omega
theorem rest_any (x:It) (a4 a7 a8 a9 a10 a11:Value) (N:Nat) (w:World) (h:IV N w a4 a7 a8 a9 a10 a11 x) (hN:N≤w.heap.size) (hsz:sz x.e≤10000) :
  Calls Tryz.prog 71 #[iv x.kd x.e.op x.e.n x.e.nm a4 x.nm x.ix a7 a8 a9 a10 a11] w (RestP w x):=by
 have hl:=h.lens;have hE:ExAt w.heap.size w (xv x.e.op x.e.n x.e.nm a4) x.e:=h.ex.wide hN;obtain⟨kd,o,n,en,p4,k4,c4,nm,ix,p7,k7,c7,p8,k8,c8,p9,k9,c9,p10,k10,c10,p11,k11,c11,ev,hv⟩:=h.open_;have ev2:=ev;simp only [Value.agg.injEq,Array.mk.injEq,List.cons.injEq] at ev2;obtain⟨-,-,-,-,rfl,-,-,rfl,rfl,rfl,rfl,rfl,-⟩:=ev2;rw [ev];obtain⟨e0,e1,e2,e3,e5,e6,l4,l7,l8,l9,l10,l11,-⟩:=hv;rw [e1,e2,e3] at hE;rw [l7,l8,l9,l10,l11] at hl;have HE:=Lh hE;have FB:Hid (freeB x=if kd=1∨kd=2 then isEmp nm&&(isEmp ix&&(decide (k7=0)&&(decide (k8=0)&&(decide (k9=0)&&(decide (k10=0)&&decide (k11=0))))))
  else if kd=3 then zB x.e&&(isEmp ix&&(decide (k8=0)&&(decide (k9=0)&&(decide (k10=0)&&decide (k11=0)))))
  else if kd=4 then isEmp nm&&(isEmp ix&&(decide (k7=0)&&(decide (k10=0)&&decide (k11=0))))
  else if kd=5 then zB x.e&&(decide (k7=0)&&(decide (k9=0)&&(decide (k10=0)&&decide (k11=0))))
  else zB x.e&&(isEmp nm&&(isEmp ix&&(decide (k7=0)&&(decide (k8=0)&&decide (k9=0)))))):=Lh (by
   unfold freeB;rw [e0,e5,e6,isEmpty_len,isEmpty_len,isEmpty_len,isEmpty_len,isEmpty_len,l7,l8,l9,l10,l11])
 have HKD:=Lh e0;clear h ev e0 e1 e2 e3 e5 e6 l4 l7 l8 l9 l10 l11 hE hN;have HB:Hid (∀ o,Below w.heap.size w (w.alloc o)):=(Lh fun o=>ba w o);by_cases h1:kd=1
 ·subst h1;have KB:Hid (kindB x.kd=true):=Lh (by rw [HKD.out];rfl)
  go_enter Tryz.func71,Tryz.ntmps71
  go_wp2;refine bodyPost_ret (v:=.tuple #[iv 1 0 0 ⟨#[]⟩ (.slice none 0 0) nm ix (.slice p7 k7 c7) (.slice p8 k8 c8) (.slice p9 k9 c9) (.slice p10 k10 c10) (.slice p11 k11 c11),.bool true]) (by simp [results,Tryz.results71,go_sem]) rfl ?_;refine⟨1,0,0,⟨#[]⟩,none,0,0,nm,ix,p7,k7,c7,p8,k8,c8,p9,k9,c9,p10,k10,c10,p11,k11,c11,by rw [KB.out],by repeat' (first | exact Below.refl _ _ | (refine Below.alloc ?_ (by simp) _) | (refine Below.setCell (p:=⟨_,_,_⟩) ?_ (by simp) _)),fun _=>⟨zE,by first | exact HE.out | exact zEx w,by first | exact hsz | (unfold zE;rw [sz_mk,szs_nil];omega),by omega,?_⟩⟩;rw [FB.out];simp only [hfB,zB_zE];rw [sum5];simp
 by_cases h2:kd=2
 ·subst h2;have KB:Hid (kindB x.kd=true):=Lh (by rw [HKD.out];rfl)
  go_enter Tryz.func71,Tryz.ntmps71
  go_wp2;refine bodyPost_ret (v:=.tuple #[iv 2 0 0 ⟨#[]⟩ (.slice none 0 0) nm ix (.slice p7 k7 c7) (.slice p8 k8 c8) (.slice p9 k9 c9) (.slice p10 k10 c10) (.slice p11 k11 c11),.bool true]) (by simp [results,Tryz.results71,go_sem]) rfl ?_;refine⟨2,0,0,⟨#[]⟩,none,0,0,nm,ix,p7,k7,c7,p8,k8,c8,p9,k9,c9,p10,k10,c10,p11,k11,c11,by rw [KB.out],by repeat' (first | exact Below.refl _ _ | (refine Below.alloc ?_ (by simp) _) | (refine Below.setCell (p:=⟨_,_,_⟩) ?_ (by simp) _)),fun _=>⟨zE,by first | exact HE.out | exact zEx w,by first | exact hsz | (unfold zE;rw [sz_mk,szs_nil];omega),by omega,?_⟩⟩;rw [FB.out];simp only [hfB,zB_zE];rw [sum5];simp
 by_cases h3:kd=3
 ·subst h3;have KB:Hid (kindB x.kd=true):=Lh (by rw [HKD.out];rfl)
  go_enter Tryz.func71,Tryz.ntmps71
  go_wp2;refine bodyPost_ret (v:=.tuple #[iv 3 o n en (.slice p4 k4 c4) ⟨#[]⟩ ix (.slice none 0 0) (.slice p8 k8 c8) (.slice p9 k9 c9) (.slice p10 k10 c10) (.slice p11 k11 c11),.bool true]) (by simp [results,Tryz.results71,go_sem]) rfl ?_;refine⟨3,o,n,en,p4,k4,c4,⟨#[]⟩,ix,none,0,0,p8,k8,c8,p9,k9,c9,p10,k10,c10,p11,k11,c11,by rw [KB.out],by repeat' (first | exact Below.refl _ _ | (refine Below.alloc ?_ (by simp) _) | (refine Below.setCell (p:=⟨_,_,_⟩) ?_ (by simp) _)),fun _=>⟨x.e,by first | exact HE.out | exact zEx w,by first | exact hsz | (unfold zE;rw [sz_mk,szs_nil];omega),by omega,?_⟩⟩;rw [FB.out];simp only [hfB,emp_emp];rw [sum5];simp
 by_cases h4:kd=4
 ·subst h4;have KB:Hid (kindB x.kd=true):=Lh (by rw [HKD.out];rfl)
  go_enter Tryz.func71,Tryz.ntmps71
  go_wp2;refine bodyPost_ret (v:=.tuple #[iv 4 0 0 ⟨#[]⟩ (.slice none 0 0) nm ix (.slice p7 k7 c7) (.slice none 0 0) (.slice none 0 0) (.slice p10 k10 c10) (.slice p11 k11 c11),.bool true]) (by simp [results,Tryz.results71,go_sem]) rfl ?_;refine⟨4,0,0,⟨#[]⟩,none,0,0,nm,ix,p7,k7,c7,none,0,0,none,0,0,p10,k10,c10,p11,k11,c11,by rw [KB.out],by repeat' (first | exact Below.refl _ _ | (refine Below.alloc ?_ (by simp) _) | (refine Below.setCell (p:=⟨_,_,_⟩) ?_ (by simp) _)),fun _=>⟨zE,by first | exact HE.out | exact zEx w,by first | exact hsz | (unfold zE;rw [sz_mk,szs_nil];omega),by omega,?_⟩⟩;rw [FB.out];simp only [hfB,zB_zE];rw [sum5];simp
 by_cases h5:kd=5
 ·subst h5;have KB:Hid (kindB x.kd=true):=Lh (by rw [HKD.out];rfl)
  go_enter Tryz.func71,Tryz.ntmps71
  go_wp2;refine bodyPost_ret (v:=.tuple #[iv 5 o n en (.slice p4 k4 c4) ⟨#[]⟩ ⟨#[]⟩ (.slice p7 k7 c7) (.slice none 0 0) (.slice p9 k9 c9) (.slice p10 k10 c10) (.slice p11 k11 c11),.bool true]) (by simp [results,Tryz.results71,go_sem]) rfl ?_;refine⟨5,o,n,en,p4,k4,c4,⟨#[]⟩,⟨#[]⟩,p7,k7,c7,none,0,0,p9,k9,c9,p10,k10,c10,p11,k11,c11,by rw [KB.out],by repeat' (first | exact Below.refl _ _ | (refine Below.alloc ?_ (by simp) _) | (refine Below.setCell (p:=⟨_,_,_⟩) ?_ (by simp) _)),fun _=>⟨x.e,by first | exact HE.out | exact zEx w,by first | exact hsz | (unfold zE;rw [sz_mk,szs_nil];omega),by omega,?_⟩⟩;rw [FB.out];simp only [hfB,emp_emp];rw [sum5];simp
 by_cases h6:kd=6
 ·subst h6;have KB:Hid (kindB x.kd=true):=Lh (by rw [HKD.out];rfl)
  go_enter Tryz.func71,Tryz.ntmps71
  go_wp2;refine bodyPost_ret (v:=.tuple #[iv 6 o n en (.slice p4 k4 c4) nm ix (.slice p7 k7 c7) (.slice p8 k8 c8) (.slice p9 k9 c9) (.slice none 0 0) (.slice none 0 0),.bool true]) (by simp [results,Tryz.results71,go_sem]) rfl ?_;refine⟨6,o,n,en,p4,k4,c4,nm,ix,p7,k7,c7,p8,k8,c8,p9,k9,c9,none,0,0,none,0,0,by rw [KB.out],by repeat' (first | exact Below.refl _ _ | (refine Below.alloc ?_ (by simp) _) | (refine Below.setCell (p:=⟨_,_,_⟩) ?_ (by simp) _)),fun _=>⟨x.e,by first | exact HE.out | exact zEx w,by first | exact hsz | (unfold zE;rw [sz_mk,szs_nil];omega),by omega,?_⟩⟩;rw [FB.out];simp only [hfB];rw [sum5];simp
 have KB:Hid (kindB x.kd=false):=Lh (by rw [HKD.out];exact kindB_no h1 h2 h3 h4 h5 h6);have q1:(kd == 1)=false:=(by rw [beq_eq_false_iff_ne];exact h1);have q2:(kd == 2)=false:=(by rw [beq_eq_false_iff_ne];exact h2);have q3:(kd == 3)=false:=(by rw [beq_eq_false_iff_ne];exact h3);have q4:(kd == 4)=false:=(by rw [beq_eq_false_iff_ne];exact h4);have q5:(kd == 5)=false:=(by rw [beq_eq_false_iff_ne];exact h5);have q6:(kd == 6)=false:=(by rw [beq_eq_false_iff_ne];exact h6);clear h1 h2 h3 h4 h5 h6
 go_enter Tryz.func71,Tryz.ntmps71
 go_wp2;refine bodyPost_ret (v:=.tuple #[iv 0 0 0 ⟨#[]⟩ (.slice none 0 0) ⟨#[]⟩ ⟨#[]⟩ (.slice none 0 0) (.slice none 0 0) (.slice none 0 0) (.slice none 0 0) (.slice none 0 0),.bool false]) (by simp [results,Tryz.results71,go_sem]) rfl ?_;refine⟨0,0,0,⟨#[]⟩,none,0,0,⟨#[]⟩,⟨#[]⟩,none,0,0,none,0,0,none,0,0,none,0,0,none,0,0,by rw [KB.out],by repeat' (first | exact Below.refl _ _ | (refine Below.alloc ?_ (by simp) _) | (refine Below.setCell (p:=⟨_,_,_⟩) ?_ (by simp) _)),fun h=>by rw [KB.out] at h;cases h⟩
end ItW
end Go.Proofs.YtpejflgdehioaaaGreatDoor
