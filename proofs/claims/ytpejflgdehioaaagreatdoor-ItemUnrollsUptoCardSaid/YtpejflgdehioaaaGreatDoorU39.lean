/-
  Laws that the card uses; no conditions beside those that each states (ItROne ItRUnd ItRXQ).
-/
import Derived.Test.YtpejflgdehioaaaGreatDoorU35
import Derived.Test.YtpejflgdehioaaaGreatDoorU37
set_option maxRecDepth 100000
set_option maxHeartbeats 16000000
namespace Go.Proofs.YtpejflgdehioaaaGreatDoor
namespace ItW
open Go Go.RowKit NumM LexW LexM ExM ExW ItM
open ClM (Fld firstE)
theorem oneR_any (fs:List Fld) (hNm:∀ f∈fs,nmB f.nm.data.toList=true) (x:It) (a4 a7 a8 a9 a10 a11:Value) (B B':List ByteArray) (hBB:∀ s,memB B' s=memB B s) (cv vi:Value) (N N':Nat) (w:World) (h:IV N w a4 a7 a8 a9 a10 a11 x) (hc:ClA N w cv fs) (hi:StA N' w vi B') (hN:N≤w.heap.size) (hN':N'≤w.heap.size) (hsz:sz x.e≤10000) :
  Calls Tryz.prog 85 #[iv x.kd x.e.op x.e.n x.e.nm a4 x.nm x.ix a7 a8 a9 a10 a11,cv,vi] w (tInt (chkI fs B x) w):=by
 have hnm:=h.nm;have EX:Hid (∀ W,Below w.heap.size w W→Calls Tryz.prog 58 #[xv x.e.op x.e.n x.e.nm a4,cv,vi] W (tInt (exE fs B x.e) W)):=(Lh fun W hW=>askedR_any fs hNm B B' hBB x.e _ cv vi W.heap.size W ((h.ex.under (hW.mono hN)).wide (by have:=hW.size;omega)) ((hc.under (hW.mono hN)).wide (by have:=hW.size;omega)) ((hi.under (hW.mono hN')).wide (by have:=hW.size;omega)) (Nat.le_refl _) hsz (at_names h.ex 1));have NA:Hid (∀ W v l N2,Below w.heap.size w W→StA N2 W v l→N2≤W.heap.size→Calls Tryz.prog 130 #[cv,v] W (tBool (!l.any (unkB fs)) W)):=(Lh fun W v l N2 hW hl h2=>namedR_any fs hNm l cv v N N2 W (hc.under (hW.mono hN)) hl (by have:=hW.size;omega) h2);have NB:Hid (∀ W,Below w.heap.size w W→Calls Tryz.prog 130 #[cv,a10] W (tBool (!x.bf.any (unkB fs)) W)):=(Lh fun W hW=>NA.out W a10 x.bf N hW (h.bfs.under (hW.mono hN)) (by have:=hW.size;omega));have NF:Hid (∀ W,Below w.heap.size w W→Calls Tryz.prog 130 #[cv,a11] W (tBool (!x.af.any (unkB fs)) W)):=(Lh fun W hW=>NA.out W a11 x.af N hW (h.afs.under (hW.mono hN)) (by have:=hW.size;omega));have AC:Hid (∀ W s,Below w.heap.size w W→Calls Tryz.prog 104 #[cv,.string s] W (tInt (arrE fs s) W)):=(Lh fun W s hW=>arrayR_any fs cv s N W (hc.under (hW.mono hN)) (by have:=hW.size;omega));have FC:Hid (∀ W s,Below w.heap.size w W→Calls Tryz.prog 91 #[cv,.string s] W (tFld fs s W)):=(Lh fun W s hW=>fieldR_any fs cv s N W (hc.under (hW.mono hN)) (by have:=hW.size;omega));have BC:Hid (∀ W s,Below w.heap.size w W→Calls Tryz.prog 39 #[vi,.string s] W fun e w'=>e=.returned (.bool (memB B s))∧W=w'):=(Lh fun W s hW=>by rw [←hBB];exact boundR_any B' vi s N' W (hi.under (hW.mono hN')));obtain⟨kd,o,n,en,p4,k4,c4,nm,ix,p7,k7,c7,p8,k8,c8,p9,k9,c9,p10,k10,c10,p11,k11,c11,ev,hv⟩:=h.open_;have ev2:=ev;simp only [Value.agg.injEq,Array.mk.injEq,List.cons.injEq] at ev2;obtain⟨-,-,-,-,rfl,-,-,rfl,rfl,rfl,rfl,rfl,-⟩:=ev2;rw [ev];obtain⟨e0,e1,e2,e3,e5,e6,l4,l7,l8,l9,l10,l11,-⟩:=hv;rw [e1,e2,e3] at EX;rw [e5] at hnm;have CE:Hid (chkI fs B x=if kd=3 then (if unkB fs nm=true then 7 else 0) else if kd=6 then (if (x.bf++x.af).any (unkB fs)=true then 7 else 0) else if kd=5 then (if arrE fs nm=0 then (if ((szO fs ix).isSome||memB B ix)=true then 8 else 0) else arrE fs nm) else exE fs B x.e):=Lh (by unfold chkI;rw [e0,e5,e6]);have AP:Hid ((x.bf++x.af).any (unkB fs)=(x.bf.any (unkB fs)||x.af.any (unkB fs))):=Lh (List.any_append ..);obtain⟨cnm,par,vf,pb,kb,cb,rfl,pf,cf,rfl,_⟩:=hc;obtain⟨pi,ci,rfl,_⟩:=hi;clear h ev e0 e1 e2 e3 e5 e6 l4 l7 l8 l9 l10 l11 hN hN' hsz hBB hNm;generalize fs.length=KF at *
 generalize B'.length=KB at *
 generalize x.bf.any (unkB fs)=ub at *
 generalize x.af.any (unkB fs)=ua at *
 generalize (x.bf++x.af).any (unkB fs)=uu at *
 generalize exE fs B x.e=XE at *
 generalize chkI fs B x=R at *
 have B3:=(Blk.new w (ics kd o n en (.slice p4 k4 c4) nm ix (.slice p7 k7 c7) (.slice p8 k8 c8) (.slice p9 k9 c9) (.slice p10 k10 c10) (.slice p11 k11 c11)) 55).stay (ba _ (.cells #[.string cnm,.string par,.slice pf KF cf,.slice pb kb cb] 34));have B4:=Blk.new (w.alloc (.cells (ics kd o n en (.slice p4 k4 c4) nm ix (.slice p7 k7 c7) (.slice p8 k8 c8) (.slice p9 k9 c9) (.slice p10 k10 c10) (.slice p11 k11 c11)).toArray 55)) [.string cnm,.string par,.slice pf KF cf,.slice pb kb cb] 34;have hb2:=(ba w (.cells (ics kd o n en (.slice p4 k4 c4) nm ix (.slice p7 k7 c7) (.slice p8 k8 c8) (.slice p9 k9 c9) (.slice p10 k10 c10) (.slice p11 k11 c11)).toArray 55)).then_ (ba _ (.cells #[.string cnm,.string par,.slice pf KF cf,.slice pb kb cb] 34));rw [World.size_alloc] at B4;simp only [List.toArray] at B3 B4 hb2;obtain⟨W0,hW0⟩:∃ W0,(w.alloc (.cells #[.int .i64 kd,.int .i64 o,.int .i64 n,.string en,.slice p4 k4 c4,.string nm,.string ix,.slice p7 k7 c7,.slice p8 k8 c8,.slice p9 k9 c9,.slice p10 k10 c10,.slice p11 k11 c11] 55)).alloc (.cells #[.string cnm,.string par,.slice pf KF cf,.slice pb kb cb] 34)=W0:=⟨_,rfl⟩;rw [hW0] at B3 B4 hb2;have HB:=Lh hb2;have H3:=Lh B3;have H4:=Lh B4;have d0:=B3.c 0 _ rfl;have d1:=B3.c 1 _ rfl;have d2:=B3.c 2 _ rfl;have d3:=B3.c 3 _ rfl;have d4:=B3.c 4 _ rfl;have d5:=B3.c 5 _ rfl;have d6:=B3.c 6 _ rfl;have d10:=B3.c 10 _ rfl;have d11:=B3.c 11 _ rfl;have a0:=B4.c 0 _ rfl;have a1:=B4.c 1 _ rfl;have a2:=B4.c 2 _ rfl;have a3:=B4.c 3 _ rfl;clear B3 B4 hb2;by_cases h3:kd=3
 ·subst h3;have hba:=ba W0 (.cells #[.string nm] 9);have hst:StA (W0.alloc (.cells #[.string nm] 9)).heap.size (W0.alloc (.cells #[.string nm] 9)) (.slice (some ⟨W0.heap.size,0,none⟩) 1 1) [nm] :=
   ⟨some ⟨W0.heap.size,0,none⟩,1,rfl,by simp,by simp,fun s hs=>by simp at hs;subst hs;exact hnm,fun _=>⟨W0.heap.size,0,rfl,by rw [World.size_alloc];omega,fun i s hi=>by
    rcases i with _ | i
    ·obtain rfl:nm=s:=(by simpa using hi);have:=(Blk.new W0 [.string nm] 9).c 0 _ rfl;exact this
    ·simp at hi⟩⟩
  have N3:=Lh (NA.out _ _ [nm] _ (HB.out.then_ hba) hst (Nat.le_refl _));have HB1:=Lh (HB.out.then_ hba);have U1:Hid ((!([nm].any (unkB fs))) = !unkB fs nm):=Lh (by simp);rw [U1.out] at N3;clear hba hst U1;generalize unkB fs nm=u at *
  cases u
  ·have E:Hid (R=0):=Lh (by rw [CE.out];rfl);clear CE AP
   go_enter Tryz.func85,Tryz.ntmps85
   go_wp2_with (first
    | (go_at_call 130;((with_reducible refine N3.out.mono ?_);rintro e w3 ⟨rfl,hb⟩;have HB2:=Lh (HB1.out.then_ hb);clear hb)))
   go_ret;exact tInt_mk E.out HB2.out
  ·have E:Hid (R=7):=Lh (by rw [CE.out];rfl);clear CE AP
   go_enter Tryz.func85,Tryz.ntmps85
   go_wp2_with (first
    | (go_at_call 130;((with_reducible refine N3.out.mono ?_);rintro e w3 ⟨rfl,hb⟩;have HB2:=Lh (HB1.out.then_ hb);clear hb)))
   go_ret;exact tInt_mk E.out HB2.out
 ·have f3:(kd == 3)=false:=(by rw [beq_eq_false_iff_ne];exact h3);by_cases h6:kd=6
  ·subst h6;cases ub
   ·cases ua
    ·have E:Hid (R=0):=Lh (by rw [CE.out,AP.out];rfl);clear CE AP
     go_enter Tryz.func85,Tryz.ntmps85
     go_wp2_with (first
      | (go_at_call 130;((with_reducible refine (NB.out _ HB.out).mono ?_);rintro e w1 ⟨rfl,hb⟩;have HB1:=Lh (HB.out.then_ hb);have F3:=H3.out.stay hb;have F4:=H4.out.stay hb;(try clear d0);(try clear d1);(try clear d2);(try clear d3);(try clear d4);(try clear d5);(try clear d6);(try clear d10);(try clear d11);(try clear a0);(try clear a1);(try clear a2);(try clear a3);have d0:=F3.c 0 _ rfl;have d5:=F3.c 5 _ rfl;have d6:=F3.c 6 _ rfl;have d10:=F3.c 10 _ rfl;have d11:=F3.c 11 _ rfl;have a0:=F4.c 0 _ rfl;have a1:=F4.c 1 _ rfl;have a2:=F4.c 2 _ rfl;have a3:=F4.c 3 _ rfl;have H31:=Lh F3;have H41:=Lh F4;clear F3 F4;clear hb))
      | (go_at_call 130;((with_reducible refine (NF.out _ HB1.out).mono ?_);rintro e w2 ⟨rfl,hb⟩;have HB2:=Lh (HB1.out.then_ hb);clear hb)))
     go_ret;exact tInt_mk E.out HB2.out
    ·have E:Hid (R=7):=Lh (by rw [CE.out,AP.out];rfl);clear CE AP
     go_enter Tryz.func85,Tryz.ntmps85
     go_wp2_with (first
      | (go_at_call 130;((with_reducible refine (NB.out _ HB.out).mono ?_);rintro e w1 ⟨rfl,hb⟩;have HB1:=Lh (HB.out.then_ hb);have F3:=H3.out.stay hb;have F4:=H4.out.stay hb;(try clear d0);(try clear d1);(try clear d2);(try clear d3);(try clear d4);(try clear d5);(try clear d6);(try clear d10);(try clear d11);(try clear a0);(try clear a1);(try clear a2);(try clear a3);have d0:=F3.c 0 _ rfl;have d5:=F3.c 5 _ rfl;have d6:=F3.c 6 _ rfl;have d10:=F3.c 10 _ rfl;have d11:=F3.c 11 _ rfl;have a0:=F4.c 0 _ rfl;have a1:=F4.c 1 _ rfl;have a2:=F4.c 2 _ rfl;have a3:=F4.c 3 _ rfl;have H31:=Lh F3;have H41:=Lh F4;clear F3 F4;clear hb))
      | (go_at_call 130;((with_reducible refine (NF.out _ HB1.out).mono ?_);rintro e w2 ⟨rfl,hb⟩;have HB2:=Lh (HB1.out.then_ hb);clear hb)))
     go_ret;exact tInt_mk E.out HB2.out
   ·have E:Hid (R=7):=Lh (by rw [CE.out,AP.out];rfl);clear CE AP
    go_enter Tryz.func85,Tryz.ntmps85
    go_wp2_with (first
     | (go_at_call 130;((with_reducible refine (NB.out _ HB.out).mono ?_);rintro e w1 ⟨rfl,hb⟩;have HB1:=Lh (HB.out.then_ hb);have F3:=H3.out.stay hb;have F4:=H4.out.stay hb;(try clear d0);(try clear d1);(try clear d2);(try clear d3);(try clear d4);(try clear d5);(try clear d6);(try clear d10);(try clear d11);(try clear a0);(try clear a1);(try clear a2);(try clear a3);have d0:=F3.c 0 _ rfl;have d5:=F3.c 5 _ rfl;have d6:=F3.c 6 _ rfl;have d10:=F3.c 10 _ rfl;have d11:=F3.c 11 _ rfl;have a0:=F4.c 0 _ rfl;have a1:=F4.c 1 _ rfl;have a2:=F4.c 2 _ rfl;have a3:=F4.c 3 _ rfl;have H31:=Lh F3;have H41:=Lh F4;clear F3 F4;clear hb)))
    go_ret;exact tInt_mk E.out HB1.out
  ·have f6:(kd == 6)=false:=(by rw [beq_eq_false_iff_ne];exact h6);by_cases h5:kd=5
   ·subst h5;have A5:=Lh (fun W hW=>AC.out W nm hW);generalize arrE fs nm=E1 at *
    by_cases h1:E1=0
    ·subst h1;cases ho:szO fs ix with
     | some m =>
      have F5:Hid (∀ W,Below w.heap.size w W→Calls Tryz.prog 91 #[.agg #[.string cnm,.string par,.slice pf KF cf,.slice pb kb cb],.string ix] W fun e w'=>e=.returned (.tuple #[.int .i64 m,.bool true])∧Below W.heap.size W w'):=Lh fun W hW=>(FC.out W ix hW).mono fun e w' h=>by
       unfold tFld at h;rw [szI_some ho,ho] at h;exact h
      have E:Hid (R=8):=Lh (by rw [CE.out,ho];rfl);clear CE AP
      go_enter Tryz.func85,Tryz.ntmps85
      go_wp2_with (first
       | (go_at_call 104;((with_reducible refine (A5.out _ HB.out).mono ?_);rintro e w1 ⟨rfl,hb⟩;have HB1:=Lh (HB.out.then_ hb);have F3:=H3.out.stay hb;have F4:=H4.out.stay hb;(try clear d0);(try clear d1);(try clear d2);(try clear d3);(try clear d4);(try clear d5);(try clear d6);(try clear d10);(try clear d11);(try clear a0);(try clear a1);(try clear a2);(try clear a3);have d0:=F3.c 0 _ rfl;have d5:=F3.c 5 _ rfl;have d6:=F3.c 6 _ rfl;have d10:=F3.c 10 _ rfl;have d11:=F3.c 11 _ rfl;have a0:=F4.c 0 _ rfl;have a1:=F4.c 1 _ rfl;have a2:=F4.c 2 _ rfl;have a3:=F4.c 3 _ rfl;have H31:=Lh F3;have H41:=Lh F4;clear F3 F4;clear hb))
       | (go_at_call 91;((with_reducible refine (F5.out _ HB1.out).mono ?_);rintro e w2 ⟨rfl,hb⟩;have HB2:=Lh (HB1.out.then_ hb);have F3:=H31.out.stay hb;have F4:=H41.out.stay hb;(try clear d0);(try clear d1);(try clear d2);(try clear d3);(try clear d4);(try clear d5);(try clear d6);(try clear d10);(try clear d11);(try clear a0);(try clear a1);(try clear a2);(try clear a3);have d0:=F3.c 0 _ rfl;have d5:=F3.c 5 _ rfl;have d6:=F3.c 6 _ rfl;have d10:=F3.c 10 _ rfl;have d11:=F3.c 11 _ rfl;have a0:=F4.c 0 _ rfl;have a1:=F4.c 1 _ rfl;have a2:=F4.c 2 _ rfl;have a3:=F4.c 3 _ rfl;have H32:=Lh F3;have H42:=Lh F4;clear F3 F4;clear hb)))
      go_ret;exact tInt_mk E.out HB2.out
     | none =>
      have F5:Hid (∀ W,Below w.heap.size w W→Calls Tryz.prog 91 #[.agg #[.string cnm,.string par,.slice pf KF cf,.slice pb kb cb],.string ix] W fun e w'=>e=.returned (.tuple #[.int .i64 0,.bool false])∧Below W.heap.size W w'):=Lh fun W hW=>(FC.out W ix hW).mono fun e w' h=>by
       unfold tFld at h;rw [szI_none ho,ho] at h;exact h
      have B5:=Lh (fun W hW=>BC.out W ix hW);generalize memB B ix=q at *
      cases q
      ·have E:Hid (R=0):=Lh (by rw [CE.out,ho];rfl);clear CE AP
       go_enter Tryz.func85,Tryz.ntmps85
       go_wp2_with (first
        | (go_at_call 104;((with_reducible refine (A5.out _ HB.out).mono ?_);rintro e w1 ⟨rfl,hb⟩;have HB1:=Lh (HB.out.then_ hb);have F3:=H3.out.stay hb;have F4:=H4.out.stay hb;(try clear d0);(try clear d1);(try clear d2);(try clear d3);(try clear d4);(try clear d5);(try clear d6);(try clear d10);(try clear d11);(try clear a0);(try clear a1);(try clear a2);(try clear a3);have d0:=F3.c 0 _ rfl;have d5:=F3.c 5 _ rfl;have d6:=F3.c 6 _ rfl;have d10:=F3.c 10 _ rfl;have d11:=F3.c 11 _ rfl;have a0:=F4.c 0 _ rfl;have a1:=F4.c 1 _ rfl;have a2:=F4.c 2 _ rfl;have a3:=F4.c 3 _ rfl;have H31:=Lh F3;have H41:=Lh F4;clear F3 F4;clear hb))
        | (go_at_call 91;((with_reducible refine (F5.out _ HB1.out).mono ?_);rintro e w2 ⟨rfl,hb⟩;have HB2:=Lh (HB1.out.then_ hb);have F3:=H31.out.stay hb;have F4:=H41.out.stay hb;(try clear d0);(try clear d1);(try clear d2);(try clear d3);(try clear d4);(try clear d5);(try clear d6);(try clear d10);(try clear d11);(try clear a0);(try clear a1);(try clear a2);(try clear a3);have d0:=F3.c 0 _ rfl;have d5:=F3.c 5 _ rfl;have d6:=F3.c 6 _ rfl;have d10:=F3.c 10 _ rfl;have d11:=F3.c 11 _ rfl;have a0:=F4.c 0 _ rfl;have a1:=F4.c 1 _ rfl;have a2:=F4.c 2 _ rfl;have a3:=F4.c 3 _ rfl;have H32:=Lh F3;have H42:=Lh F4;clear F3 F4;clear hb))
        | (go_at_call 39;((with_reducible refine (B5.out _ HB2.out).mono ?_);rintro e w3 ⟨rfl,rfl⟩)))
       go_ret;exact tInt_mk E.out HB2.out
      ·have E:Hid (R=8):=Lh (by rw [CE.out,ho];rfl);clear CE AP
       go_enter Tryz.func85,Tryz.ntmps85
       go_wp2_with (first
        | (go_at_call 104;((with_reducible refine (A5.out _ HB.out).mono ?_);rintro e w1 ⟨rfl,hb⟩;have HB1:=Lh (HB.out.then_ hb);have F3:=H3.out.stay hb;have F4:=H4.out.stay hb;(try clear d0);(try clear d1);(try clear d2);(try clear d3);(try clear d4);(try clear d5);(try clear d6);(try clear d10);(try clear d11);(try clear a0);(try clear a1);(try clear a2);(try clear a3);have d0:=F3.c 0 _ rfl;have d5:=F3.c 5 _ rfl;have d6:=F3.c 6 _ rfl;have d10:=F3.c 10 _ rfl;have d11:=F3.c 11 _ rfl;have a0:=F4.c 0 _ rfl;have a1:=F4.c 1 _ rfl;have a2:=F4.c 2 _ rfl;have a3:=F4.c 3 _ rfl;have H31:=Lh F3;have H41:=Lh F4;clear F3 F4;clear hb))
        | (go_at_call 91;((with_reducible refine (F5.out _ HB1.out).mono ?_);rintro e w2 ⟨rfl,hb⟩;have HB2:=Lh (HB1.out.then_ hb);have F3:=H31.out.stay hb;have F4:=H41.out.stay hb;(try clear d0);(try clear d1);(try clear d2);(try clear d3);(try clear d4);(try clear d5);(try clear d6);(try clear d10);(try clear d11);(try clear a0);(try clear a1);(try clear a2);(try clear a3);have d0:=F3.c 0 _ rfl;have d5:=F3.c 5 _ rfl;have d6:=F3.c 6 _ rfl;have d10:=F3.c 10 _ rfl;have d11:=F3.c 11 _ rfl;have a0:=F4.c 0 _ rfl;have a1:=F4.c 1 _ rfl;have a2:=F4.c 2 _ rfl;have a3:=F4.c 3 _ rfl;have H32:=Lh F3;have H42:=Lh F4;clear F3 F4;clear hb))
        | (go_at_call 39;((with_reducible refine (B5.out _ HB2.out).mono ?_);rintro e w3 ⟨rfl,rfl⟩)))
       go_ret;exact tInt_mk E.out HB2.out
    ·have f1:(E1 != 0)=true:=(by simpa using h1);have E:Hid (R=E1):=Lh (by rw [CE.out,if_neg (by decide),if_neg (by decide),if_pos rfl,if_neg h1]);clear CE AP
     go_enter Tryz.func85,Tryz.ntmps85
     go_wp2_with (first
      | (go_at_call 104;((with_reducible refine (A5.out _ HB.out).mono ?_);rintro e w1 ⟨rfl,hb⟩;have HB1:=Lh (HB.out.then_ hb);have F3:=H3.out.stay hb;have F4:=H4.out.stay hb;(try clear d0);(try clear d1);(try clear d2);(try clear d3);(try clear d4);(try clear d5);(try clear d6);(try clear d10);(try clear d11);(try clear a0);(try clear a1);(try clear a2);(try clear a3);have d0:=F3.c 0 _ rfl;have d5:=F3.c 5 _ rfl;have d6:=F3.c 6 _ rfl;have d10:=F3.c 10 _ rfl;have d11:=F3.c 11 _ rfl;have a0:=F4.c 0 _ rfl;have a1:=F4.c 1 _ rfl;have a2:=F4.c 2 _ rfl;have a3:=F4.c 3 _ rfl;have H31:=Lh F3;have H41:=Lh F4;clear F3 F4;clear hb)))
     go_ret;exact tInt_mk E.out HB1.out
   ·have f5:(kd == 5)=false:=(by rw [beq_eq_false_iff_ne];exact h5);have E:Hid (R=XE):=Lh (by rw [CE.out,if_neg h3,if_neg h6,if_neg h5]);clear CE AP
    go_enter Tryz.func85,Tryz.ntmps85
    go_wp2_with (first
     | (go_at_call 58;((with_reducible refine (EX.out _ HB.out).mono ?_);rintro e w1 ⟨rfl,hb⟩;have HB1:=Lh (HB.out.then_ hb);clear hb)))
    go_ret;exact tInt_mk E.out HB1.out
end ItW
namespace ItW
open Go Go.RowKit NumM LexW LexM ExM ExW ItM
def CQ (S:Nat→Prop) (w:World) (v:Value):Option Ex→Prop
 | none=>∃ p cap,v=.slice p 0 cap
 | some c=>∃ b p cap cp,v=.slice (some ⟨b,0,none⟩) 1 cp∧S b∧Blk w b [.int .i64 c.op,.int .i64 c.n,.string c.nm,.slice p c.args.length cap]∧ExS S w (xv c.op c.n c.nm (.slice p c.args.length cap)) c
theorem CQ.below {S S':Nat→Prop} {w w':World} {v:Value} {q:Option Ex} (h:CQ S w v q) (hS:∀ b,S b→b<w.heap.size) (hb:Below w.heap.size w w') (hS':∀ b,S b→S' b):CQ S' w' v q:=by
 cases q with
 | none=>exact h
 | some c =>
  obtain⟨b,p,cap,cp,e,h1,h2,h3⟩:=h;exact⟨b,p,cap,cp,e,hS' b h1,h2.stay hb,exs_up h3 hS hb hS'⟩
theorem CQ.slice {S:Nat→Prop} {w:World} {v:Value} {q:Option Ex} (h:CQ S w v q):∃ p n cap,v=.slice p n cap:=by
 cases q with
 | none=>obtain⟨p,cap,e⟩:=h;exact⟨p,0,cap,e⟩
 | some c=>obtain⟨b,p,cap,cp,e,_⟩:=h;exact⟨_,_,_,e⟩
def tUnR (S:Nat→Prop) (x:Ex) (w:World) (e:Ending) (w':World):Prop:=∃ v,e=.returned v∧ExS (Ft S w.heap.size w') w' v x∧Below w.heap.size w w'
theorem underR_any (S:Nat→Prop) (op:Int) (q:Option Ex) (e:Ex) (vq ve:Value) (w:World) (hS:∀ b,S b→b<w.heap.size) (hq:CQ S w vq q) (he:ExS S w ve e) :
  Calls Tryz.prog 90 #[.int .i64 op,vq,ve] w (tUnR S (und q op e) w):=by
 obtain⟨p,cap,rfl,hen,hel⟩:=he.form;have HE:=Lh he;have HS:=Lh hS;have hb1:=ba w (.cells #[.int .i64 e.op,.int .i64 e.n,.string e.nm,.slice p e.args.length cap] 43);have FE:=Blk.new w [.int .i64 e.op,.int .i64 e.n,.string e.nm,.slice p e.args.length cap] 43;have HB1:=Lh hb1;cases q with
 | none =>
  obtain⟨pq,kq,rfl⟩:=hq;have d0:=FE.c 0 _ rfl;have d1:=FE.c 1 _ rfl;have d2:=FE.c 2 _ rfl;have d3:=FE.c 3 _ rfl;have FIN:Hid (∀ W,Below w.heap.size w W→tUnR S e w (.returned (xv e.op e.n e.nm (.slice p e.args.length cap))) W):=(Lh fun W hW=>⟨_,rfl,exs_up HE.out HS.out hW fun b h=>.inl h,hW⟩);clear hb1 FE he hen hel hS
  go_enter Tryz.func90,Tryz.ntmps90
  go_wp2;exact bodyPost_ret (v:=xv e.op e.n e.nm (.slice p e.args.length cap)) (by simp [results,Tryz.results90,go_sem]) rfl (FIN.out _ (HB1.out.then_ (ba _ _)))
 | some c =>
  obtain⟨b,pc,kc,cp,rfl,hSb,hf,hx⟩:=hq;have b2:=ba (w.alloc (.cells #[.int .i64 e.op,.int .i64 e.n,.string e.nm,.slice p e.args.length cap] 43)) (.cells #[.int .i64 0,.int .i64 0,.string ⟨#[]⟩,.slice none 0 0] 43);have FR:=Blk.new (w.alloc (.cells #[.int .i64 e.op,.int .i64 e.n,.string e.nm,.slice p e.args.length cap] 43)) [.int .i64 0,.int .i64 0,.string ⟨#[]⟩,.slice none 0 0] 43;rw [World.size_alloc] at FR;have hb12:=hb1.then_ b2;obtain⟨W2,hW2⟩:∃ W2,(w.alloc (.cells #[.int .i64 e.op,.int .i64 e.n,.string e.nm,.slice p e.args.length cap] 43)).alloc (.cells #[.int .i64 0,.int .i64 0,.string ⟨#[]⟩,.slice none 0 0] 43)=W2:=⟨_,rfl⟩;have F2:=FE.stay b2;rw [hW2] at FR hb12 F2;have hf1:=hf.stay hb12;have HB2:=Lh hb12;have HFR:=Lh FR;have NC:Hid (∀ W,Below W2.heap.size W2 W→Calls Tryz.prog 138 #[.int .i64 op,xv c.op c.n c.nm (.slice pc c.args.length kc),xv e.op e.n e.nm (.slice p e.args.length cap)] W fun x w'=>∃ b,x=.returned (xv op 0 ⟨#[]⟩ (.slice (some ⟨b,0,none⟩) 2 2))∧Hid (ExS (Ft S W2.heap.size w') w' (xv op 0 ⟨#[]⟩ (.slice (some ⟨b,0,none⟩) 2 2)) (.mk op 0 ⟨#[]⟩ [c,e]))∧Hid (Below W2.heap.size W2 w')∧Blk w' (w.heap.size+1) [.int .i64 0,.int .i64 0,.string ⟨#[]⟩,.slice none 0 0]):=Lh fun W hW=>by
   have hl:=HB2.out.then_ hW;exact (nodeR_any op c e _ _ S W (fun b h=>Nat.lt_of_lt_of_le (HS.out b h) hl.size) (exs_up hx HS.out hl fun _ h=>h) (exs_up HE.out HS.out hl fun _ h=>h)).mono fun x w' ⟨b,h1,h2,h3⟩=>⟨b,h1,Lh (h2.kept (fun b hb=>hb.imp id fun g=>⟨Nat.le_trans hW.size g.1,g.2⟩) (fun _ _ _ _ hv=>hv)),Lh (hW.then_ h3),HFR.out.stay (hW.then_ h3)⟩
  have m0:=hf1.c 0 _ rfl;have m1:=hf1.c 1 _ rfl;have m2:=hf1.c 2 _ rfl;have m3:=hf1.c 3 _ rfl;have d0:=F2.c 0 _ rfl;have d1:=F2.c 1 _ rfl;have d2:=F2.c 2 _ rfl;have d3:=F2.c 3 _ rfl;have r0:=FR.f 0;have r1:=FR.f 1;have r2:=FR.f 2;have r3:=FR.f 3;have hlb:=hf1.lt;have FIN:Hid (∀ (w5:World) (g5:Nat),Hid (Below W2.heap.size W2 w5)→Hid (ExS (Ft S W2.heap.size w5) w5 (xv op 0 ⟨#[]⟩ (.slice (some ⟨g5,0,none⟩) 2 2)) (.mk op 0 ⟨#[]⟩ [c,e]))→tUnR S (und (some c) op e) w (.returned (xv op 0 ⟨#[]⟩ (.slice (some ⟨g5,0,none⟩) 2 2))) ((((w5.setCell ⟨w.heap.size+1,0,none⟩ (.int .i64 op)).setCell ⟨w.heap.size+1,1,none⟩ (.int .i64 0)).setCell ⟨w.heap.size+1,2,none⟩ (.string ⟨#[]⟩)).setCell ⟨w.heap.size+1,3,none⟩ (.slice (some ⟨g5,0,none⟩) 2 2))):=Lh fun w5 g5 hb hx=>by
   have hl:=HB2.out.then_ hb.out;have hg:w.heap.size+1<W2.heap.size:=HFR.out.lt;refine⟨_,rfl,(exs_put4 hx.out (fun b hb'=>?_) _ _ _ _).kept (fun b hb'=>hb'.imp id fun g=>⟨by have:=g.1;omega,by simp only [setCell_size];exact g.2⟩) (fun _ _ _ _ hv=>hv),(((hl.setCell (p:=⟨w.heap.size+1,0,none⟩) (Nat.le_succ _) _).setCell (p:=⟨w.heap.size+1,1,none⟩) (Nat.le_succ _) _).setCell (p:=⟨w.heap.size+1,2,none⟩) (Nat.le_succ _) _).setCell (p:=⟨w.heap.size+1,3,none⟩) (Nat.le_succ _) _⟩;rcases hb' with g | g
   ·have:=HS.out b g;omega
   ·have:=g.1;omega
  have HB20:Hid (Below W2.heap.size W2 W2):=Lh (Below.refl _ _);have HB2d:Hid (Below W2.heap.size W2 W2.drew):=Lh (Below.refl _ _).drew;clear hb1 FE he hen hel hS hf hf1 hx hb12 b2 F2 FR
  go_enter Tryz.func90,Tryz.ntmps90
  go_wp2
  (try rw [hW2])
  clear hW2
  go_region_with (go_at_call 138;(with_reducible refine (NC.out _ (by first | exact HB20.out | exact HB2d.out)).mono ?_);rintro x w5 ⟨g5,rfl,h5,hb5,hr5⟩;have y0:=hr5.f 0;have y1:=hr5.f 1;have y2:=hr5.f 2;have y3:=hr5.f 3;have z0:=hr5.c 0 _ rfl;have z1:=hr5.c 1 _ rfl;have z2:=hr5.c 2 _ rfl;have z3:=hr5.c 3 _ rfl;have hz5:=hr5.lt;have HR5:=Lh hr5;clear hr5)
  all_goals
   go_wp2;have p0:=((((HR5.out.set 0 (.int .i64 op) (by simp)).set 1 (.int .i64 0) (by simp)).set 2 (.string ⟨#[]⟩) (by simp)).set 3 (.slice (some ⟨g5,0,none⟩) 2 2) (by simp)).c 0 _ rfl;have p1:=((((HR5.out.set 0 (.int .i64 op) (by simp)).set 1 (.int .i64 0) (by simp)).set 2 (.string ⟨#[]⟩) (by simp)).set 3 (.slice (some ⟨g5,0,none⟩) 2 2) (by simp)).c 1 _ rfl;have p2:=((((HR5.out.set 0 (.int .i64 op) (by simp)).set 1 (.int .i64 0) (by simp)).set 2 (.string ⟨#[]⟩) (by simp)).set 3 (.slice (some ⟨g5,0,none⟩) 2 2) (by simp)).c 2 _ rfl;have p3:=((((HR5.out.set 0 (.int .i64 op) (by simp)).set 1 (.int .i64 0) (by simp)).set 2 (.string ⟨#[]⟩) (by simp)).set 3 (.slice (some ⟨g5,0,none⟩) 2 2) (by simp)).c 3 _ rfl;exact bodyPost_ret (v:=xv op 0 ⟨#[]⟩ (.slice (some ⟨g5,0,none⟩) 2 2)) (by simp [results,Tryz.results90,go_sem,p0,p1,p2,p3]) rfl (FIN.out _ _ hb5 h5)
end ItW
namespace ItW
open Go Go.RowKit NumM LexW LexM ExM ExW ItM
open ClM (Fld)
abbrev itZ:Value:=.agg #[.int .i64 0,.int .i64 0,.int .i64 0,.string ⟨#[]⟩,.slice none 0 0,.string ⟨#[]⟩,.string ⟨#[]⟩,.slice none 0 0,.slice none 0 0,.slice none 0 0,.slice none 0 0,.slice none 0 0]
theorem pq_one {S:Nat→Prop} {w:World} {p:Pq} (h:IVS S w p.a4 p.a7 p.a8 p.a9 p.a10 p.a11 p.x):∀ u∈pqC p,u.oneCell'=true:=by
 obtain⟨_,_,he,hw,hi,hx,hb,hf⟩:=h;obtain⟨_,_,e4,_⟩:=he.form;obtain⟨_,_,e7,_⟩:=hw;obtain⟨_,_,_,e8,_⟩:=hi.form;obtain⟨_,_,_,e9,_⟩:=hx.form;obtain⟨_,_,e10,_⟩:=hb;obtain⟨_,_,e11,_⟩:=hf;simp only [Value.agg.injEq,Array.mk.injEq,List.cons.injEq,and_true,true_and] at e4;intro u hu;simp only [pqC,ics,List.mem_cons,List.not_mem_nil,or_false] at hu;rcases hu with rfl | rfl | rfl | rfl | rfl | rfl | rfl | rfl | rfl | rfl | rfl | rfl
 ·rfl
 ·rfl
 ·rfl
 ·rfl
 ·rw [e4];rfl
 ·rfl
 ·rfl
 ·rw [e7];rfl
 ·rw [e8];rfl
 ·rw [e9];rfl
 ·rw [e10];rfl
 ·rw [e11];rfl
theorem pqs_one {S:Nat→Prop} {w:World} {M:List Pq} (h:∀ p∈M,IVS S w p.a4 p.a7 p.a8 p.a9 p.a10 p.a11 p.x):∀ u∈M.flatMap pqC,u.oneCell'=true:=fun u hu=>by
 obtain⟨p,hp,hu⟩:=List.mem_flatMap.1 hu;exact pq_one (h p hp) u hu
theorem row_one (w:World) (p:Pq):(w.alloc (.cells (pqC p).toArray 55)).ownsRow w.heap.size 55 12 (.slice (some ⟨w.heap.size,0,none⟩) 1 1) [p].length ([p].flatMap pqC):=by
 rw [List.flatMap_cons,List.flatMap_nil,List.append_nil];exact⟨rfl,.inr ⟨w.heap.size,1,(pqC p).toArray,rfl,Nat.le_refl _,heap_alloc_new _ _,Nat.le_refl _,by unfold maxLen;decide,rfl,rfl⟩⟩
theorem run_append_items {w:World} (ty:TypeId) {base nb:Nat} {i:TypeInfo} (hi:Tryz.prog.info? 55=some i) (hz:i.zero=some itZ) (hs:i.size=12) (hb:i.bytes=216) {v x:Value} {A D:List Pq} (h1:∀ u∈D.flatMap pqC,u.oneCell'=true) (hv:w.ownsRow base 55 12 v A.length (A.flatMap pqC)) (hx:w.ownsRow nb 55 12 x D.length (D.flatMap pqC)) (hl:A.length+D.length≤100000000) (hbase:base≤w.heap.size) :
  ∃ v' w',(Builtin.append_ #[22,22] ty #[v,x]).run Tryz.prog w=.ok v' w'∧w'.ownsRow base 55 12 v' (A.length+D.length) (A.flatMap pqC++D.flatMap pqC)∧w.grownBy w' v.ownBlock∧(v'.ownBlock=v.ownBlock∨v'.ownBlock=some w.heap.size):=by
 rcases hx.2 with ⟨rfl,h0⟩ | ⟨g,cap,cur,rfl,_⟩
 ·have hD:D=[]:=List.length_eq_zero_iff.1 h0;subst hD;refine⟨v,w,?_,by simpa using hv,⟨rfl,rfl,rfl,Nat.le_refl _,fun _ _ _=>rfl⟩,.inl rfl⟩;exact run_append_nil 22 ty base 55 i Tryz.underlying22 hi (by rw [hs];exact hv)
 ·obtain⟨v',w',hr,ho,hg,_,hn⟩:=run_append_own_at (P:=Tryz.prog) w base 22 ty 55 i itZ 12 216 Tryz.underlying22 hi hz hs hb rfl (by decide) v A.length (A.flatMap pqC) hv ⟨g,0,none⟩ D.length cap (D.flatMap pqC) (flat_len pqC_len D) (hx.cells rfl) h1 (by unfold maxLen;omega) (by omega) hbase;exact⟨v',w',hr,ho,hg,hn⟩
theorem wp_append_items {w:World} {o:Oper} {a:Act} {K:Act→World→Prop} {Q:Exit→Act→World→Prop} (s x:Operand)
  (ho:o.op=.call { callee:=.builtin .append,args:=#[s,x],argTypes:=#[22,22] })
  {base nb:Nat} {i:TypeInfo} (hi:Tryz.prog.info? 55=some i) (hz:i.zero=some itZ) (hs:i.size=12) (hb:i.bytes=216) (v xv:Value) (A D:List Pq) (hsv:a.eval s=v) (hxv:a.eval x=xv) (h1:∀ u∈D.flatMap pqC,u.oneCell'=true) (hv:w.ownsRow base 55 12 v A.length (A.flatMap pqC)) (hx:w.ownsRow nb 55 12 xv D.length (D.flatMap pqC)) (hl:A.length+D.length≤100000000) (hbase:base≤w.heap.size)
  (h:∀ v' w',w'.ownsRow base 55 12 v' (A.length+D.length) (A.flatMap pqC++D.flatMap pqC)→w.grownBy w' v.ownBlock→(v'.ownBlock=v.ownBlock∨v'.ownBlock=some w.heap.size)→K (a.put o.dst v') w'):o.wp Tryz.prog a w K Q:=by
 obtain⟨v',w',hr,h2,h3,h4⟩:=run_append_items o.type hi hz hs hb h1 hv hx hl hbase;unfold Oper.wp execOp;simp only [ho,resolve,invoke,builtin,Sem.run_bind,Sem.run_pure,Result.andThen_ok,List.map_toArray,List.map_cons,List.map_nil,hsv,hxv,hr];exact h v' w' h2 h3 h4
theorem wpList_append_items {w:World} {ops:Array Oper} {rest:List Oper} {o:Oper} {a:Act} {Q:Exit→Act→World→Prop} (hgd:o.guard=none) (s x:Operand)
  (ho:o.op=.call { callee:=.builtin .append,args:=#[s,x],argTypes:=#[22,22] })
  {base nb:Nat} {i:TypeInfo} (hi:Tryz.prog.info? 55=some i) (hz:i.zero=some itZ) (hs:i.size=12) (hb:i.bytes=216) (v xv:Value) (A D:List Pq) (hsv:a.eval s=v) (hxv:a.eval x=xv) (h1:∀ u∈D.flatMap pqC,u.oneCell'=true) (hv:w.ownsRow base 55 12 v A.length (A.flatMap pqC)) (hx:w.ownsRow nb 55 12 xv D.length (D.flatMap pqC)) (hl:A.length+D.length≤100000000) (hbase:base≤w.heap.size)
  (h:∀ v' w',w'.ownsRow base 55 12 v' (A.length+D.length) (A.flatMap pqC++D.flatMap pqC)→w.grownBy w' v.ownBlock→(v'.ownBlock=v.ownBlock∨v'.ownBlock=some w.heap.size)→wpList Tryz.prog ops Q rest (a.put o.dst v') w'):wpList Tryz.prog ops Q (o::rest) a w :=
 wpList_plain hgd fun _ hK=>wp_append_items s x ho hi hz hs hb v xv A D hsv hxv h1 hv hx hl hbase fun v' w' h2 h3 h4=>hK _ _ (h v' w' h2 h3 h4)
theorem step_append_items {w:World} {ops:Array Oper} {o:Oper} {a:Act} {K:Act→World→Prop} {Q:Exit→Act→World→Prop} {E:Prop} (hgd:o.guard=none) (s x:Operand)
  (ho:o.op=.call { callee:=.builtin .append,args:=#[s,x],argTypes:=#[22,22] })
  {base nb:Nat} {i:TypeInfo} (hi:Tryz.prog.info? 55=some i) (hz:i.zero=some itZ) (hs:i.size=12) (hb:i.bytes=216) (v xv:Value) (A D:List Pq) (hsv:a.eval s=v) (hxv:a.eval x=xv) (h1:∀ u∈D.flatMap pqC,u.oneCell'=true) (hv:w.ownsRow base 55 12 v A.length (A.flatMap pqC)) (hx:w.ownsRow nb 55 12 xv D.length (D.flatMap pqC)) (hl:A.length+D.length≤100000000) (hbase:base≤w.heap.size)
  (h:∀ v' w',w'.ownsRow base 55 12 v' (A.length+D.length) (A.flatMap pqC++D.flatMap pqC)→w.grownBy w' v.ownBlock→(v'.ownBlock=v.ownBlock∨v'.ownBlock=some w.heap.size)→K (a.put o.dst v') w') :
  if Region.wanted o (yielded ops a.tmps)=true then Oper.wp Tryz.prog o a w K Q else E:=by
 have hw:Region.wanted o (yielded ops a.tmps)=true:=(by simp [Region.wanted,hgd]);rw [if_pos hw];exact wp_append_items s x ho hi hz hs hb v xv A D hsv hxv h1 hv hx hl hbase h
structure XQ (S:Nat→Prop) (cb:Nat) (C:List Value) (w0:World) (X:List (Nat × List Value)) (W:World) (u:Value) (L:List Pq):Prop where
 q:QL (Ft S (cb+1) W) (cb+1) W u L
 c:Blk W cb C
 low:Below cb w0 W
 x:∀ p∈X,Blk W p.1 p.2∧u.ownBlock≠some p.1
theorem XQ.stay {S:Nat→Prop} {cb:Nat} {C:List Value} {w0:World} {X:List (Nat × List Value)} {W W':World} {u:Value} {L:List Pq} (hS:∀ b,S b→b<cb) (h:XQ S cb C w0 X W u L) (hb:Below W.heap.size W W'):XQ S cb C w0 X W' u L :=
 ⟨h.q.later hb fun b hb'=>⟨hb'.imp id fun g=>⟨g.1,Nat.lt_of_lt_of_le g.2 hb.size⟩,hb'.elim (fun g=>Nat.lt_trans (hS b g) h.c.lt) (fun g=>g.2)⟩,h.c.stay hb,h.low.trans (hb.mono (Nat.le_of_lt h.c.lt)),fun p hp=>⟨(h.x p hp).1.stay hb,(h.x p hp).2⟩⟩
theorem XQ.push {S:Nat→Prop} {cb lo:Nat} {C:List Value} {w0:World} {X:List (Nat × List Value)} {W W6 w7:World} {u u':Value} {L M:List Pq} (hS:∀ b,S b→b<cb) (h:XQ S cb C w0 X W u L) (_hlo:lo≤W.heap.size) (hcb:cb<lo) (hu:∀ b,u.ownBlock=some b→b<lo) (hb:Below W.heap.size W W6)
  (hM:∀ p∈M,IVS (Ft S lo W6) W6 p.a4 p.a7 p.a8 p.a9 p.a10 p.a11 p.x) (ho:w7.ownsRow (cb+1) 55 12 u' (L.length+M.length) (L.flatMap pqC++M.flatMap pqC)) (hg:W6.grownBy w7 u.ownBlock) (hn:u'.ownBlock=u.ownBlock∨u'.ownBlock=some W6.heap.size):XQ S cb C w0 X w7 u' (L++M):=by
 have hc:=h.c.lt;have hs:=hb.size;have h6:=h.stay hS hb;have hro:∀ b,u.ownBlock=some b→cb+1≤b∧b<W.heap.size:=(fun b e=>h.q.row.lt b e);refine⟨h6.q.more (fun b hb'=>⟨hb'.imp id fun g=>⟨g.1,Nat.lt_of_lt_of_le g.2 hg.size⟩,hb'.elim (fun g=>by have:=hS b g;omega) (fun g=>g.2)⟩) hg ho hn fun p hp=>?_,?_,?_,fun p hp=>?_⟩
 ·refine (hM p hp).kept (fun b hb'=>⟨hb'.imp id fun g=>⟨by have:=g.1;omega,g.2⟩,fun e=>?_⟩) (fun _ _ _ _ hv=>hv);have h1:=hro b e;have h2:=hu b e;rcases hb' with g | g
  ·have:=hS b g;omega
  ·have:=g.1;omega
 ·exact h6.c.grown hg (fun e=>by have:=hro cb e.symm;omega)
 ·exact h6.low.grown hg (by omega) (fun k e=>by have:=hro k e;omega)
 ·obtain⟨h1,h2⟩:=h6.x p hp;refine⟨h1.grown hg (fun e=>h2 e.symm),fun e=>?_⟩;rcases hn with hn | hn
  ·rw [hn] at e;exact h2 e
  ·rw [hn] at e;have:=(h.x p hp).1.lt;simp only [Option.some.injEq] at e;omega
theorem XQ.add {S:Nat→Prop} {cb:Nat} {C:List Value} {w0:World} {X:List (Nat × List Value)} {W:World} {u:Value} {L:List Pq} {g:Nat} {xs:List Value} (h:XQ S cb C w0 X W u L) (hB:Blk W g xs) (hg:u.ownBlock≠some g):XQ S cb C w0 ((g,xs)::X) W u L :=
 ⟨h.q,h.c,h.low,fun p hp=>(List.mem_cons.1 hp).elim (fun e=>by rw [e];exact⟨hB,hg⟩) (h.x p)⟩
theorem XQ.tail {S:Nat→Prop} {cb:Nat} {C:List Value} {w0:World} {a:Nat × List Value} {X:List (Nat × List Value)} {W:World} {u:Value} {L:List Pq} (h:XQ S cb C w0 (a::X) W u L):XQ S cb C w0 X W u L:=⟨h.q,h.c,h.low,fun p hp=>h.x p (List.mem_cons_of_mem _ hp)⟩
theorem XQ.apart {S:Nat→Prop} {cb:Nat} {C:List Value} {w0:World} {X:List (Nat × List Value)} {W:World} {u:Value} {L:List Pq} (h:XQ S cb C w0 X W u L) {g:Nat} (hg:W.heap.size≤g):u.ownBlock≠some g:=fun e=>by have:=h.q.row.lt g e;omega
def tExR (S:Nat→Prop) (X:List It) (w:World) (e:Ending) (w':World):Prop:=∃ (v:Value) (n0:Nat) (L:List Pq),e=.returned v∧L.map Pq.x=X∧QL (Ft S w.heap.size w') n0 w' v L∧Below w.heap.size w w'
theorem tExR.part {S:Nat→Prop} {lo:Nat} {X:List It} {W:World} {e:Ending} {w':World} (h:tExR (Ft S lo W) X W e w') (hlo:lo≤W.heap.size) :
  ∃ (v:Value) (n0:Nat) (M:List Pq),e=.returned v∧M.map Pq.x=X∧w'.ownsRow n0 55 12 v M.length (M.flatMap pqC)∧(∀ p∈M,IVS (Ft S lo w') w' p.a4 p.a7 p.a8 p.a9 p.a10 p.a11 p.x)∧Below W.heap.size W w':=by
 obtain⟨v,n0,M,h1,h2,h3,h4⟩:=h;refine⟨v,n0,M,h1,h2,h3.row,fun p hp=>(h3.el p hp).kept (fun b hb=>?_) (fun _ _ _ _ hv=>hv),h4⟩;have:=h4.size;rcases hb.1 with (g | g) | g
 ·exact .inl g
 ·exact .inr ⟨g.1,by have:=g.2;omega⟩
 ·exact .inr ⟨by have:=g.1;omega,g.2⟩
theorem ft_in {S:Nat→Prop} {lo:Nat} {W w':World} (hlo:lo≤W.heap.size) (hs:W.heap.size≤w'.heap.size):∀ b,Ft (Ft S lo W) W.heap.size w' b→Ft S lo w' b:=fun _ hb=>by
 rcases hb with (g | g) | g
 ·exact .inl g
 ·exact .inr ⟨g.1,by have:=g.2;omega⟩
 ·exact .inr ⟨by have:=g.1;omega,g.2⟩
theorem ft_lt {S:Nat→Prop} {lo:Nat} {W:World} (hS:∀ b,S b→b<W.heap.size):∀ b,Ft S lo W b→b<W.heap.size:=fun b hb=>hb.elim (hS b) fun g=>g.2
theorem ft_up {S:Nat→Prop} {lo:Nat} {W W':World} (hs:W.heap.size≤W'.heap.size):∀ b,Ft S lo W b→Ft S lo W' b:=fun _ hb=>hb.imp id fun g=>⟨g.1,Nat.lt_of_lt_of_le g.2 hs⟩
theorem its_cast {S:Nat→Prop} {w:World} {v:Value} {l l':List It} (h:ItsS S w v l) (e:l=l'):ItsS S w v l':=e ▸ h
theorem XQ.fin {S:Nat→Prop} {cb:Nat} {C:List Value} {w0:World} {X:List (Nat × List Value)} {W:World} {u:Value} {L:List Pq} (h:XQ S cb C w0 X W u L):QL (Ft S cb W) (cb+1) W u L :=
 ⟨h.q.row,fun p hp=>(h.q.el p hp).kept (fun b hb=>⟨hb.1.imp id fun g=>⟨by have:=g.1;omega,g.2⟩,hb.2⟩) (fun _ _ _ _ hv=>hv)⟩
theorem cq_new {S:Nat→Prop} {lo:Nat} {w:World} {p:Option Addr} {c:Nat} {U:Ex} (hlo:lo≤w.heap.size) (hS:∀ b,S b→b<w.heap.size) (h:ExS (Ft S lo w) w (xv U.op U.n U.nm (.slice p U.args.length c)) U) :
  CQ (Ft S lo (w.alloc (.cells #[.int .i64 U.op,.int .i64 U.n,.string U.nm,.slice p U.args.length c] 43))) (w.alloc (.cells #[.int .i64 U.op,.int .i64 U.n,.string U.nm,.slice p U.args.length c] 43)) (.slice (some ⟨w.heap.size,0,none⟩) 1 1) (some U):=by
 have hb:=ba w (.cells #[.int .i64 U.op,.int .i64 U.n,.string U.nm,.slice p U.args.length c] 43);refine⟨_,_,_,_,rfl,.inr ⟨hlo,by rw [World.size_alloc];omega⟩,Blk.new w [.int .i64 U.op,.int .i64 U.n,.string U.nm,.slice p U.args.length c] 43,exs_up h (fun b hb=>hb.elim (hS b) (fun g=>g.2)) hb fun b hb'=>hb'.imp id fun g=>⟨g.1,Nat.lt_of_lt_of_le g.2 hb.size⟩⟩
theorem not_ex {T:Nat→Prop} {W:World} {g:Nat} {e:Ex} {p:Option Addr} {cap:Nat} (hT:T g) (hB:Blk W g [.int .i64 e.op,.int .i64 e.n,.string e.nm,.slice p e.args.length cap]) (h:ExS T W (xv e.op e.n e.nm (.slice p e.args.length cap)) e) :
  ExS T W (xv 4 0 ⟨#[]⟩ (.slice (some ⟨g,0,none⟩) 1 1)) (notE e):=by
 refine ExS.mk (ks:=[e]) (fun _=>p) (fun _=>cap) (by decide) (by simp) (by simp) (fun _=>⟨g,0,rfl,hT,fun i a ha=>?_⟩) (fun i a ha=>?_)
 ·rcases i with _ | i
  ·obtain rfl:e=a:=(by simpa using ha);exact⟨hB.c 0 _ rfl,hB.c 1 _ rfl,hB.c 2 _ rfl,hB.c 3 _ rfl⟩
  ·simp at ha
 ·rcases i with _ | i
  ·obtain rfl:e=a:=(by simpa using ha);exact h
  ·simp at ha
theorem rx_next {fs:List Fld} {q:Option Ex} {σ:Ex→Ex} {l R:List It} {j:Nat} {a:It} {L M:List Pq} (h:L.map Pq.x++rxA fs q σ L.length (l.drop j)=R) (ha:l[j]? = some a) (h4:L.length≤400) (hM:M.map Pq.x=rxI fs q σ a):(L++M).map Pq.x++rxA fs q σ (L++M).length (l.drop (j+1))=R:=by
 rw [rx_drop fs q σ ha h4,←hM,List.length_map] at h;rw [List.map_append,List.length_append,List.append_assoc];exact h
theorem rx_room {fs:List Fld} {q:Option Ex} {σ:Ex→Ex} {l R:List It} {j:Nat} {a:It} {L:List Pq} (h:L.map Pq.x++rxA fs q σ L.length (l.drop j)=R) (ha:l[j]? = some a) (h4:L.length≤400):L.length+(rxI fs q σ a).length≤R.length:=by
 rw [rx_drop fs q σ ha h4] at h;rw [←h,List.length_append,List.length_append,List.length_map];omega
theorem rxI_y (fs:List Fld) (q:Option Ex) (σ:Ex→Ex) (a y:It) (hy:smI σ a=y):rxI fs q σ a =
  if y.kd=4 then rxA fs (some (und q 19 y.e)) σ 0 a.it++rxA fs (some (und q 19 (notE y.e))) σ 0 a.el
  else if y.kd=5 then (List.range (szI fs y.nm).toNat).flatMap (fun (k:Nat)=>rxA fs q (fun e=>su y.ix (cst (k:Int)) (σ e)) 0 a.it)
  else if y.kd=1∨y.kd=2 then [hardI y.kd (und q 21 y.e)]
  else [y]:=by
 subst hy;rw [rxI_eq,smI_eq];show _=if a.kd=4 then rxA fs (some (und q 19 (if a.kd=1∨a.kd=2∨a.kd=4 then σ a.e else a.e))) σ 0 a.it++rxA fs (some (und q 19 (notE (if a.kd=1∨a.kd=2∨a.kd=4 then σ a.e else a.e)))) σ 0 a.el
  else if a.kd=5 then (List.range (szI fs a.nm).toNat).flatMap (fun (k:Nat)=>rxA fs q (fun e=>su a.ix (cst (k:Int)) (σ e)) 0 a.it)
  else if a.kd=1∨a.kd=2 then [hardI a.kd (und q 21 (if a.kd=1∨a.kd=2∨a.kd=4 then σ a.e else a.e))]
  else [.mk a.kd (if a.kd=1∨a.kd=2∨a.kd=4 then σ a.e else a.e) a.nm a.ix a.ws (smL σ a.it) (smL σ a.el) a.bf a.af]
 by_cases k4:a.kd=4
 ·rw [if_pos k4,if_pos k4,if_pos (.inr (.inr k4))]
 ·rw [if_neg k4,if_neg k4];by_cases k5:a.kd=5
  ·rw [if_pos k5,if_pos k5]
  ·rw [if_neg k5,if_neg k5];by_cases k12:a.kd=1∨a.kd=2
   ·rw [if_pos k12,if_pos k12,if_pos (k12.elim .inl fun h=>.inr (.inl h))]
   ·rw [if_neg k12,if_neg k12,if_neg (fun h=>h.elim (fun h=>k12 (.inl h)) fun h=>h.elim (fun h=>k12 (.inr h)) k4)]
end ItW
end Go.Proofs.YtpejflgdehioaaaGreatDoor
