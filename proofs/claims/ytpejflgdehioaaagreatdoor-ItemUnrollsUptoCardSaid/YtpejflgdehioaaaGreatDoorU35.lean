/-
  Laws that the card uses; no conditions beside those that each states (ItChkI ItNds ItAsk ExSigO ItRXM).
-/
import Derived.Test.YtpejflgdehioaaaGreatDoorU21
import Derived.Test.YtpejflgdehioaaaGreatDoorU28
import Derived.Test.YtpejflgdehioaaaGreatDoorU32
set_option maxRecDepth 100000
set_option maxHeartbeats 16000000
namespace Go.Proofs.YtpejflgdehioaaaGreatDoor
namespace ItW
open Go Go.RowKit NumM LexW LexM ExM ExW ItM
open ClM (Fld firstE firstE_zero)
theorem pre_names {N:Nat} {w:World} (e:Ex):∀ (v:Value) (l:Nat),ExAt N w v e→∀ y∈pre l e,y.nm.size≤140737488351232:=by
 induction e using Ex.ind with
 | h o n s ks ih =>
  intro v l h y hy;obtain⟨p,cap,pl,cl,_,hs,ha⟩:=h.form;rw [pre_mk] at hy;rcases List.mem_cons.1 hy with rfl | hy
  ·exact hs
  ·obtain⟨a,hm,hya⟩:=mem_pres.1 hy;obtain⟨i,hi⟩:=List.getElem?_of_mem hm;exact ih a hm _ _ (ha.hx i a hi) y hya
structure FineI (x:It):Prop where
 k:kindB x.kd=true
 free:freeB x=true
 d3:x.kd=3→varB x.nm.data.toList=true
 d6:x.kd=6→∀ s∈x.bf++x.af,varB s.data.toList=true
 d5:x.kd=5→nameB x.nm=true∧nameB x.ix=true
 dE:x.kd≠3→x.kd≠6→x.kd≠5→vld x.e=0
theorem not_noVar {s:ByteArray} (h:noVar s=false):varB s.data.toList=true:=by unfold noVar at h;simpa using h
theorem fine_of {d:Nat} {x:It} (h:fltI d x=0):FineI x:=by
 unfold fltI at h;by_cases h1:(!kindB x.kd||(!freeB x||(decide (4<d)||(decide (0<d)&&outK x.kd))))=true
 ·rw [if_pos h1] at h;cases h
 ·rw [if_neg h1] at h;have h2:kindB x.kd=true∧freeB x=true:=by
   cases hk:kindB x.kd<;>cases hf:freeB x<;>simp_all
  refine⟨h2.1,h2.2,fun e=>?_,fun e=>?_,fun e=>?_,fun n3 n6 n5=>?_⟩
  ·rw [if_pos e] at h;unfold distE at h;split at h
   ·cases h
   ·split at h
    ·cases h
    ·split at h
     ·cases h
     ·rename_i g;exact not_noVar (by simpa using g)
  ·rw [if_neg (by omega),if_pos e] at h;unfold solveE at h;split at h
   ·cases h
   ·split at h
    ·cases h
    ·rename_i g;intro s hs;refine not_noVar ?_;have g1:x.bf.any noVar=false∧x.af.any noVar=false:=by
      cases hb:x.bf.any noVar<;>cases ha:x.af.any noVar<;>simp_all
     rcases List.mem_append.1 hs with hs | hs
     ·have:=List.any_eq_false.1 g1.1 s hs;simpa using this
     ·have:=List.any_eq_false.1 g1.2 s hs;simpa using this
  ·rw [if_neg (by omega),if_neg (by omega),if_pos e] at h;split at h
   ·assumption
   ·cases h
  ·rw [if_neg n3,if_neg n6,if_neg n5] at h;exact h
def NamesP (l:List ByteArray) (w:World) (e:Ending) (w':World):Prop:=∃ v',e=.returned v'∧StA w'.heap.size w' v' l∧(∀ ad n c,v'=.slice (some ad) n c→w.heap.size≤ad.block)∧Below w.heap.size w w'
theorem own_fresh {W:World} {B B0:Nat} {v:Value} {n:Nat} {xs:List Value} (h:W.ownsRow B 9 1 v n xs) (hB:B0≤B):∀ ad n c,v=.slice (some ad) n c→B0≤ad.block:=fun ad n c e=>by
 rcases h.2 with ⟨rfl,_⟩ | ⟨g,cap,cur,rfl,hg,_⟩
 ·cases e
 ·simp only [Value.slice.injEq,Option.some.injEq] at e;rw [←e.1];exact Nat.le_trans hB hg
theorem namesOf_any (mm:Option Nat) (B:List ByteArray) (x:It) (a4 a7 a8 a9 a10 a11:Value) (N:Nat) (w:World) (hm:BMap w (.map mm) B) (h:IV N w a4 a7 a8 a9 a10 a11 x) (hN:N≤w.heap.size) (hnd:Nd1 x) :
  Calls Tryz.prog 37 #[iv x.kd x.e.op x.e.n x.e.nm a4 x.nm x.ix a7 a8 a9 a10 a11,.map mm] w (NamesP (ownN B x) w):=by
 have HS:Hid (∀ s∈exN B x.e,s.size≤140737488351232):=Lh (nmL_size (pre_names x.e _ 1 h.ex));have HLn:Hid ((exN B x.e).length≤10000):=Lh (by have h1:=nmL_len B (pre 1 x.e);rw [pre_len] at h1;have:=hnd.1;unfold exN nmL at *;omega);have NC:Hid (∀ W,Below w.heap.size w W→Calls Tryz.prog 67 #[xv x.e.op x.e.n x.e.nm a4,.map mm] W fun r w'=>∃ v',r=.returned v'∧w'.ownsRow W.heap.size 9 1 v' (exN B x.e).length ((exN B x.e).map Value.string)∧Below W.heap.size W w'):=(Lh fun W hW=>namesIn_any mm B x.e _ W (hm.below hW) ((h.ex.under (hW.mono hN)).wide (by have:=hW.size;omega)) hnd.1);have CC:Hid (∀ W g,Below w.heap.size w W→Blk W g [a10,a11]→Calls Tryz.prog 68 #[.slice (some ⟨g,0,none⟩) 2 2] W fun e w'=>∃ v,e=.returned v∧w'.ownsRow W.heap.size 9 1 v (x.bf++x.af).length ((x.bf++x.af).map Value.string)∧Below W.heap.size W w'):=Lh fun W g hW hb =>
  concatS_any x.bf x.af a10 a11 g N W hb (h.bfs.under (hW.mono hN)) (h.afs.under (hW.mono hN)) (by have:=hW.size;omega) (by have:=hnd.2.2.1;have:=hnd.2.2.2;omega)
 have HS2:Hid (∀ s∈x.bf++x.af,s.size≤140737488351232):=Lh fun s hs=>by
  obtain⟨_,_,_,_,_,z1,_⟩:=h.bfs;obtain⟨_,_,_,_,_,z2,_⟩:=h.afs;rcases List.mem_append.1 hs with hs | hs
  ·exact z1 s hs
  ·exact z2 s hs
 have HL2:Hid ((x.bf++x.af).length≤2000):=Lh (by rw [List.length_append];have:=hnd.2.2.1;have:=hnd.2.2.2;omega);have hnms:=h.nm;have EO:Hid (ownN B x=if x.kd=1∨x.kd=2∨x.kd=4 then exN B x.e else if x.kd=3∨x.kd=5 then [x.nm] else if x.kd=6 then x.bf++x.af else []):=Lh rfl;obtain⟨kd,o,n,en,p4,k4,c4,nm,ix,p7,k7,c7,p8,k8,c8,p9,k9,c9,p10,k10,c10,p11,k11,c11,ev,hv⟩:=h.open_;have ev2:=ev;simp only [Value.agg.injEq,Array.mk.injEq,List.cons.injEq] at ev2;obtain⟨-,-,-,-,rfl,-,-,rfl,rfl,rfl,rfl,rfl,-⟩:=ev2;rw [ev];rw [hv.e5] at hnms;have HNM:=Lh hv.e5;have EO2:=EO.out;rw [hv.e0,hv.e5] at EO2;have EO:=Lh EO2;have NC2:=NC.out;rw [hv.e1,hv.e2,hv.e3] at NC2;have NC:=Lh NC2;clear NC2 EO2;obtain⟨cs,hcs⟩:∃ cs,cs=ics kd o n en (.slice p4 k4 c4) nm ix (.slice p7 k7 c7) (.slice p8 k8 c8) (.slice p9 k9 c9) (.slice p10 k10 c10) (.slice p11 k11 c11):=⟨_,rfl⟩;have F0:=Blk.new w cs 55;have HB:=Lh (ba w (.cells cs.toArray 55));subst hcs;have d0:=F0.c 0 _ rfl;have d1:=F0.c 1 _ rfl;have d2:=F0.c 2 _ rfl;have d3:=F0.c 3 _ rfl;have d4:=F0.c 4 _ rfl;have d5:=F0.c 5 _ rfl;have d6:=F0.c 6 _ rfl;have d7:=F0.c 7 _ rfl;have d8:=F0.c 8 _ rfl;have d9:=F0.c 9 _ rfl;have d10:=F0.c 10 _ rfl;have d11:=F0.c 11 _ rfl;have HF:=Lh F0;clear F0 hv h ev hm hN;by_cases hE:kd=1∨kd=2∨kd=4
 ·have E:Hid (ownN B x=exN B x.e):=Lh (by rw [EO.out,if_pos hE]);rcases hE with rfl | rfl | rfl
  all_goals
   go_enter Tryz.func37,Tryz.ntmps37
   go_wp2_with (go_at_call 67;((with_reducible refine (NC.out _ HB.out).mono ?_);rintro e w1 ⟨v',rfl,ho,hb⟩;have HO:=Lh ho;have HB1:=Lh (HB.out.then_ hb);clear ho hb))
   go_ret;exact⟨_,rfl,by rw [E.out];exact own_StA HO.out (by have:=HLn.out;omega) HS.out,own_fresh HO.out HB.out.size,HB1.out⟩
 ·have q1:(kd == 1)=false:=(by rw [beq_eq_false_iff_ne];omega);have q2:(kd == 2)=false:=(by rw [beq_eq_false_iff_ne];omega);have q4:(kd == 4)=false:=(by rw [beq_eq_false_iff_ne];omega);by_cases hN:kd=3∨kd=5
  ·have E:Hid (ownN B x=[nm]):=Lh (by rw [EO.out,if_neg hE,if_pos hN]);clear hE;have FS:Hid (∀ (W:World) (g:Nat),g=W.heap.size→StA (W.alloc (.cells #[.string nm] 9)).heap.size (W.alloc (.cells #[.string nm] 9)) (.slice (some ⟨g,0,none⟩) 1 1) [nm]):=Lh fun W g hg=>by
    subst hg;exact⟨some ⟨W.heap.size,0,none⟩,1,rfl,by simp,Nat.le_refl _,fun s hs=>by rw [List.mem_singleton] at hs;rw [hs];exact hnms,fun _=>⟨W.heap.size,0,rfl,by simp,fun i s hi=>by
    have hi0:i=0:=(by have:=(List.getElem?_eq_some_iff.1 hi).1;simp at this;exact this);subst hi0;have:nm=s:=(by simpa using hi);rw [←this];exact (Blk.new W [.string nm] 9).c 0 _ rfl⟩⟩
   rcases hN with rfl | rfl
   all_goals
    go_enter Tryz.func37,Tryz.ntmps37
    go_wp2;go_ret;refine⟨.slice (some ⟨w.heap.size+1,0,none⟩) 1 1,rfl,?_,fun ad n c e=>by (simp only [Value.slice.injEq,Option.some.injEq] at e;rw [←e.1];exact Nat.le_succ _),HB.out.then_ (ba _ _)⟩;rw [E.out];exact FS.out _ _ (by simp)
  ·have q3:(kd == 3)=false:=(by rw [beq_eq_false_iff_ne];omega);have q5:(kd == 5)=false:=(by rw [beq_eq_false_iff_ne];omega);by_cases h6:kd=6
   ·subst h6;have E:Hid (ownN B x=x.bf++x.af):=Lh (by rw [EO.out];rfl);clear hE hN q1 q2 q3 q4 q5;have bf:=(Blk.new (w.alloc (.cells (ics 6 o n en (.slice p4 k4 c4) nm ix (.slice p7 k7 c7) (.slice p8 k8 c8) (.slice p9 k9 c9) (.slice p10 k10 c10) (.slice p11 k11 c11)).toArray 55)) [.slice p10 k10 c10,.slice p11 k11 c11] 27);rw [World.size_alloc] at bf;have BF:=Lh bf;clear bf
    go_enter Tryz.func37,Tryz.ntmps37
    go_wp2_with (go_at_call 68;((with_reducible refine (CC.out _ _ (HB.out.then_ (ba _ _)) BF.out).mono ?_);rintro e w1 ⟨v',rfl,ho,hb⟩;have HO:=Lh ho;have HB1:=Lh ((HB.out.then_ (ba _ _)).then_ hb);clear ho hb))
    go_ret;exact⟨_,rfl,by rw [E.out];exact own_StA HO.out (by have:=HL2.out;omega) HS2.out,own_fresh HO.out (by have:=(HB.out.then_ (ba _ (.cells #[.slice p10 k10 c10,.slice p11 k11 c11] 27))).size;exact this),HB1.out⟩
   ·have E:Hid (ownN B x=[]):=Lh (by rw [EO.out,if_neg hE,if_neg hN,if_neg h6]);have q6:(kd == 6)=false:=(by rw [beq_eq_false_iff_ne];exact h6);clear hE hN h6
    go_enter Tryz.func37,Tryz.ntmps37
    go_wp2;go_ret;exact⟨_,rfl,by rw [E.out];exact StA.nil _ _ _ _,fun ad n c e=>by (have e2:Value.slice none 0 0=.slice (some ad) n c:=e;cases e2),HB.out⟩
theorem checkEach_any (fb:Nat) (fs:List Fld) (mm:Option Nat) (B:List ByteArray) (x:It) (a4 a7 a8 a9 a10 a11:Value) (N:Nat) (w:World) (hf:FsA w fb fs) (hm:BMap w (.map mm) B) (h:IV N w a4 a7 a8 a9 a10 a11 x) (hk:x.kd=5) :
  Calls Tryz.prog 84 #[.map (some fb),iv x.kd x.e.op x.e.n x.e.nm a4 x.nm x.ix a7 a8 a9 a10 a11,.map mm] w (tInt (chkI fs B x) w):=by
 have EO:Hid (chkI fs B x=if arrE fs x.nm=0 then (if ((szO fs x.ix).isSome||memB B x.ix)=true then 8 else 0) else arrE fs x.nm):=Lh (by unfold chkI;rw [if_neg (by omega),if_neg (by omega),if_pos hk]);have AC:Hid (∀ W,Below w.heap.size w W→Calls Tryz.prog 98 #[.map (some fb),.string x.nm] W fun e w'=>e=.returned (.int .i64 (arrE fs x.nm))∧W=w'):=(Lh fun W hW=>arrE_any fb fs x.nm W (hf.later hW) h.nm);have hl1:=(fun W hW=>(hf.later (w':=W) hW).lookOk x.ix h.ix);have hl2:=(fun W hW=>(hm.below (W':=W) hW).look x.ix h.ix);have hcz:=cntB_pos B x.ix;obtain⟨kd,o,n,en,p4,k4,c4,nm,ix,p7,k7,c7,p8,k8,c8,p9,k9,c9,p10,k10,c10,p11,k11,c11,ev,hv⟩:=h.open_;have ev2:=ev;simp only [Value.agg.injEq,Array.mk.injEq,List.cons.injEq] at ev2;obtain⟨-,-,-,-,rfl,-,-,rfl,rfl,rfl,rfl,rfl,-⟩:=ev2;rw [ev];rw [hv.e6] at hl1 hl2 hcz;have EO2:=EO.out;rw [hv.e6,hv.e5] at EO2;have AC2:=AC.out;rw [hv.e5] at AC2;have EO:=Lh EO2;have AC:=Lh AC2;clear EO2 AC2;obtain⟨cs,hcs⟩:∃ cs,cs=ics kd o n en (.slice p4 k4 c4) nm ix (.slice p7 k7 c7) (.slice p8 k8 c8) (.slice p9 k9 c9) (.slice p10 k10 c10) (.slice p11 k11 c11):=⟨_,rfl⟩;have F0:=Blk.new w cs 55;have HB:=Lh (ba w (.cells cs.toArray 55));have hlk1:=hl1 _ HB.out;have hlk2:=hl2 _ HB.out;subst hcs;have d0:=F0.c 0 _ rfl;have d1:=F0.c 1 _ rfl;have d2:=F0.c 2 _ rfl;have d3:=F0.c 3 _ rfl;have d4:=F0.c 4 _ rfl;have d5:=F0.c 5 _ rfl;have d6:=F0.c 6 _ rfl;have d7:=F0.c 7 _ rfl;have d8:=F0.c 8 _ rfl;have d9:=F0.c 9 _ rfl;have d10:=F0.c 10 _ rfl;have d11:=F0.c 11 _ rfl;clear F0 hv h ev hm hf hl1 hl2;obtain⟨z,hz⟩:∃ z,szI fs ix=z:=⟨_,rfl⟩;rw [hz] at hlk1;clear hz;generalize arrE fs nm=r at *
 generalize (szO fs ix).isSome=s at *
 by_cases hr:r=0
 ·subst hr;have EO2:Hid (chkI fs B x=if (s||memB B ix)=true then 8 else 0):=Lh (by rw [EO.out,if_pos rfl]);clear EO;obtain⟨M,hM⟩:∃ M,memB B ix=M:=⟨_,rfl⟩;rw [hM] at EO2 hcz;clear hM;cases M
  ·have hc0:cntB B ix=0:=hcz.2.2 rfl;rw [hc0] at hlk2;clear hcz hc0;cases s
   all_goals
    go_enter Tryz.func84,Tryz.ntmps84
    go_wp2_with (go_at_call 98;((with_reducible refine (AC.out _ HB.out).mono ?_);rintro e w1 ⟨rfl,rfl⟩))
    go_ret;exact ExW.tInt_mk (by rw [EO2.out];rfl) HB.out
  ·have hc0:0<cntB B ix:=by
    have:cntB B ix≠0:=(fun h=>by have:=hcz.2.1 h;cases this);have:=hcz.1;omega
   clear hcz;cases s
   all_goals
    go_enter Tryz.func84,Tryz.ntmps84
    go_wp2_with (go_at_call 98;((with_reducible refine (AC.out _ HB.out).mono ?_);rintro e w1 ⟨rfl,rfl⟩))
    go_ret;exact ExW.tInt_mk (by rw [EO2.out];rfl) HB.out
 ·have EO2:Hid (r=chkI fs B x):=Lh (by rw [EO.out,if_neg hr]);have q:(r != 0)=true:=(by simpa using hr);clear EO hr hcz
  go_enter Tryz.func84,Tryz.ntmps84
  go_wp2_with (go_at_call 98;((with_reducible refine (AC.out _ HB.out).mono ?_);rintro e w1 ⟨rfl,rfl⟩))
  go_ret;exact ExW.tInt_mk EO2.out HB.out
theorem check_any (fb:Nat) (fs:List Fld) (mm:Option Nat) (B:List ByteArray) (x:It) (a4 a7 a8 a9 a10 a11:Value) (N:Nat) (w:World) (hf:FsA w fb fs) (hm:BMap w (.map mm) B) (h:IV N w a4 a7 a8 a9 a10 a11 x) (hN:N≤w.heap.size) (hnd:Nd1 x) (hfine:FineI x) :
  Calls Tryz.prog 44 #[.map (some fb),iv x.kd x.e.op x.e.n x.e.nm a4 x.nm x.ix a7 a8 a9 a10 a11,.map mm] w (tInt (chkI fs B x) w):=by
 have KK:x.kd=3∨x.kd=6∨x.kd=5∨(x.kd≠3∧x.kd≠6∧x.kd≠5):=(by omega);have NC0:∀ W,Below w.heap.size w W→Calls Tryz.prog 37 #[iv x.kd x.e.op x.e.n x.e.nm a4 x.nm x.ix a7 a8 a9 a10 a11,.map mm] W (NamesP (ownN B x) W):=(fun W hW=>namesOf_any mm B x _ _ _ _ _ _ N W (hm.below hW) (h.under (hW.mono hN)) (by have:=hW.size;omega) hnd);have EC0:x.kd=5→∀ W,Below w.heap.size w W→Calls Tryz.prog 84 #[.map (some fb),iv x.kd x.e.op x.e.n x.e.nm a4 x.nm x.ix a7 a8 a9 a10 a11,.map mm] W (tInt (chkI fs B x) W):=(fun hk W hW=>checkEach_any fb fs mm B x _ _ _ _ _ _ N W (hf.later hW) (hm.below hW) (h.under (hW.mono hN)) hk);have XC0:x.kd≠3→x.kd≠6→x.kd≠5→∀ W,Below w.heap.size w W→Calls Tryz.prog 56 #[.map (some fb),xv x.e.op x.e.n x.e.nm a4,.map mm] W (tInt (exE fs B x.e) W):=(fun n3 n6 n5 W hW=>checkExpr_any fb fs (.map mm) B x.e _ W (hf.later hW) (hm.below hW) ⟨mm,rfl⟩ ((h.ex.under (hW.mono hN)).wide (by have:=hW.size;omega)) hnd.1 ((ok_at x.e 1).1 ((vld_zero x.e).1 (hfine.dE n3 n6 n5)).1));have UC0:(∀ s∈ownN B x,varB s.data.toList=true)→∀ W v,Below w.heap.size w W→StA W.heap.size W v (ownN B x)→Calls Tryz.prog 82 #[v,.func (.func 83) #[.map (some fb)] #[]] W (tBool ((ownN B x).any (unkB fs)) W):=fun hq W v hW hv =>
  unk_has (ownN B x) (unkB fs) v W.heap.size W hv (Nat.le_refl _) fb (fun s hs W' hW' hsz=>unk_any fb fs s W' ((hf.later hW).later hW') hsz (hq s hs))
 have O3:x.kd=3→ownN B x=[x.nm]:=(fun hk=>by unfold ownN;rw [if_neg (by omega),if_pos (.inl hk)]);have O6:x.kd=6→ownN B x=x.bf++x.af:=(fun hk=>by unfold ownN;rw [if_neg (by omega),if_neg (by omega),if_pos hk]);have C36:x.kd=3∨x.kd=6→(∀ s∈ownN B x,varB s.data.toList=true)∧chkI fs B x=if (ownN B x).any (unkB fs)=true then 7 else 0:=by
  rintro (hk | hk)
  ·rw [O3 hk];refine⟨fun s hs=>by rw [List.mem_singleton] at hs;rw [hs];exact hfine.d3 hk,?_⟩;unfold chkI;rw [if_pos hk];simp
  ·rw [O6 hk];refine⟨hfine.d6 hk,?_⟩;unfold chkI;rw [if_neg (by omega),if_pos hk]
 have CX:x.kd≠3→x.kd≠6→x.kd≠5→chkI fs B x=exE fs B x.e:=(fun n3 n6 n5=>by unfold chkI;rw [if_neg n3,if_neg n6,if_neg n5]);obtain⟨kd,o,n,en,p4,k4,c4,nm,ix,p7,k7,c7,p8,k8,c8,p9,k9,c9,p10,k10,c10,p11,k11,c11,ev,hv⟩:=h.open_;have ev2:=ev;simp only [Value.agg.injEq,Array.mk.injEq,List.cons.injEq] at ev2;obtain⟨-,-,-,-,rfl,-,-,rfl,rfl,rfl,rfl,rfl,-⟩:=ev2;rw [ev] at NC0 EC0 ⊢;rw [hv.e0] at KK EC0 XC0 C36 CX;rw [hv.e1,hv.e2,hv.e3] at XC0;obtain⟨cs,hcs⟩:∃ cs,cs=ics kd o n en (.slice p4 k4 c4) nm ix (.slice p7 k7 c7) (.slice p8 k8 c8) (.slice p9 k9 c9) (.slice p10 k10 c10) (.slice p11 k11 c11):=⟨_,rfl⟩;have F0:=Blk.new w cs 55;have HB:=Lh (ba w (.cells cs.toArray 55));subst hcs;have d0:=F0.c 0 _ rfl;have d1:=F0.c 1 _ rfl;have d2:=F0.c 2 _ rfl;have d3:=F0.c 3 _ rfl;have d4:=F0.c 4 _ rfl;have d5:=F0.c 5 _ rfl;have d6:=F0.c 6 _ rfl;have d7:=F0.c 7 _ rfl;have d8:=F0.c 8 _ rfl;have d9:=F0.c 9 _ rfl;have d10:=F0.c 10 _ rfl;have d11:=F0.c 11 _ rfl;clear F0 hv h ev hm hf hN hnd hfine O3 O6;rcases KK with rfl | rfl | rfl | ⟨n3,n6,n5⟩
 ·obtain⟨c1,c2⟩:=C36 (.inl rfl);have UC:=Lh (UC0 c1);have NC:=Lh NC0;have E:=Lh c2;clear c1 c2 C36 UC0 NC0 EC0 XC0 CX;generalize (ownN B x).any (unkB fs)=u at *
  cases u
  all_goals
   go_enter Tryz.func44,Tryz.ntmps44
   go_wp2_with (first
    |(go_at_call 37;((with_reducible refine (NC.out _ HB.out).mono ?_);rintro e w1 ⟨v',rfl,hst,_,hb⟩;have HST:=Lh hst;have HB1:=Lh (HB.out.then_ hb);clear hst hb))
    |(go_at_call 82;((with_reducible refine (UC.out _ _ HB1.out HST.out).mono ?_);rintro e w2 ⟨rfl,hb⟩;have HB2:=Lh (HB1.out.then_ hb);clear hb)))
   go_ret;exact ExW.tInt_mk (by rw [E.out];rfl) HB2.out
 ·obtain⟨c1,c2⟩:=C36 (.inr rfl);have UC:=Lh (UC0 c1);have NC:=Lh NC0;have E:=Lh c2;clear c1 c2 C36 UC0 NC0 EC0 XC0 CX;generalize (ownN B x).any (unkB fs)=u at *
  cases u
  all_goals
   go_enter Tryz.func44,Tryz.ntmps44
   go_wp2_with (first
    |(go_at_call 37;((with_reducible refine (NC.out _ HB.out).mono ?_);rintro e w1 ⟨v',rfl,hst,_,hb⟩;have HST:=Lh hst;have HB1:=Lh (HB.out.then_ hb);clear hst hb))
    |(go_at_call 82;((with_reducible refine (UC.out _ _ HB1.out HST.out).mono ?_);rintro e w2 ⟨rfl,hb⟩;have HB2:=Lh (HB1.out.then_ hb);clear hb)))
   go_ret;exact ExW.tInt_mk (by rw [E.out];rfl) HB2.out
 ·have EC:=Lh (EC0 rfl);clear C36 UC0 NC0 EC0 XC0 CX
  go_enter Tryz.func44,Tryz.ntmps44
  go_wp2_with (go_at_call 84;((with_reducible refine (EC.out _ HB.out).mono ?_);rintro e w1 ⟨rfl,hb⟩;have HB1:=Lh (HB.out.then_ hb);clear hb))
  go_ret;exact⟨rfl,HB1.out⟩
 ·have XC:=Lh (XC0 n3 n6 n5);have E:=Lh (CX n3 n6 n5);have f3:(kd == 3)=false:=(by rw [beq_eq_false_iff_ne];exact n3);have f6:(kd == 6)=false:=(by rw [beq_eq_false_iff_ne];exact n6);have f5:(kd == 5)=false:=(by rw [beq_eq_false_iff_ne];exact n5);clear C36 UC0 NC0 EC0 XC0 CX n3 n6 n5
  go_enter Tryz.func44,Tryz.ntmps44
  go_wp2_with (go_at_call 56;((with_reducible refine (XC.out _ HB.out).mono ?_);rintro e w1 ⟨rfl,hb⟩;have HB1:=Lh (HB.out.then_ hb);clear hb))
  go_ret;exact ExW.tInt_mk E.out.symm HB1.out
end ItW
namespace ItW
open Go Go.RowKit NumM LexW LexM ExM ExW ItM
structure NdV where
 x:In
 p:Option Addr
 c:Nat
def ndC (y:NdV):List Value:=[.int .i64 y.x.op,.int .i64 y.x.n,.string y.x.nm,.slice y.p y.x.k y.c]
theorem ndC_len (y:NdV):(ndC y).length=4:=rfl
theorem grow_trans {A B C:World} {row row':Option Nat} (h:A.grownBy B row) (k:B.grownBy C row') (hr:∀ b,row'=some b→row=some b∨A.heap.size≤b):A.grownBy C row :=
 ⟨k.os.trans h.os,k.tape.trans h.tape,k.output.trans h.output,Nat.le_trans h.size k.size,fun b hb hne=>(k.block b (Nat.lt_of_lt_of_le hb h.size) (fun e=>(hr b e.symm).elim (fun g=>hne g.symm) (fun g=>by omega))).trans (h.block b hb hne)⟩
theorem grow_none {A B:World} {row:Option Nat} (h:A.grownBy B none):A.grownBy B row:=⟨h.os,h.tape,h.output,h.size,fun b hb _=>h.block b hb (by simp)⟩
def tGa (B:Nat) (M:List NdV) (v:Value) (L:List In) (W:World) (x:Ending) (w':World):Prop :=
 ∃ v' M2,x=.returned v'∧w'.ownsRow B 43 4 v' (M++M2).length ((M++M2).flatMap ndC)∧M2.map NdV.x=L∧W.grownBy w' v.ownBlock∧(∀ k,v'.ownBlock=some k→v.ownBlock=some k∨W.heap.size≤k)
theorem pres_take {l k:Nat} {ks:List Ex} {a:Ex} (h:ks[k]? = some a):pres l (ks.take (k+1))=pres l (ks.take k)++pre l a:=by
 obtain⟨hk,he⟩:=List.getElem?_eq_some_iff.1 h;rw [List.take_succ_eq_append_getElem hk,pres_append,he,pres_cons,pres_nil,List.append_nil]
theorem pres_szs (l:Nat) (ks:List Ex):(pres l ks).length=szs ks:=pres_len fun a _=>pre_len a l
theorem gatherR_any (e:Ex):∀ (N B:Nat) (M:List NdV) (v va:Value) (l:Nat) (W:World),ExAt N W va e→N≤B→B≤W.heap.size→W.ownsRow B 43 4 v M.length (M.flatMap ndC)→M.length+sz e≤10000 →
  Calls Tryz.prog 153 #[v,va] W (tGa B M v (pre l e) W):=by
 induction e using Ex.ind with
 | h o n s ks ih =>
  intro N B M v va l W hx hNB hBW hown hsz;obtain⟨p,cap,pl,cl,rfl,hs,ha⟩:=hx.form;have HIH:=Lh ih;have HA:=Lh ha;rw [sz_mk] at hsz;have HOL:=Lh (own_lt hown);obtain⟨K,hK⟩:∃ K,ks.length=K:=⟨_,rfl⟩;have HK:=Lh hK
  change Calls Tryz.prog 153 #[v,xv o n s (.slice p ks.length cap)] W (tGa B M v (pre l (.mk o n s ks)) W)
  have hlk:=len_szs ks;rw [hK] at hlk ⊢;have HPR:Hid (pre l (.mk o n s ks)=In.mk l o n s K::pres (l+1) ks):=Lh (by rw [pre_mk,hK]);have hb1:=ba W (.cells #[.int .i64 o,.int .i64 n,.string s,.slice p K cap] 43);have hb2:=hb1.then_ (ba _ (.cells #[.int .i64 o,.int .i64 n,.string s,.slice p K cap] 43));have B0:=(Blk.new W [.int .i64 o,.int .i64 n,.string s,.slice p K cap] 43);have c0:=B0.c 0 _ rfl;have c1:=B0.c 1 _ rfl;have c2:=B0.c 2 _ rfl;have c3:=B0.c 3 _ rfl;have B2:=B0.stay (ba _ (.cells #[.int .i64 o,.int .i64 n,.string s,.slice p K cap] 43));have HN4:=Lh (cell_four_at (w:=W.alloc (.cells #[.int .i64 o,.int .i64 n,.string s,.slice p K cap] 43)) (World.size_alloc W _) (.int .i64 o) (.int .i64 n) (.string s) (.slice p K cap) 43);have hz2:((W.alloc (.cells #[.int .i64 o,.int .i64 n,.string s,.slice p K cap] 43)).alloc (.cells #[.int .i64 o,.int .i64 n,.string s,.slice p K cap] 43)).heap.size=W.heap.size+1+1:=(by rw [World.size_alloc,World.size_alloc]);have HO2:=Lh (own_later hown hb2);have HZ2:=Lh hz2;have HB2:=Lh hb2;have HB0:=Lh B2;obtain⟨i0,hi,iz0,iz1,iz2⟩:=info_parts infoE;clear hx hown ih ha hK hs hb1 hb2 B0 B2 hz2
  go_enter Tryz.func153,Tryz.ntmps153
  go_wp2_with (at_builtin;refine wpList_append_lies _ rfl _ _ 41 rfl B 43 i0 (.agg #[.int .i64 0,.int .i64 0,.string ⟨#[]⟩,.slice none 0 0]) 4 56 Tryz.underlying41 hi iz0 iz1 iz2 rfl (by decide) v M.length (M.flatMap ndC) rfl HO2.out ⟨W.heap.size+1,0,none⟩ 1 1 [.int .i64 o,.int .i64 n,.string s,.slice p K cap] rfl rfl HN4.out (one_four _ _ _ _ _ _) (by omega) (by unfold maxLen;omega) (by omega) (by rw [HZ2.out];omega) _ HZ2.out ?_)
  intro g cp w3 hown hgr hat hlt;have hgr3:W.grownBy w3 v.ownBlock:=grow_trans (grow_none (grown_of_below HB2.out)) hgr (fun b e=>.inl e);have hsz3:=hgr.size;rw [HZ2.out] at hsz3;have hgW:v.ownBlock=some g∨W.heap.size+1≤g:=hat.imp (fun e=>e) (fun e=>by omega);have hgb:v.ownBlock≠some W.heap.size:=(fun e=>by have:=(HOL.out _ e).2.1;omega);have F3:=Lh (blk_eq HB0.out (hgr.block W.heap.size (by rw [HZ2.out];omega) (fun e=>hgb e.symm)));have OW3:Hid (w3.ownsRow B 43 4 (.slice (some ⟨g,0,none⟩) (M.length+1) cp) (M++[NdV.mk (In.mk l o n s K) p cap]).length ((M++[NdV.mk (In.mk l o n s K) p cap]).flatMap ndC)):=Lh (by
   rw [List.length_append,List.flatMap_append];exact hown)
  have G3:=Lh hgr3;have c3:=F3.out.c 3 _ rfl;clear hown hgr hat hlt hgr3 c0 c1 c2 hi iz0 iz1 iz2 HB2 HZ2 HN4 HO2 HB0;go_wp2;go_loopw [0,5] (fun u i wr=>∃ (j:Nat) (Mj:List NdV),j≤K∧i=.int .i64 j∧Hid (wr.ownsRow B 43 4 u (M++Mj).length ((M++Mj).flatMap ndC))∧Hid (Mj.map NdV.x=In.mk l o n s K::pres (l+1) (ks.take j))∧Hid (W.grownBy wr v.ownBlock)∧Hid (∀ k,u.ownBlock=some k→v.ownBlock=some k∨W.heap.size+1≤k)∧Hid (Blk wr W.heap.size [.int .i64 o,.int .i64 n,.string s,.slice p K cap])) (fun _ i _=>K - (intOf i).toNat)
  case atStart=>exact⟨0,[NdV.mk (In.mk l o n s K) p cap],Nat.zero_le _,rfl,OW3,Lh (by rw [List.take_zero,pres_nil];rfl),G3,Lh (fun k e=>hgW.imp (fun h=>by simp [Value.ownBlock] at e;rw [←e];exact h) (fun h=>by simp [Value.ownBlock] at e;omega)),F3⟩
  case round =>
   clear c3;obtain⟨j,Mj,hj,rfl,OW,LW,GW,UW,FW⟩:=hrel;have c3:=FW.out.c 3 _ rfl;have hsW:=GW.out.size;by_cases hlt:j<K
   ·obtain⟨a,hak⟩:∃ a,ks[j]? = some a:=⟨_,List.getElem?_eq_getElem (by rw [HK.out];exact hlt)⟩;have hmem:=List.mem_of_getElem? hak;have hA2:=HA.out.kept (w':=wr) (N':=N) (fun b o' hb u hu=>(World.cell?_of_block (w:=W) (GW.out.block b (by omega) (fun e=>by have:=(HOL.out b e.symm).1;omega))).trans hu) (Nat.le_refl _);obtain⟨b,off,rfl,hbN,hcell⟩:=hA2.hp (by show 0<ks.length;rw [HK.out];omega);obtain⟨q0,q1,q2,q3⟩:=hcell j a hak;have hmj:Mj.length=1+szs (ks.take j):=by
     have:=congrArg List.length LW.out;rw [List.length_map,List.length_cons,pres_szs] at this;omega
    have hst:=szs_take hak;have hsl:=szs_take_le (j+1) ks;have CG:=Lh (HIH.out a hmem N B (M++Mj) _ _ (l+1) wr (hA2.hx j a hak) hNB (by omega) OW.out (by rw [List.length_append];omega));have PT:=Lh (pres_take (l:=l+1) hak);clear hA2 hcell hak hmem hmj hst hsl;generalize a.op=ao at *
    generalize a.n=an at *
    generalize a.nm=am at *
    generalize a.args.length=ak at *
    generalize pl j=ap at *
    generalize cl j=ac at *
    go_wp2_with (go_at_call 153;((with_reducible refine CG.out.mono ?_);rintro e w5 ⟨v5,M5,rfl,ho5,hm5,hg5,hv5⟩;have HO5:=Lh ho5;have HM5:=Lh hm5;have HG5:=Lh hg5;have HV5:=Lh hv5;clear ho5 hm5 hg5 hv5))
    go_roundw
    case rel=>exact⟨j+1,Mj++M5,by omega,by go_num,Lh (by rw [←List.append_assoc];exact HO5.out),Lh (by rw [List.map_append,LW.out,HM5.out,PT.out];rfl),
     Lh (grow_trans GW.out HG5.out (fun b e=>(UW.out b e).imp (fun h=>h) (fun h=>by omega))),Lh (fun k e=>(HV5.out k e).elim (fun h=>UW.out k h) (fun h=>.inr (by have:=FW.out.lt;omega))),
     Lh (blk_eq FW.out (HG5.out.block _ FW.out.lt (fun e=>(UW.out _ e.symm).elim (fun h=>hgb h) (fun h=>by omega))))⟩
    case measure=>simp [intOf];omega
   ·have E:Hid (ks.take j=ks):=Lh (List.take_of_length_le (by rw [HK.out];omega));go_wp2;go_ret;exact⟨_,Mj,rfl,OW.out,by rw [LW.out,E.out,HPR.out],GW.out,fun k e=>(UW.out k e).imp (fun h=>h) (fun h=>by omega)⟩
end ItW
namespace ItW
open Go Go.RowKit NumM LexW LexM ExM ExW ItM
open ClM (Fld firstE)
theorem nodesR_any (e:Ex) (N:Nat) (va:Value) (w:World) (hx:ExAt N w va e) (hN:N≤w.heap.size) (hsz:sz e≤10000) :
  Calls Tryz.prog 102 #[va] w fun x w'=>∃ v' M2,x=.returned v'∧w'.ownsRow w.heap.size 43 4 v' (M2:List NdV).length (M2.flatMap ndC)∧M2.map NdV.x=pre 1 e∧Below w.heap.size w w':=by
 have hb:=ba w (.cells #[.int .i64 e.op,.int .i64 e.n,.string e.nm,(fun v:Value=>match v with | .agg a=>a.getD 3 undef | _=>undef) va] 43);obtain⟨p,cap,pl,cl,rfl,hs,_⟩:=hx.form;have hb1:=ba w (.cells #[.int .i64 e.op,.int .i64 e.n,.string e.nm,.slice p e.args.length cap] 43);have GC0:=gatherR_any e N w.heap.size [] (.slice none 0 0) _ 1 (w.alloc (.cells #[.int .i64 e.op,.int .i64 e.n,.string e.nm,.slice p e.args.length cap] 43)) (hx.under (hb1.mono hN)) hN (by rw [World.size_alloc];omega) (World.ownsRow_nil _ _ _ _) (by simpa using hsz);have GC:=Lh GC0;have B0:=Blk.new w [.int .i64 e.op,.int .i64 e.n,.string e.nm,.slice p e.args.length cap] 43;have c0:=B0.c 0 _ rfl;have c1:=B0.c 1 _ rfl;have c2:=B0.c 2 _ rfl;have c3:=B0.c 3 _ rfl;have HB:=Lh hb1;clear hx hs hb hb1 GC0 B0;generalize pre 1 e=L at *
 generalize e.op=o at *
 generalize e.n=n at *
 generalize e.nm=s at *
 generalize e.args.length=K at *
 go_enter Tryz.func102,Tryz.ntmps102
 go_wp2_with (go_at_call 153;((with_reducible refine GC.out.mono ?_);rintro e w5 ⟨v5,M5,rfl,ho5,hm5,hg5,_⟩;have HO5:=Lh ho5;have HM5:=Lh hm5;have HG5:=Lh hg5;clear ho5 hm5 hg5))
 go_ret;refine⟨_,M5,rfl,by simpa using HO5.out,HM5.out,HB.out.then_ ?_⟩;exact below_of_grown (by simpa [Value.ownBlock] using HG5.out)
theorem row4 {w:World} {B:Nat} {v:Value} {M:List NdV} (h:w.ownsRow B 43 4 v M.length (M.flatMap ndC)):∃ p cap,v=.slice p M.length cap∧(0<M.length→∃ g,p=some ⟨g,0,none⟩∧∀ (j:Nat) (y:NdV),M[j]? = some y →
  w.cell? ⟨g,j*4,none⟩=some (.int .i64 y.x.op)∧w.cell? ⟨g,j*4+1,none⟩=some (.int .i64 y.x.n)∧w.cell? ⟨g,j*4+2,none⟩=some (.string y.x.nm)∧w.cell? ⟨g,j*4+3,none⟩=some (.slice y.p y.x.k y.c)):=by
 obtain⟨p,cap,rfl,hc,h0⟩:=own_at h (flat_len ndC_len M);refine⟨p,cap,rfl,fun hp=>?_⟩;obtain⟨g,rfl,hg,_,hcell⟩:=h0 hp;refine⟨g,rfl,fun j y hy=>?_⟩;have q:=(fun r hr=>flat_at ndC_len M j r y hy hr);exact⟨hcell _ _ (q 0 (by decide)),hcell _ _ (q 1 (by decide)),hcell _ _ (q 2 (by decide)),hcell _ _ (q 3 (by decide))⟩
theorem fst_take {g:In→Int} {M:List NdV} {j:Nat} {y:NdV} (h:M[j]? = some y) (h0:firstE ((M.take j).map fun y=>g y.x)=0):(g y.x=0→firstE ((M.take (j+1)).map fun y=>g y.x)=0)∧(g y.x≠0→firstE (M.map fun y=>g y.x)=g y.x):=by
 obtain⟨hj,he⟩:=List.getElem?_eq_some_iff.1 h;refine⟨fun h1=>?_,fun h1=>?_⟩
 ·rw [List.take_succ_eq_append_getElem hj,List.map_append,firstE_append,if_pos h0,he,List.map_cons,List.map_nil,firstE_cons,firstE_nil,h1];rfl
 ·have hs:M=M.take j++y::M.drop (j+1):=(by rw [←he,List.getElem_cons_drop hj,List.take_append_drop]);have e:firstE (M.map fun y=>g y.x)=firstE ((M.take j++y::M.drop (j+1)).map fun y=>g y.x):=(by rw [←hs]);rw [e,List.map_append,firstE_append,if_pos h0,List.map_cons,firstE_cons,if_neg h1]
theorem nod_eq (fs:List Fld) (B:List ByteArray) (y:In):nodE fs B y=if isAr y.op=true then arrE fs y.nm else if (isVr y.op&&!memB B y.nm)=true then varE fs y.nm else 0:=rfl
theorem askedR_any (fs:List Fld) (hNm:∀ f∈fs,nmB f.nm.data.toList=true) (B B':List ByteArray) (hBB:∀ s,memB B' s=memB B s) (e:Ex) (va cv vi:Value) (N:Nat) (w:World) (hx:ExAt N w va e) (hc:ClA N w cv fs) (hi:StA N w vi B') (hN:N≤w.heap.size) (hsz:sz e≤10000) (hnms:∀ y∈pre 1 e,y.nm.size≤140737488351232) :
  Calls Tryz.prog 58 #[va,cv,vi] w (tInt (exE fs B e) w):=by
 have NC:Hid (∀ W,Below w.heap.size w W→Calls Tryz.prog 102 #[va] W fun x w'=>∃ v' M2,x=.returned v'∧w'.ownsRow W.heap.size 43 4 v' (M2:List NdV).length (M2.flatMap ndC)∧M2.map NdV.x=pre 1 e∧Below W.heap.size W w'):=(Lh fun W hW=>nodesR_any e N va W (hx.under (hW.mono hN)) (by have:=hW.size;omega) hsz);have VC:Hid (∀ W s,Below w.heap.size w W→s.size≤140737488351232→Calls Tryz.prog 103 #[cv,.string s] W (tInt (varE fs s) W)):=(Lh fun W s hW hs=>variableR_any fs hNm cv s N W (hc.under (hW.mono hN)) (by have:=hW.size;omega) hs);have AC:Hid (∀ W s,Below w.heap.size w W→Calls Tryz.prog 104 #[cv,.string s] W (tInt (arrE fs s) W)):=(Lh fun W s hW=>arrayR_any fs cv s N W (hc.under (hW.mono hN)) (by have:=hW.size;omega));have BC:Hid (∀ W s,Below w.heap.size w W→Calls Tryz.prog 39 #[vi,.string s] W fun e w'=>e=.returned (.bool (memB B s))∧W=w'):=(Lh fun W s hW=>by rw [←hBB];exact boundR_any B' vi s N W (hi.under (hW.mono hN)));have HNS:=Lh hnms;have EE:Hid (exE fs B e=firstE ((pre 1 e).map (nodE fs B))):=Lh rfl;have hlen:=pre_len e 1;obtain⟨p,cap,pl,cl,rfl,hs,_⟩:=hx.form;obtain⟨cnm,par,vf,pb,kb,cb,rfl,pf,cf,rfl,_⟩:=hc;obtain⟨pi,ci,rfl,_⟩:=hi;clear hx hNm hBB hs hnms;generalize fs.length=KF at *
 generalize B'.length=KB at *
 generalize exE fs B e=R at *
 generalize pre 1 e=PL at *
 generalize sz e=Z at *
 generalize e.op=o at *
 generalize e.n=n at *
 generalize e.nm=s at *
 generalize e.args.length=K at *
 have B3:=(Blk.new w [.int .i64 o,.int .i64 n,.string s,.slice p K cap] 43).stay (ba _ (.cells #[.string cnm,.string par,.slice pf KF cf,.slice pb kb cb] 34));have B4:=Blk.new (w.alloc (.cells #[.int .i64 o,.int .i64 n,.string s,.slice p K cap] 43)) [.string cnm,.string par,.slice pf KF cf,.slice pb kb cb] 34;have hb2:=(ba w (.cells #[.int .i64 o,.int .i64 n,.string s,.slice p K cap] 43)).then_ (ba _ (.cells #[.string cnm,.string par,.slice pf KF cf,.slice pb kb cb] 34));rw [World.size_alloc] at B4;simp only [List.toArray] at B3 B4;obtain⟨W0,hW0⟩:∃ W0,(w.alloc (.cells #[.int .i64 o,.int .i64 n,.string s,.slice p K cap] 43)).alloc (.cells #[.string cnm,.string par,.slice pf KF cf,.slice pb kb cb] 34)=W0:=⟨_,rfl⟩;rw [hW0] at B3 B4 hb2;have a0:=B3.c 0 _ rfl;have a1:=B3.c 1 _ rfl;have a2:=B3.c 2 _ rfl;have a3:=B3.c 3 _ rfl;have HB2:=Lh hb2;have H4:=Lh B4;clear B3 B4 hb2
 go_enter Tryz.func58,Tryz.ntmps58
 go_wp2_with fail
 clear hW0;go_wp2_with (go_at_call 102;((with_reducible refine (NC.out _ HB2.out).mono ?_);rintro e w1 ⟨v1,M,rfl,ho,hm,hb⟩;obtain⟨q1,k1,rfl,hrow⟩:=row4 ho;have HM:=Lh hm;have HRW:=Lh hrow;have HB3:=Lh (HB2.out.then_ hb);have H41:=Lh (H4.out.stay hb);clear ho hm hb hrow a0 a1 a2 a3))
 have hml:M.length=Z:=(by have:=congrArg List.length HM.out;rw [List.length_map] at this;omega);have HER:Hid (R=firstE (M.map fun y=>nodE fs B y.x)):=Lh (by rw [EE.out,←HM.out,List.map_map];rfl);have HNN:Hid (∀ y∈M,y.x.nm.size≤140737488351232):=(Lh fun y hy=>HNS.out _ (by rw [←HM.out];exact List.mem_map_of_mem hy));obtain⟨Q,hQ⟩:∃ Q,M.length=Q:=⟨_,rfl⟩;have HQ:=Lh hQ;rw [hQ] at hml ⊢;have hq:Q≤10000:=(by omega);clear hQ hml EE HM HNS hlen hsz;go_loopw [8] (fun i wr=>∃ j:Nat,j≤Q∧i=.int .i64 j∧Hid (firstE ((M.take j).map fun y=>nodE fs B y.x)=0)∧Hid (Below w.heap.size w wr)∧Hid (Below w1.heap.size w1 wr)∧Hid (Blk wr (w.heap.size+1) [.string cnm,.string par,.slice pf KF cf,.slice pb kb cb])) (fun i _=>Q - (intOf i).toNat)
 case atStart=>exact⟨0,Nat.zero_le _,rfl,Lh rfl,HB3,Lh (Below.refl _ _),H41⟩
 case round =>
  obtain⟨j,hj,rfl,FW,BW,B1W,CW⟩:=hrel;by_cases hlt:j<Q
  ·obtain⟨y,hy⟩:∃ y,M[j]? = some y:=⟨_,List.getElem?_eq_getElem (by rw [HQ.out];exact hlt)⟩;obtain⟨g,rfl,hcell⟩:=HRW.out (by rw [HQ.out];omega);obtain⟨q0,_,q2,_⟩:=hcell j y hy;have d0:=(B1W.out.cell (p:=⟨g,j*4,none⟩) (cell_lt q0)).trans q0;have d2:=(B1W.out.cell (p:=⟨g,j*4+2,none⟩) (cell_lt q0)).trans q2;have c0:=CW.out.c 0 _ rfl;have c1:=CW.out.c 1 _ rfl;have c2:=CW.out.c 2 _ rfl;have c3:=CW.out.c 3 _ rfl;have NS:=Lh (HNN.out y (List.mem_of_getElem? hy));have FT:=Lh (fst_take hy FW.out);have NE:=Lh (nod_eq fs B y.x);have hslt:=B1W.out.size;clear hcell q0 q2 hy;generalize nodE fs B y.x=E at *
   generalize y.x.op=yo at *
   generalize y.x.nm=ys at *
   by_cases o2:yo=2
   ·subst o2;cases hm:memB B ys
    ·have BC2:Hid (∀ W,Below w.heap.size w W→Calls Tryz.prog 39 #[.slice pi KB ci,.string ys] W fun e w'=>e=.returned (.bool false)∧W=w'):=(Lh fun W hW=>hm ▸ BC.out W ys hW);have HE:Hid (E=varE fs ys):=Lh (by rw [NE.out,hm];rfl);have CC:Hid (∀ W,Below wr.heap.size wr W→Calls Tryz.prog 103 #[.agg #[.string cnm,.string par,.slice pf KF cf,.slice pb kb cb],.string ys] W (tInt E W)):=Lh fun W hW=>by
      rw [HE.out];exact VC.out W ys (BW.out.then_ hW) NS.out
     clear HE NE;by_cases h0:E=0
     ·subst h0;have FN:=Lh (FT.out.1 rfl);clear FT;have E1:=reB (v:=.int .i64 0) (fun W hW=>CC.out W hW);have r0:=cell_regrown c0;have r1:=cell_regrown c1;have r2:=cell_regrown c2;have r3:=cell_regrown c3;have s2:=cell_regrown d2;go_wp2_with (go_at_call 39;((with_reducible refine (BC2.out _ BW.out).mono ?_);rintro e w2 ⟨rfl,rfl⟩))
      refine wp_region_quiet_below (by kernel_rfl) (by kernel_rfl) ?_;repeat (first | go_big_quiet_step ((go_at_call 103;with_reducible exact E1 _ _)) | quiet_step ((go_at_call 103;with_reducible exact E1 _ _)))
      refine wpQuiet_nil ?_;intro w4 hw';obtain⟨pq,hw''⟩:=hw';have HB24:Hid (Below wr.heap.size wr w4):=Lh (by rw [hw''];exact below_regrown _ _ _);have d04:=(HB24.out.cell (p:=⟨g,j*4,none⟩) (cell_lt d0)).trans d0;clear hw'' E1 r0 r1 r2 r3 s2 c0 c1 c2 c3 d0 d2;go_wp2;go_roundw
      case rel=>exact⟨j+1,by omega,by go_num,FN,Lh (BW.out.then_ HB24.out),Lh (B1W.out.then_ HB24.out),Lh (CW.out.stay HB24.out)⟩
      case measure=>simp [intOf];omega
     ·have FN:=Lh (HER.out.trans (FT.out.2 h0));have f1:(E != 0)=true:=(by simpa using h0);clear FT;have E1:=reB (v:=.int .i64 E) (fun W hW=>CC.out W hW);have r0:=cell_regrown c0;have r1:=cell_regrown c1;have r2:=cell_regrown c2;have r3:=cell_regrown c3;have s2:=cell_regrown d2;go_wp2_with (go_at_call 39;((with_reducible refine (BC2.out _ BW.out).mono ?_);rintro e w2 ⟨rfl,rfl⟩))
      refine wp_region_quiet_below (by kernel_rfl) (by kernel_rfl) ?_;repeat (first | go_big_quiet_step ((go_at_call 103;with_reducible exact E1 _ _)) | quiet_step ((go_at_call 103;with_reducible exact E1 _ _)))
      refine wpQuiet_nil ?_;intro w4 hw';obtain⟨pq,hw''⟩:=hw';have HB24:Hid (Below wr.heap.size wr w4):=Lh (by rw [hw''];exact below_regrown _ _ _);have d04:=(HB24.out.cell (p:=⟨g,j*4,none⟩) (cell_lt d0)).trans d0;clear hw'' E1 r0 r1 r2 r3 s2 c0 c1 c2 c3 d0 d2;go_wp2;go_ret;exact tInt_mk FN.out (BW.out.then_ HB24.out)
    ·have BC2:Hid (∀ W,Below w.heap.size w W→Calls Tryz.prog 39 #[.slice pi KB ci,.string ys] W fun e w'=>e=.returned (.bool true)∧W=w'):=(Lh fun W hW=>hm ▸ BC.out W ys hW);have FN:=Lh (FT.out.1 (by rw [NE.out,hm];rfl));clear FT NE;go_wp2_with (go_at_call 39;((with_reducible refine (BC2.out _ BW.out).mono ?_);rintro e w2 ⟨rfl,rfl⟩))
     go_roundw
     case rel=>exact⟨j+1,by omega,by go_num,FN,BW,B1W,CW⟩
     case measure=>simp [intOf];omega
   ·have f2:(yo == 2)=false:=(by rw [beq_eq_false_iff_ne];exact o2);by_cases o3:yo=3
    ·subst o3;have HE:Hid (E=arrE fs ys):=Lh (by rw [NE.out];rfl);have CC:Hid (∀ W,Below wr.heap.size wr W→Calls Tryz.prog 104 #[.agg #[.string cnm,.string par,.slice pf KF cf,.slice pb kb cb],.string ys] W (tInt E W)):=Lh fun W hW=>by
      rw [HE.out];exact AC.out W ys (BW.out.then_ hW)
     clear HE NE;by_cases h0:E=0
     ·subst h0;have FN:=Lh (FT.out.1 rfl);clear FT;have E1:=reB (v:=.int .i64 0) (fun W hW=>CC.out W hW);have r0:=cell_regrown c0;have r1:=cell_regrown c1;have r2:=cell_regrown c2;have r3:=cell_regrown c3;have s2:=cell_regrown d2;go_wp2;refine wp_region_quiet_below (by kernel_rfl) (by kernel_rfl) ?_;repeat (first | go_big_quiet_step ((go_at_call 104;with_reducible exact E1 _ _)) | quiet_step ((go_at_call 104;with_reducible exact E1 _ _)))
      refine wpQuiet_nil ?_;intro w4 hw';obtain⟨pq,hw''⟩:=hw';have HB24:Hid (Below wr.heap.size wr w4):=Lh (by rw [hw''];exact below_regrown _ _ _);have d04:=(HB24.out.cell (p:=⟨g,j*4,none⟩) (cell_lt d0)).trans d0;clear hw'' E1 r0 r1 r2 r3 s2 c0 c1 c2 c3 d0 d2;go_wp2;go_roundw
      case rel=>exact⟨j+1,by omega,by go_num,FN,Lh (BW.out.then_ HB24.out),Lh (B1W.out.then_ HB24.out),Lh (CW.out.stay HB24.out)⟩
      case measure=>simp [intOf];omega
     ·have FN:=Lh (HER.out.trans (FT.out.2 h0));have f1:(E != 0)=true:=(by simpa using h0);clear FT;have E1:=reB (v:=.int .i64 E) (fun W hW=>CC.out W hW);have r0:=cell_regrown c0;have r1:=cell_regrown c1;have r2:=cell_regrown c2;have r3:=cell_regrown c3;have s2:=cell_regrown d2;go_wp2;refine wp_region_quiet_below (by kernel_rfl) (by kernel_rfl) ?_;repeat (first | go_big_quiet_step ((go_at_call 104;with_reducible exact E1 _ _)) | quiet_step ((go_at_call 104;with_reducible exact E1 _ _)))
      refine wpQuiet_nil ?_;intro w4 hw';obtain⟨pq,hw''⟩:=hw';have HB24:Hid (Below wr.heap.size wr w4):=Lh (by rw [hw''];exact below_regrown _ _ _);have d04:=(HB24.out.cell (p:=⟨g,j*4,none⟩) (cell_lt d0)).trans d0;clear hw'' E1 r0 r1 r2 r3 s2 c0 c1 c2 c3 d0 d2;go_wp2;go_ret;exact tInt_mk FN.out (BW.out.then_ HB24.out)
    ·have f3:(yo == 3)=false:=(by rw [beq_eq_false_iff_ne];exact o3);by_cases o24:yo=24
     ·subst o24;have HE:Hid (E=arrE fs ys):=Lh (by rw [NE.out];rfl);have CC:Hid (∀ W,Below wr.heap.size wr W→Calls Tryz.prog 104 #[.agg #[.string cnm,.string par,.slice pf KF cf,.slice pb kb cb],.string ys] W (tInt E W)):=Lh fun W hW=>by
       rw [HE.out];exact AC.out W ys (BW.out.then_ hW)
      clear HE NE;by_cases h0:E=0
      ·subst h0;have FN:=Lh (FT.out.1 rfl);clear FT;have E1:=reB (v:=.int .i64 0) (fun W hW=>CC.out W hW);have r0:=cell_regrown c0;have r1:=cell_regrown c1;have r2:=cell_regrown c2;have r3:=cell_regrown c3;have s2:=cell_regrown d2;go_wp2;refine wp_region_quiet_below (by kernel_rfl) (by kernel_rfl) ?_;repeat (first | go_big_quiet_step ((go_at_call 104;with_reducible exact E1 _ _)) | quiet_step ((go_at_call 104;with_reducible exact E1 _ _)))
       refine wpQuiet_nil ?_;intro w4 hw';obtain⟨pq,hw''⟩:=hw';have HB24:Hid (Below wr.heap.size wr w4):=Lh (by rw [hw''];exact below_regrown _ _ _);have d04:=(HB24.out.cell (p:=⟨g,j*4,none⟩) (cell_lt d0)).trans d0;clear hw'' E1 r0 r1 r2 r3 s2 c0 c1 c2 c3 d0 d2;go_wp2;go_roundw
       case rel=>exact⟨j+1,by omega,by go_num,FN,Lh (BW.out.then_ HB24.out),Lh (B1W.out.then_ HB24.out),Lh (CW.out.stay HB24.out)⟩
       case measure=>simp [intOf];omega
      ·have FN:=Lh (HER.out.trans (FT.out.2 h0));have f1:(E != 0)=true:=(by simpa using h0);clear FT;have E1:=reB (v:=.int .i64 E) (fun W hW=>CC.out W hW);have r0:=cell_regrown c0;have r1:=cell_regrown c1;have r2:=cell_regrown c2;have r3:=cell_regrown c3;have s2:=cell_regrown d2;go_wp2;refine wp_region_quiet_below (by kernel_rfl) (by kernel_rfl) ?_;repeat (first | go_big_quiet_step ((go_at_call 104;with_reducible exact E1 _ _)) | quiet_step ((go_at_call 104;with_reducible exact E1 _ _)))
       refine wpQuiet_nil ?_;intro w4 hw';obtain⟨pq,hw''⟩:=hw';have HB24:Hid (Below wr.heap.size wr w4):=Lh (by rw [hw''];exact below_regrown _ _ _);have d04:=(HB24.out.cell (p:=⟨g,j*4,none⟩) (cell_lt d0)).trans d0;clear hw'' E1 r0 r1 r2 r3 s2 c0 c1 c2 c3 d0 d2;go_wp2;go_ret;exact tInt_mk FN.out (BW.out.then_ HB24.out)
     ·have f24:(yo == 24)=false:=(by rw [beq_eq_false_iff_ne];exact o24);have hA:isAr yo=false:=(by unfold isAr;rw [decide_eq_false o3,decide_eq_false o24];rfl);have hV:isVr yo=false:=(by unfold isVr;exact decide_eq_false o2);have FN:=Lh (FT.out.1 (by rw [NE.out,hA,hV];rfl));clear FT NE hA hV;go_wp2;go_roundw
      case rel=>exact⟨j+1,by omega,by go_num,FN,BW,B1W,CW⟩
      case measure=>simp [intOf];omega
  ·have FN:Hid (R=0):=Lh (by rw [HER.out];have:=FW.out;rw [List.take_of_length_le (by rw [HQ.out];omega)] at this;exact this);go_wp2;go_ret;exact tInt_mk FN.out BW.out
end ItW
namespace ExW
open Go Go.RowKit NumM LexW LexM ExM
theorem at_names {N:Nat} {w:World} {v:Value} {e:Ex} (h:ExAt N w v e):∀ (l:Nat),∀ x∈pre l e,x.nm.size≤140737488351232:=by
 induction h with
 | mk pl cl hs hl hc hp hx ih =>
  intro l x hm;rw [pre_mk] at hm;rcases List.mem_cons.1 hm with rfl | hm
  ·exact hs
  ·obtain⟨a,ha,hxa⟩:=mem_pres.1 hm;obtain⟨i,hi⟩:=List.getElem?_of_mem ha;exact ih i a hi _ x hxa
def BoolsAt (w:World) (v:Value) (l:List Bool):Prop :=
 ∃ p cap,v=.slice p l.length cap∧l.length≤140737488351232∧l.length≤cap∧(0<l.length→∃ b off,p=some ⟨b,off,none⟩∧b<w.heap.size∧∀ i x,l[i]? = some x→w.cell? ⟨b,off+i,none⟩=some (.bool x))
theorem BoolsAt.later {w w':World} {v:Value} {l:List Bool} (h:BoolsAt w v l) (hb:Below w.heap.size w w'):BoolsAt w' v l:=by
 obtain⟨p,cap,rfl,hl,hc,hx⟩:=h;refine⟨p,cap,rfl,hl,hc,fun h0=>?_⟩;obtain⟨b,off,hp,hbs,hcell⟩:=hx h0;refine⟨b,off,hp,Nat.lt_of_lt_of_le hbs hb.size,fun i t hi=>?_⟩;rw [hb.cell hbs];exact hcell i t hi
theorem BoolsAt.nil (w:World):BoolsAt w (.slice none 0 0) []:=⟨none,0,rfl,by simp,by simp,fun h=>by simp at h⟩
end ExW
namespace ItM
open Go WordM LexM ExM
open ClM (Fld)
theorem flat_le {α:Type} (L:List Nat) (f:Nat→List α) (B:Nat) (h:∀ k∈L,(f k).length≤B):(L.flatMap f).length≤L.length*B:=by
 induction L with
 | nil=>simp
 | cons a r ih =>
  have h1:=h a List.mem_cons_self;have h2:=(ih fun k hk=>h k (List.mem_cons_of_mem _ hk));rw [List.flatMap_cons,List.length_append,List.length_cons,Nat.succ_mul];omega
theorem rx_len (fs:List Fld) (hS:∀ f∈fs,0≤f.sz∧f.sz≤8) (l:List It):∀ (q:Option Ex) (σ:Ex→Ex) (m k:Nat),ItW.dpt k l→(rxA fs q σ m l).length≤iszs l*8 ^ k:=by
 induction l using its_rec with
 | h0=>intro q σ m k _;rw [rxA_nil];simp
 | h1 x r h1 h2 h3 =>
  intro q σ m k hk;cases k with
  | zero=>cases hk
  | succ k =>
   have hx:=hk x (by simp);have hs:=ItW.cntL_bound fs hS x.nm;have hP:1≤8 ^ k:=Nat.pow_pos (by decide);have e1:8 ^ (k+1)=8 ^ k*8:=Nat.pow_succ ..;have hI:(rxI fs q σ x).length≤isz x*8 ^ (k+1):=by
    rw [rxI_eq,isz_eq,e1,Nat.add_mul,Nat.add_mul,←Nat.mul_assoc,←Nat.mul_assoc];split
    ·have a1:=h1 (some (und q 19 (σ x.e))) σ 0 k hx.1;have a2:=h2 (some (und q 19 (notE (σ x.e)))) σ 0 k hx.2;rw [List.length_append];omega
    ·split
     ·have:=(flat_le (List.range (szI fs x.nm).toNat) (fun (j:Nat)=>rxA fs q (fun a=>su x.ix (cst (j:Int)) (σ a)) 0 x.it) (iszs x.it*8 ^ k) fun j _=>h1 q _ 0 k hx.1);rw [List.length_range] at this;have h8:(szI fs x.nm).toNat*(iszs x.it*8 ^ k)≤8*(iszs x.it*8 ^ k):=Nat.mul_le_mul_right _ (by omega);omega
     ·split
      ·simp only [List.length_cons,List.length_nil];omega
      ·simp only [List.length_cons,List.length_nil];omega
   have hR:=h3 q σ (m+(rxI fs q σ x).length) (k+1) (fun y hy=>hk y (by simp [hy]));rw [rxA_cons,iszs_cons,Nat.add_mul];split
   ·simp
   ·rw [List.length_append];omega
theorem sm_isz (σ:Ex→Ex) (l:List It):iszs (smL σ l)=iszs l:=by
 induction l using its_rec with
 | h0=>rw [smL_nil]
 | h1 x r h1 h2 h3 =>
  rw [smL_cons,iszs_cons,iszs_cons,h3,isz_eq x,smI_eq,isz_eq];show iszs (smL σ x.it)+iszs (smL σ x.el)+1+iszs r=_;rw [h1,h2]
theorem sm_rs (σ:Ex→Ex) (hσ:∀ e,sz (σ e)≤sz e) (l:List It):RsL l→RsL (smL σ l):=by
 induction l using its_rec with
 | h0=>intro h;rw [smL_nil];exact h
 | h1 x r h1 h2 h3 =>
  intro h;rw [rsL_cons,rsI_eq] at h;rw [smL_cons,rsL_cons,smI_eq,rsI_eq];obtain⟨⟨⟨a1,a2,a3,a4⟩,b1,b2⟩,hr⟩:=h;refine⟨⟨⟨?_,a2,a3,a4⟩,h1 b1,h2 b2⟩,h3 hr⟩;show sz (if x.kd=1∨x.kd=2∨x.kd=4 then σ x.e else x.e)≤10000;split
  ·have:=hσ x.e;omega
  ·exact a1
theorem sm_at (σ:Ex→Ex) {l:List It} {j:Nat} {a:It} (h:l[j]? = some a):(smL σ l)[j]? = some (smI σ a):=by
 rw [smL_map,List.getElem?_map,h];rfl
theorem rx_drop (fs:List Fld) (q:Option Ex) (σ:Ex→Ex) {l:List It} {j m:Nat} {a:It} (h:l[j]? = some a) (hm:m≤400):rxA fs q σ m (l.drop j)=rxI fs q σ a++rxA fs q σ (m+(rxI fs q σ a).length) (l.drop (j+1)):=by
 obtain⟨hj,he⟩:=List.getElem?_eq_some_iff.1 h;rw [List.drop_eq_getElem_cons hj,he,rxA_cons,if_neg (by omega)]
theorem rx_end (fs:List Fld) (q:Option Ex) (σ:Ex→Ex) {l:List It} {m:Nat} (h:400<m):rxA fs q σ m l=[]:=by
 cases l with
 | nil=>rw [rxA_nil]
 | cons a r=>rw [rxA_cons,if_pos h]
theorem flat_range_succ {α:Type} (f:Nat→List α) (n:Nat):(List.range (n+1)).flatMap f=(List.range n).flatMap f++f n:=by
 rw [List.range_succ,List.flatMap_append,List.flatMap_cons,List.flatMap_nil,List.append_nil]
theorem flat_range_le {α:Type} (f:Nat→List α) {n m:Nat} (h:n≤m):((List.range n).flatMap f).length≤((List.range m).flatMap f).length:=by
 induction m with
 | zero =>
  obtain rfl:n=0:=by omega
  exact Nat.le_refl _
 | succ m ih =>
  rcases Nat.lt_or_ge n (m+1) with hlt | hge
  ·rw [flat_range_succ,List.length_append];have:=ih (by omega);omega
  ·obtain rfl:n=m+1:=(by omega);exact Nat.le_refl _
end ItM
end Go.Proofs.YtpejflgdehioaaaGreatDoor
