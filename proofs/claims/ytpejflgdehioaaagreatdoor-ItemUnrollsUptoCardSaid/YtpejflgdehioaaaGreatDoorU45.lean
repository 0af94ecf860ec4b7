/-
  Laws that the card uses; no conditions beside those that each states (ItSame).
-/
import Derived.Test.YtpejflgdehioaaaGreatDoorU41
set_option maxRecDepth 100000
set_option maxHeartbeats 16000000
namespace Go.Proofs.YtpejflgdehioaaaGreatDoor
namespace ItW
open Go Go.RowKit Go.«Sort» NumM LexW LexM ExM ExW ItM
theorem textsR_any (l:List ByteArray) (v v':Value) (N:Nat) (w:World) (ha:StA N w v l) (hb:StA N w v' l) (hN:N≤w.heap.size) :
  Calls Tryz.prog 53 #[v,v'] w (tBool true w):=by
 obtain⟨p,cap,rfl,hl,hcap,hz,hx⟩:=ha;obtain⟨p',cap',rfl,_,hcap',_,hx'⟩:=hb;have HX:=Lh hx;have HX':=Lh hx';obtain⟨K,hK⟩:∃ K,l.length=K:=⟨_,rfl⟩;have HK:=Lh hK;rw [hK] at hl ⊢;have hk:K≤140737488351232:=(by omega);clear hK hl hx hx' hcap hcap' hz;have HB0:=Lh (Below.refl w.heap.size w)
 go_enter Tryz.func53,Tryz.ntmps53
 go_wp2;go_loopw [5] (fun i wr=>∃ j:Nat,j≤K∧i=.int .i64 j∧Hid (Below w.heap.size w wr)) (fun i _=>K - (intOf i).toNat)
 case atStart=>exact⟨0,Nat.zero_le _,rfl,HB0⟩
 case round =>
  obtain⟨j,hj,rfl,BW⟩:=hrel;by_cases hlt:j<K
  ·obtain⟨x,hxj⟩:∃ x,l[j]? = some x:=⟨_,List.getElem?_eq_getElem (by rw [HK.out];exact hlt)⟩;have hbw:Below N w wr:=BW.out.mono hN;obtain⟨b,off,rfl,hb,hc⟩:=HX.out (by rw [HK.out];omega);obtain⟨b',off',rfl,hb',hc'⟩:=HX'.out (by rw [HK.out];omega);have c0:=low_cells hbw _ _ hb _ (hc j x hxj);have c1:=low_cells hbw _ _ hb' _ (hc' j x hxj);clear hc hc' hxj hbw;go_wp2;go_quiet (fail)
   go_wp2;go_roundw
   case rel=>exact⟨j+1,by omega,by go_num,Lh (drewB BW.out)⟩
   case measure=>simp [intOf];omega
  ·go_wp2;go_ret;exact⟨rfl,BW.out⟩
theorem run_wtn (W:World) (a b c:Int) (d:Bool):(binOp .neq 130 (.agg #[.int .i64 a,.int .i64 b,.int .i64 c,.bool d]) (.agg #[.int .i64 a,.int .i64 b,.int .i64 c,.bool d])).run Tryz.prog W=.ok (.bool false) W:=by
 simp [go_sem]
theorem weightsR_any (l:List Wt) (v v':Value) (N:Nat) (w:World) (ha:WtA N w v l) (hb:WtA N w v' l) (hN:N≤w.heap.size) :
  Calls Tryz.prog 52 #[v,v'] w (tBool true w):=by
 obtain⟨p,cap,rfl,hl,hcap,hx⟩:=ha;obtain⟨p',cap',rfl,_,hcap',hx'⟩:=hb;have HX:=Lh hx;have HX':=Lh hx';obtain⟨K,hK⟩:∃ K,l.length=K:=⟨_,rfl⟩;have HK:=Lh hK;rw [hK] at hl ⊢;have hk:K≤140737488351232:=(by omega);clear hK hl hx hx' hcap hcap';have HB0:=Lh (Below.refl w.heap.size w)
 go_enter Tryz.func52,Tryz.ntmps52
 go_wp2;go_loopw [5] (fun i wr=>∃ j:Nat,j≤K∧i=.int .i64 j∧Hid (Below w.heap.size w wr)) (fun i _=>K - (intOf i).toNat)
 case atStart=>exact⟨0,Nat.zero_le _,rfl,HB0⟩
 case round =>
  obtain⟨j,hj,rfl,BW⟩:=hrel;by_cases hlt:j<K
  ·obtain⟨x,hxj⟩:∃ x,l[j]? = some x:=⟨_,List.getElem?_eq_getElem (by rw [HK.out];exact hlt)⟩;have hbw:Below N w wr:=BW.out.mono hN;obtain⟨b,off,rfl,hb,hc⟩:=HX.out (by rw [HK.out];omega);obtain⟨b',off',rfl,hb',hc'⟩:=HX'.out (by rw [HK.out];omega);obtain⟨a0,a1,a2,a3⟩:=hc j x hxj;obtain⟨d0,d1,d2,d3⟩:=hc' j x hxj;have c0:=low_cells hbw _ _ hb _ a0;have c1:=low_cells hbw _ _ hb _ a1;have c2:=low_cells hbw _ _ hb _ a2;have c3:=low_cells hbw _ _ hb _ a3;have f0:=low_cells hbw _ _ hb' _ d0;have f1:=low_cells hbw _ _ hb' _ d1;have f2:=low_cells hbw _ _ hb' _ d2;have f3:=low_cells hbw _ _ hb' _ d3;clear hc hc' hxj hbw a0 a1 a2 a3 d0 d1 d2 d3;obtain⟨xl,xh,xw,xe⟩:=x;simp only at c0 c1 c2 c3 f0 f1 f2 f3;have HQ:=(fun W=>run_wtn W xl xh xw xe);go_wp2;go_quiet (fail)
   go_wp2;go_roundw
   case rel=>exact⟨j+1,by omega,by go_num,Lh (drewB BW.out)⟩
   case measure=>simp [intOf];omega
  ·go_wp2;go_ret;exact⟨rfl,BW.out⟩
theorem two_new (w:World) (A B:List Value) (t:TypeId):Blk ((w.alloc (.cells A.toArray t)).alloc (.cells B.toArray t)).drew w.heap.size A∧Blk ((w.alloc (.cells A.toArray t)).alloc (.cells B.toArray t)).drew (w.heap.size+1) B∧Below w.heap.size w ((w.alloc (.cells A.toArray t)).alloc (.cells B.toArray t)).drew:=by
 have hd:Below ((w.alloc (.cells A.toArray t)).alloc (.cells B.toArray t)).heap.size ((w.alloc (.cells A.toArray t)).alloc (.cells B.toArray t)) ((w.alloc (.cells A.toArray t)).alloc (.cells B.toArray t)).drew:=(Below.refl _ _).drew;exact⟨((Blk.new w A t).alloc _).stay hd,(Blk.at_ (w:=w.alloc (.cells A.toArray t)) (by simp) B t).stay hd,((ba w _).then_ (ba _ _)).then_ hd⟩
theorem sameIR_any (l:List It):∀ (v v':Value) (N:Nat) (w:World),ItsA N w v l→ItsA N w v' l→N≤w.heap.size→RsL l →
  Calls Tryz.prog 24 #[v,v'] w (tBool true w):=by
 induction l using its_ind with
 | h l ih =>
  intro v v' N w ha hb hN hrs;obtain⟨p,cap,V,rfl,hra⟩:=ha.form;obtain⟨p',cap',V',rfl,hrb⟩:=hb.form;have hl:=hra.hl;have HRA:=Lh hra;have HRB:=Lh hrb;have HIH:=Lh ih;have HRS:=Lh hrs;obtain⟨K,hK⟩:∃ K,l.length=K:=⟨_,rfl⟩;have HK:=Lh hK;rw [hK] at hl ⊢;have hk47:K≤140737488351232:=(by omega);clear hK hra hrb ih ha hb hrs;have HB0:=Lh (Below.refl w.heap.size w)
  go_enter Tryz.func24,Tryz.ntmps24
  go_wp2;go_loopw [5] (fun i wr=>∃ j:Nat,j≤K∧i=.int .i64 j∧Hid (Below w.heap.size w wr)) (fun i _=>K - (intOf i).toNat)
  case atStart=>exact⟨0,Nat.zero_le _,rfl,HB0⟩
  case round =>
   rename World=>w1
   obtain⟨j,hj,rfl,BW⟩:=hrel;by_cases hlt:j<K
   ·obtain⟨a,hja⟩:∃ a,l[j]? = some a:=⟨_,List.getElem?_eq_getElem (by rw [HK.out];exact hlt)⟩;have hbw:Below N w w1:=BW.out.mono hN;have hmem:=List.mem_of_getElem? hja;have hr1:=HRA.out.under hbw;have hr2:=HRB.out.under hbw;obtain⟨b,off,rfl,hb,hcell⟩:=hr1.hp (by rw [HK.out];omega);obtain⟨b',off',rfl,hb',hcell'⟩:=hr2.hp (by rw [HK.out];omega);have hva:=hr1.hv j a hja;have hvb:=hr2.hv j a hja;obtain⟨g0,g1,g2,g3,g4,g5,g6,g7,g8,g9,g10,g11⟩:=hcell j a hja;obtain⟨h0,h1,h2,h3,h4,h5,h6,h7,h8,h9,h10,h11⟩:=hcell' j a hja;have hnN:N≤w1.heap.size:=(by have:=BW.out.size;omega);have hrsa:=(rsI_eq a).1 (rsL_mem.1 HRS.out a hmem);have SE:∀ W,Below w1.heap.size w1 W→Calls Tryz.prog 28 #[xv a.e.op a.e.n a.e.nm (V j 4),xv a.e.op a.e.n a.e.nm (V' j 4)] W (tBool true W):=fun W hW=>by
     have:=sameR_any a.e a.e W.heap.size W _ _ ((hva.ex.under (hW.mono hnN)).wide (by have:=hW.size;omega)) ((hvb.ex.under (hW.mono hnN)).wide (by have:=hW.size;omega)) (Nat.le_refl _) hrsa.1.1;rw [eqB_refl] at this;exact this
    have SW:∀ W,Below w1.heap.size w1 W→Calls Tryz.prog 52 #[V j 7,V' j 7] W (tBool true W):=(fun W hW=>weightsR_any a.ws _ _ N W (hva.wt.under (hW.mono hnN)) (hvb.wt.under (hW.mono hnN)) (by have:=hW.size;omega));have SB:∀ W,Below w1.heap.size w1 W→Calls Tryz.prog 53 #[V j 10,V' j 10] W (tBool true W):=(fun W hW=>textsR_any a.bf _ _ N W (hva.bfs.under (hW.mono hnN)) (hvb.bfs.under (hW.mono hnN)) (by have:=hW.size;omega));have SA:∀ W,Below w1.heap.size w1 W→Calls Tryz.prog 53 #[V j 11,V' j 11] W (tBool true W):=(fun W hW=>textsR_any a.af _ _ N W (hva.afs.under (hW.mono hnN)) (hvb.afs.under (hW.mono hnN)) (by have:=hW.size;omega));have SI:∀ W,Below w1.heap.size w1 W→Calls Tryz.prog 24 #[V j 8,V' j 8] W (tBool true W):=(fun W hW=>(HIH.out a hmem).1 _ _ N W (hva.its.under (hW.mono hnN)) (hvb.its.under (hW.mono hnN)) (by have:=hW.size;omega) hrsa.2.1);have SL:∀ W,Below w1.heap.size w1 W→Calls Tryz.prog 24 #[V j 9,V' j 9] W (tBool true W):=(fun W hW=>(HIH.out a hmem).2 _ _ N W (hva.els.under (hW.mono hnN)) (hvb.els.under (hW.mono hnN)) (by have:=hW.size;omega) hrsa.2.2);obtain⟨p4,c4,p7,c7,p8,c8,p9,c9,p10,c10,p11,c11,x4,x7,x8,x9,x10,x11⟩:=hva.slices;obtain⟨q4,e4,q7,e7,q8,e8,q9,e9,q10,e10,q11,e11,y4,y7,y8,y9,y10,y11⟩:=hvb.slices;rw [x4] at g4 SE;rw [x7] at g7 SW;rw [x8] at g8 SI;rw [x9] at g9 SL;rw [x10] at g10 SB;rw [x11] at g11 SA;rw [y4] at h4 SE;rw [y7] at h7 SW;rw [y8] at h8 SI;rw [y9] at h9 SL;rw [y10] at h10 SB;rw [y11] at h11 SA;have SE:=Lh SE;have SW:=Lh SW;have SB:=Lh SB;have SA:=Lh SA;have SI:=Lh SI;have SL:=Lh SL;clear x4 x7 x8 x9 x10 x11 y4 y7 y8 y9 y10 y11 hcell hcell' hva hvb hr1 hr2 hbw hmem hja hrsa;have hb1:b<w1.heap.size:=(by omega);have hb2:b'<w1.heap.size:=(by omega);generalize a.e.args.length=k4 at *
    generalize a.ws.length=k7 at *
    generalize a.it.length=k8 at *
    generalize a.el.length=k9 at *
    generalize a.bf.length=k10 at *
    generalize a.af.length=k11 at *
    generalize a.kd=kd at *
    generalize a.e.op=eo at *
    generalize a.e.n=en at *
    generalize a.e.nm=enm at *
    generalize a.nm=anm at *
    generalize a.ix=aix at *
    go_upto_region 6 with (fail)
    go_cut [6,7] from 13 to 91 (fun s6 s7 wx=>∃ g6 g7,s6=.pointer (some ⟨g6,0,none⟩)∧s7=.pointer (some ⟨g7,0,none⟩)∧Hid (Blk wx g6 (ics kd eo en enm (.slice p4 k4 c4) anm aix (.slice p7 k7 c7) (.slice p8 k8 c8) (.slice p9 k9 c9) (.slice p10 k10 c10) (.slice p11 k11 c11)))∧Hid (Blk wx g7 (ics kd eo en enm (.slice q4 k4 e4) anm aix (.slice q7 k7 e7) (.slice q8 k8 e8) (.slice q9 k9 e9) (.slice q10 k10 e10) (.slice q11 k11 e11)))∧Hid (Below w1.heap.size w1 wx))
    case first =>
     go_region
     all_goals
      go_wp2_with fail
      go_meet
      first
       | exact⟨_,_,rfl,rfl,Lh (two_new w1 (ics kd eo en enm (.slice p4 k4 c4) anm aix (.slice p7 k7 c7) (.slice p8 k8 c8) (.slice p9 k9 c9) (.slice p10 k10 c10) (.slice p11 k11 c11)) (ics kd eo en enm (.slice q4 k4 e4) anm aix (.slice q7 k7 e7) (.slice q8 k8 e8) (.slice q9 k9 e9) (.slice q10 k10 e10) (.slice q11 k11 e11)) _).1,Lh (two_new w1 (ics kd eo en enm (.slice p4 k4 c4) anm aix (.slice p7 k7 c7) (.slice p8 k8 c8) (.slice p9 k9 c9) (.slice p10 k10 c10) (.slice p11 k11 c11)) (ics kd eo en enm (.slice q4 k4 e4) anm aix (.slice q7 k7 e7) (.slice q8 k8 e8) (.slice q9 k9 e9) (.slice q10 k10 e10) (.slice q11 k11 e11)) _).2.1,Lh (two_new w1 (ics kd eo en enm (.slice p4 k4 c4) anm aix (.slice p7 k7 c7) (.slice p8 k8 c8) (.slice p9 k9 c9) (.slice p10 k10 c10) (.slice p11 k11 c11)) (ics kd eo en enm (.slice q4 k4 e4) anm aix (.slice q7 k7 e7) (.slice q8 k8 e8) (.slice q9 k9 e9) (.slice q10 k10 e10) (.slice q11 k11 e11)) _).2.2⟩
       | exact⟨_,_,rfl,rfl,Lh (two_new w1 (ics kd eo en enm (.slice q4 k4 e4) anm aix (.slice q7 k7 e7) (.slice q8 k8 e8) (.slice q9 k9 e9) (.slice q10 k10 e10) (.slice q11 k11 e11)) (ics kd eo en enm (.slice p4 k4 c4) anm aix (.slice p7 k7 c7) (.slice p8 k8 c8) (.slice p9 k9 c9) (.slice p10 k10 c10) (.slice p11 k11 c11)) _).2.1,Lh (two_new w1 (ics kd eo en enm (.slice q4 k4 e4) anm aix (.slice q7 k7 e7) (.slice q8 k8 e8) (.slice q9 k9 e9) (.slice q10 k10 e10) (.slice q11 k11 e11)) (ics kd eo en enm (.slice p4 k4 c4) anm aix (.slice p7 k7 c7) (.slice p8 k8 c8) (.slice p9 k9 c9) (.slice p10 k10 c10) (.slice p11 k11 c11)) _).1,Lh (two_new w1 (ics kd eo en enm (.slice q4 k4 e4) anm aix (.slice q7 k7 e7) (.slice q8 k8 e8) (.slice q9 k9 e9) (.slice q10 k10 e10) (.slice q11 k11 e11)) (ics kd eo en enm (.slice p4 k4 c4) anm aix (.slice p7 k7 c7) (.slice p8 k8 c8) (.slice p9 k9 c9) (.slice p10 k10 c10) (.slice p11 k11 c11)) _).2.2⟩
    case rest =>
     obtain⟨gA,gB,rfl,rfl,HA,HB,HX⟩:=hcut;clear g0 g1 g2 g3 g4 g5 g6 g7 g8 g9 g10 g11 h0 h1 h2 h3 h4 h5 h6 h7 h8 h9 h10 h11;have hkk:(kd != kd)=false:=(by simp);have a0:=HA.out.c 0 _ rfl;have b0:=HB.out.c 0 _ rfl;have a1:=HA.out.c 1 _ rfl;have b1:=HB.out.c 1 _ rfl;have a2:=HA.out.c 2 _ rfl;have b2:=HB.out.c 2 _ rfl;have a3:=HA.out.c 3 _ rfl;have b3:=HB.out.c 3 _ rfl;have a4:=HA.out.c 4 _ rfl;have b4:=HB.out.c 4 _ rfl;have a5:=HA.out.c 5 _ rfl;have b5:=HB.out.c 5 _ rfl;have a6:=HA.out.c 6 _ rfl;have b6:=HB.out.c 6 _ rfl;have a7:=HA.out.c 7 _ rfl;have b7:=HB.out.c 7 _ rfl;have a8:=HA.out.c 8 _ rfl;have b8:=HB.out.c 8 _ rfl;have a9:=HA.out.c 9 _ rfl;have b9:=HB.out.c 9 _ rfl;have a10:=HA.out.c 10 _ rfl;have b10:=HB.out.c 10 _ rfl;have a11:=HA.out.c 11 _ rfl;have b11:=HB.out.c 11 _ rfl;go_wp2_with (first
      | (go_at_call 28;((with_reducible refine (SE.out _ HX.out).mono ?_);rintro e wv ⟨rfl,hb⟩;have HX:=Lh (HX.out.then_ hb);have HA:=Lh (HA.out.stay hb);have HB:=Lh (HB.out.stay hb);clear a0 b0 a1 b1 a2 b2 a3 b3 a4 b4 a5 b5 a6 b6 a7 b7 a8 b8 a9 b9 a10 b10 a11 b11;have a0:=HA.out.c 0 _ rfl;have b0:=HB.out.c 0 _ rfl;have a1:=HA.out.c 1 _ rfl;have b1:=HB.out.c 1 _ rfl;have a2:=HA.out.c 2 _ rfl;have b2:=HB.out.c 2 _ rfl;have a3:=HA.out.c 3 _ rfl;have b3:=HB.out.c 3 _ rfl;have a4:=HA.out.c 4 _ rfl;have b4:=HB.out.c 4 _ rfl;have a5:=HA.out.c 5 _ rfl;have b5:=HB.out.c 5 _ rfl;have a6:=HA.out.c 6 _ rfl;have b6:=HB.out.c 6 _ rfl;have a7:=HA.out.c 7 _ rfl;have b7:=HB.out.c 7 _ rfl;have a8:=HA.out.c 8 _ rfl;have b8:=HB.out.c 8 _ rfl;have a9:=HA.out.c 9 _ rfl;have b9:=HB.out.c 9 _ rfl;have a10:=HA.out.c 10 _ rfl;have b10:=HB.out.c 10 _ rfl;have a11:=HA.out.c 11 _ rfl;have b11:=HB.out.c 11 _ rfl;clear hb))
      | (go_at_call 52;((with_reducible refine (SW.out _ HX.out).mono ?_);rintro e wv ⟨rfl,hb⟩;have HX:=Lh (HX.out.then_ hb);have HA:=Lh (HA.out.stay hb);have HB:=Lh (HB.out.stay hb);clear a0 b0 a1 b1 a2 b2 a3 b3 a4 b4 a5 b5 a6 b6 a7 b7 a8 b8 a9 b9 a10 b10 a11 b11;have a0:=HA.out.c 0 _ rfl;have b0:=HB.out.c 0 _ rfl;have a1:=HA.out.c 1 _ rfl;have b1:=HB.out.c 1 _ rfl;have a2:=HA.out.c 2 _ rfl;have b2:=HB.out.c 2 _ rfl;have a3:=HA.out.c 3 _ rfl;have b3:=HB.out.c 3 _ rfl;have a4:=HA.out.c 4 _ rfl;have b4:=HB.out.c 4 _ rfl;have a5:=HA.out.c 5 _ rfl;have b5:=HB.out.c 5 _ rfl;have a6:=HA.out.c 6 _ rfl;have b6:=HB.out.c 6 _ rfl;have a7:=HA.out.c 7 _ rfl;have b7:=HB.out.c 7 _ rfl;have a8:=HA.out.c 8 _ rfl;have b8:=HB.out.c 8 _ rfl;have a9:=HA.out.c 9 _ rfl;have b9:=HB.out.c 9 _ rfl;have a10:=HA.out.c 10 _ rfl;have b10:=HB.out.c 10 _ rfl;have a11:=HA.out.c 11 _ rfl;have b11:=HB.out.c 11 _ rfl;clear hb))
      | (go_at_call 53;((with_reducible refine (SB.out _ HX.out).mono ?_);rintro e wv ⟨rfl,hb⟩;have HX:=Lh (HX.out.then_ hb);have HA:=Lh (HA.out.stay hb);have HB:=Lh (HB.out.stay hb);clear a0 b0 a1 b1 a2 b2 a3 b3 a4 b4 a5 b5 a6 b6 a7 b7 a8 b8 a9 b9 a10 b10 a11 b11;have a0:=HA.out.c 0 _ rfl;have b0:=HB.out.c 0 _ rfl;have a1:=HA.out.c 1 _ rfl;have b1:=HB.out.c 1 _ rfl;have a2:=HA.out.c 2 _ rfl;have b2:=HB.out.c 2 _ rfl;have a3:=HA.out.c 3 _ rfl;have b3:=HB.out.c 3 _ rfl;have a4:=HA.out.c 4 _ rfl;have b4:=HB.out.c 4 _ rfl;have a5:=HA.out.c 5 _ rfl;have b5:=HB.out.c 5 _ rfl;have a6:=HA.out.c 6 _ rfl;have b6:=HB.out.c 6 _ rfl;have a7:=HA.out.c 7 _ rfl;have b7:=HB.out.c 7 _ rfl;have a8:=HA.out.c 8 _ rfl;have b8:=HB.out.c 8 _ rfl;have a9:=HA.out.c 9 _ rfl;have b9:=HB.out.c 9 _ rfl;have a10:=HA.out.c 10 _ rfl;have b10:=HB.out.c 10 _ rfl;have a11:=HA.out.c 11 _ rfl;have b11:=HB.out.c 11 _ rfl;clear hb))
      | (go_at_call 53;((with_reducible refine (SA.out _ HX.out).mono ?_);rintro e wv ⟨rfl,hb⟩;have HX:=Lh (HX.out.then_ hb);have HA:=Lh (HA.out.stay hb);have HB:=Lh (HB.out.stay hb);clear a0 b0 a1 b1 a2 b2 a3 b3 a4 b4 a5 b5 a6 b6 a7 b7 a8 b8 a9 b9 a10 b10 a11 b11;have a0:=HA.out.c 0 _ rfl;have b0:=HB.out.c 0 _ rfl;have a1:=HA.out.c 1 _ rfl;have b1:=HB.out.c 1 _ rfl;have a2:=HA.out.c 2 _ rfl;have b2:=HB.out.c 2 _ rfl;have a3:=HA.out.c 3 _ rfl;have b3:=HB.out.c 3 _ rfl;have a4:=HA.out.c 4 _ rfl;have b4:=HB.out.c 4 _ rfl;have a5:=HA.out.c 5 _ rfl;have b5:=HB.out.c 5 _ rfl;have a6:=HA.out.c 6 _ rfl;have b6:=HB.out.c 6 _ rfl;have a7:=HA.out.c 7 _ rfl;have b7:=HB.out.c 7 _ rfl;have a8:=HA.out.c 8 _ rfl;have b8:=HB.out.c 8 _ rfl;have a9:=HA.out.c 9 _ rfl;have b9:=HB.out.c 9 _ rfl;have a10:=HA.out.c 10 _ rfl;have b10:=HB.out.c 10 _ rfl;have a11:=HA.out.c 11 _ rfl;have b11:=HB.out.c 11 _ rfl;clear hb))
      | (go_at_call 24;((with_reducible refine (SI.out _ HX.out).mono ?_);rintro e wv ⟨rfl,hb⟩;have HX:=Lh (HX.out.then_ hb);have HA:=Lh (HA.out.stay hb);have HB:=Lh (HB.out.stay hb);clear a0 b0 a1 b1 a2 b2 a3 b3 a4 b4 a5 b5 a6 b6 a7 b7 a8 b8 a9 b9 a10 b10 a11 b11;have a0:=HA.out.c 0 _ rfl;have b0:=HB.out.c 0 _ rfl;have a1:=HA.out.c 1 _ rfl;have b1:=HB.out.c 1 _ rfl;have a2:=HA.out.c 2 _ rfl;have b2:=HB.out.c 2 _ rfl;have a3:=HA.out.c 3 _ rfl;have b3:=HB.out.c 3 _ rfl;have a4:=HA.out.c 4 _ rfl;have b4:=HB.out.c 4 _ rfl;have a5:=HA.out.c 5 _ rfl;have b5:=HB.out.c 5 _ rfl;have a6:=HA.out.c 6 _ rfl;have b6:=HB.out.c 6 _ rfl;have a7:=HA.out.c 7 _ rfl;have b7:=HB.out.c 7 _ rfl;have a8:=HA.out.c 8 _ rfl;have b8:=HB.out.c 8 _ rfl;have a9:=HA.out.c 9 _ rfl;have b9:=HB.out.c 9 _ rfl;have a10:=HA.out.c 10 _ rfl;have b10:=HB.out.c 10 _ rfl;have a11:=HA.out.c 11 _ rfl;have b11:=HB.out.c 11 _ rfl;clear hb))
      | (go_at_call 24;((with_reducible refine (SL.out _ HX.out).mono ?_);rintro e wv ⟨rfl,hb⟩;have HX:=Lh (HX.out.then_ hb);have HA:=Lh (HA.out.stay hb);have HB:=Lh (HB.out.stay hb);clear a0 b0 a1 b1 a2 b2 a3 b3 a4 b4 a5 b5 a6 b6 a7 b7 a8 b8 a9 b9 a10 b10 a11 b11;have a0:=HA.out.c 0 _ rfl;have b0:=HB.out.c 0 _ rfl;have a1:=HA.out.c 1 _ rfl;have b1:=HB.out.c 1 _ rfl;have a2:=HA.out.c 2 _ rfl;have b2:=HB.out.c 2 _ rfl;have a3:=HA.out.c 3 _ rfl;have b3:=HB.out.c 3 _ rfl;have a4:=HA.out.c 4 _ rfl;have b4:=HB.out.c 4 _ rfl;have a5:=HA.out.c 5 _ rfl;have b5:=HB.out.c 5 _ rfl;have a6:=HA.out.c 6 _ rfl;have b6:=HB.out.c 6 _ rfl;have a7:=HA.out.c 7 _ rfl;have b7:=HB.out.c 7 _ rfl;have a8:=HA.out.c 8 _ rfl;have b8:=HB.out.c 8 _ rfl;have a9:=HA.out.c 9 _ rfl;have b9:=HB.out.c 9 _ rfl;have a10:=HA.out.c 10 _ rfl;have b10:=HB.out.c 10 _ rfl;have a11:=HA.out.c 11 _ rfl;have b11:=HB.out.c 11 _ rfl;clear hb)))
     have HBW2:=Lh (BW.out.then_ HX.out);clear HX HA HB;go_roundw
     case rel=>exact⟨j+1,by omega,by go_num,HBW2⟩
     case measure=>simp [intOf];omega
   ·go_wp2;go_ret;exact⟨rfl,BW.out⟩
end ItW
end Go.Proofs.YtpejflgdehioaaaGreatDoor
