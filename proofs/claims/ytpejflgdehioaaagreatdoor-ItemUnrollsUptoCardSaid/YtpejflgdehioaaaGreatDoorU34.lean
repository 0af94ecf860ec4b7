/-
  Laws that the card uses; no conditions beside those that each states (ItRWg).
-/
import Derived.Test.YtpejflgdehioaaaGreatDoorU22
import Derived.Test.YtpejflgdehioaaaGreatDoorU28
set_option maxRecDepth 100000
set_option maxHeartbeats 16000000
namespace Go.Proofs.YtpejflgdehioaaaGreatDoor
namespace ItW
open Go Go.RowKit NumM LexW LexM ExM ExW ItM
theorem wrongR_any (x:It) (a4 a7 a8 a9 a10 a11:Value) (N d:Nat) (hd:d≤1000) (w:World) (h:IV N w a4 a7 a8 a9 a10 a11 x) (hN:N≤w.heap.size) (hsz:sz x.e≤10000) :
  Calls Tryz.prog 77 #[iv x.kd x.e.op x.e.n x.e.nm a4 x.nm x.ix a7 a8 a9 a10 a11,.int .i64 d] w (tInt (fltI d x) w):=by
 have UC0:=(fun (hk:kindB x.kd=true) (W:World) (hW:Below w.heap.size w W)=>unusedR_any x a4 a7 a8 a9 a10 a11 N W (h.under (hW.mono hN)) (by have:=hW.size;omega) hsz hk);have DC0:=(fun (W:World) (hW:Below w.heap.size w W)=>distR_any x a4 a7 a8 a9 a10 a11 N W (h.under (hW.mono hN)) (by have:=hW.size;omega));have BC0:=(fun (W:World) (hW:Below w.heap.size w W)=>varsR_any x.bf a10 N W (h.bfs.under (hW.mono hN)) (by have:=hW.size;omega));have AC0:=(fun (W:World) (hW:Below w.heap.size w W)=>varsR_any x.af a11 N W (h.afs.under (hW.mono hN)) (by have:=hW.size;omega));have VC0:=(fun (W:World) (hW:Below w.heap.size w W)=>validR_any x.e _ W ((h.ex.under (hW.mono hN)).wide (by have:=hW.size;omega)) hsz);have NC0:=(fun (W:World)=>nameR_any x.nm W h.nm);have IC0:=(fun (W:World)=>nameR_any x.ix W h.ix);obtain⟨kd,o,n,en,p4,k4,c4,nm,ix,p7,k7,c7,p8,k8,c8,p9,k9,c9,p10,k10,c10,p11,k11,c11,ev,hv⟩:=h.open_;have ev2:=ev;simp only [Value.agg.injEq,Array.mk.injEq,List.cons.injEq] at ev2;obtain⟨-,-,-,-,rfl,-,-,rfl,rfl,rfl,rfl,rfl,-⟩:=ev2;rw [ev] at UC0 DC0 ⊢;obtain⟨e0,e1,e2,e3,e5,e6,l4,l7,l8,l9,l10,l11,-⟩:=hv;rw [e0] at UC0;rw [e1,e2,e3] at VC0;rw [e5] at NC0;rw [e6] at IC0;have FE:Hid (fltI d x=if (!kindB kd||(!freeB x||(decide (4<d)||(decide (0<d)&&outK kd))))=true then 1
  else if kd=3 then distE x
  else if kd=6 then (if k10=0∨k11=0 then 1 else if x.bf.any noVar=true∨x.af.any noVar=true then 7 else 0)
  else if kd=5 then (if nmB nm.data.toList=true∧nmB ix.data.toList=true then 0 else 7)
  else vld x.e):=Lh (by unfold fltI solveE nameB;rw [e0,e5,e6,l10,l11])
 have UC:=Lh UC0;have DC:=Lh DC0;have BC:=Lh BC0;have AC:=Lh AC0;have VC:=Lh VC0;have NC:=Lh NC0;have IC:=Lh IC0;clear h ev e0 e1 e2 e3 e5 e6 l4 l7 l8 l9 l10 l11 UC0 DC0 BC0 AC0 VC0 NC0 IC0 hN hsz;have F0:=Blk.new w (ics kd o n en (.slice p4 k4 c4) nm ix (.slice p7 k7 c7) (.slice p8 k8 c8) (.slice p9 k9 c9) (.slice p10 k10 c10) (.slice p11 k11 c11)) 55;have HB:=Lh (ba w (.cells (ics kd o n en (.slice p4 k4 c4) nm ix (.slice p7 k7 c7) (.slice p8 k8 c8) (.slice p9 k9 c9) (.slice p10 k10 c10) (.slice p11 k11 c11)).toArray 55));have HF:=Lh F0;have d0:=F0.c 0 _ rfl;have d1:=F0.c 1 _ rfl;have d2:=F0.c 2 _ rfl;have d3:=F0.c 3 _ rfl;have d4:=F0.c 4 _ rfl;have d5:=F0.c 5 _ rfl;have d6:=F0.c 6 _ rfl;have d7:=F0.c 7 _ rfl;have d8:=F0.c 8 _ rfl;have d9:=F0.c 9 _ rfl;have d10:=F0.c 10 _ rfl;have d11:=F0.c 11 _ rfl;clear F0;generalize fltI d x=R at *
 generalize freeB x=u at *
 generalize distE x=D at *
 generalize x.bf.any noVar=ub at *
 generalize x.af.any noVar=ua at *
 generalize nmB nm.data.toList=qn at *
 generalize nmB ix.data.toList=qi at *
 generalize vld x.e=V at *
 cases hkb:kindB kd
 ·by_cases h1:kd<1
  ·rw [hkb] at FE;clear hkb;have E:Hid (R=1):=Lh (by rw [FE.out];simp [*]);clear FE
   go_enter Tryz.func77,Tryz.ntmps77
   go_wp2;go_ret;exact tInt_mk E.out HB.out
  ·have h6:6<kd:=(by unfold kindB at hkb;rw [Bool.and_eq_false_iff,decide_eq_false_iff_not,decide_eq_false_iff_not] at hkb;omega);rw [hkb] at FE;clear hkb;have E:Hid (R=1):=Lh (by rw [FE.out];simp [*]);clear FE
   go_enter Tryz.func77,Tryz.ntmps77
   go_wp2;go_ret;exact tInt_mk E.out HB.out
 ·have hk16:1≤kd∧kd≤6:=by
   unfold kindB at hkb;rw [Bool.and_eq_true,decide_eq_true_eq,decide_eq_true_eq] at hkb;exact hkb
  have n1:¬ kd<1:=(by omega);have n6:¬ 6<kd:=(by omega);have HKB:=Lh hkb;rw [hkb] at FE;clear hkb;cases u
  ·have E:Hid (R=1):=Lh (by rw [FE.out];simp [*]);clear FE
   go_enter Tryz.func77,Tryz.ntmps77
   go_wp2_with (first
    | (go_at_call 119;((with_reducible refine (UC.out HKB.out _ HB.out).mono ?_);rintro e w1 ⟨rfl,hb⟩;have HB1:=Lh (HB.out.then_ hb);have F1:=HF.out.stay hb;(try clear d0);(try clear d1);(try clear d2);(try clear d3);(try clear d4);(try clear d5);(try clear d6);(try clear d7);(try clear d8);(try clear d9);(try clear d10);(try clear d11);have d0:=F1.c 0 _ rfl;have d1:=F1.c 1 _ rfl;have d2:=F1.c 2 _ rfl;have d3:=F1.c 3 _ rfl;have d4:=F1.c 4 _ rfl;have d5:=F1.c 5 _ rfl;have d6:=F1.c 6 _ rfl;have d7:=F1.c 7 _ rfl;have d8:=F1.c 8 _ rfl;have d9:=F1.c 9 _ rfl;have d10:=F1.c 10 _ rfl;have d11:=F1.c 11 _ rfl;have G1:=Lh F1;clear hb F1)))
   go_ret;exact tInt_mk E.out HB1.out
  ·by_cases h4:4<d
   ·have E:Hid (R=1):=Lh (by rw [FE.out];simp [*]);clear FE
    go_enter Tryz.func77,Tryz.ntmps77
    go_wp2_with (first
     | (go_at_call 119;((with_reducible refine (UC.out HKB.out _ HB.out).mono ?_);rintro e w1 ⟨rfl,hb⟩;have HB1:=Lh (HB.out.then_ hb);have F1:=HF.out.stay hb;(try clear d0);(try clear d1);(try clear d2);(try clear d3);(try clear d4);(try clear d5);(try clear d6);(try clear d7);(try clear d8);(try clear d9);(try clear d10);(try clear d11);have d0:=F1.c 0 _ rfl;have d1:=F1.c 1 _ rfl;have d2:=F1.c 2 _ rfl;have d3:=F1.c 3 _ rfl;have d4:=F1.c 4 _ rfl;have d5:=F1.c 5 _ rfl;have d6:=F1.c 6 _ rfl;have d7:=F1.c 7 _ rfl;have d8:=F1.c 8 _ rfl;have d9:=F1.c 9 _ rfl;have d10:=F1.c 10 _ rfl;have d11:=F1.c 11 _ rfl;have G1:=Lh F1;clear hb F1)))
    go_ret;exact tInt_mk E.out HB1.out
   ·have n4:decide ((4:Int)<(d:Int))=false:=decide_eq_false (by omega);by_cases h3:kd=3
    ·subst h3;by_cases h0:d=0
     ·subst h0;have E:Hid (R=D):=Lh (by rw [FE.out];simp [*]);clear FE
      go_enter Tryz.func77,Tryz.ntmps77
      go_wp2_with (first
       | (go_at_call 119;((with_reducible refine (UC.out HKB.out _ HB.out).mono ?_);rintro e w1 ⟨rfl,hb⟩;have HB1:=Lh (HB.out.then_ hb);have F1:=HF.out.stay hb;(try clear d0);(try clear d1);(try clear d2);(try clear d3);(try clear d4);(try clear d5);(try clear d6);(try clear d7);(try clear d8);(try clear d9);(try clear d10);(try clear d11);have d0:=F1.c 0 _ rfl;have d1:=F1.c 1 _ rfl;have d2:=F1.c 2 _ rfl;have d3:=F1.c 3 _ rfl;have d4:=F1.c 4 _ rfl;have d5:=F1.c 5 _ rfl;have d6:=F1.c 6 _ rfl;have d7:=F1.c 7 _ rfl;have d8:=F1.c 8 _ rfl;have d9:=F1.c 9 _ rfl;have d10:=F1.c 10 _ rfl;have d11:=F1.c 11 _ rfl;have G1:=Lh F1;clear hb F1))
       | (go_at_call 120;((with_reducible refine (DC.out _ HB1.out).mono ?_);rintro e w2 ⟨rfl,hb⟩;have HB2:=Lh (HB1.out.then_ hb);have F1:=G1.out.stay hb;(try clear d0);(try clear d1);(try clear d2);(try clear d3);(try clear d4);(try clear d5);(try clear d6);(try clear d7);(try clear d8);(try clear d9);(try clear d10);(try clear d11);have d0:=F1.c 0 _ rfl;have d1:=F1.c 1 _ rfl;have d2:=F1.c 2 _ rfl;have d3:=F1.c 3 _ rfl;have d4:=F1.c 4 _ rfl;have d5:=F1.c 5 _ rfl;have d6:=F1.c 6 _ rfl;have d7:=F1.c 7 _ rfl;have d8:=F1.c 8 _ rfl;have d9:=F1.c 9 _ rfl;have d10:=F1.c 10 _ rfl;have d11:=F1.c 11 _ rfl;have G2:=Lh F1;clear hb F1)))
      go_ret;exact tInt_mk E.out HB2.out
     ·have g0:0<d:=(by omega);have o3:outK 3=true:=rfl;have E:Hid (R=1):=Lh (by rw [FE.out];simp [*]);clear FE
      go_enter Tryz.func77,Tryz.ntmps77
      go_wp2_with (first
       | (go_at_call 119;((with_reducible refine (UC.out HKB.out _ HB.out).mono ?_);rintro e w1 ⟨rfl,hb⟩;have HB1:=Lh (HB.out.then_ hb);have F1:=HF.out.stay hb;(try clear d0);(try clear d1);(try clear d2);(try clear d3);(try clear d4);(try clear d5);(try clear d6);(try clear d7);(try clear d8);(try clear d9);(try clear d10);(try clear d11);have d0:=F1.c 0 _ rfl;have d1:=F1.c 1 _ rfl;have d2:=F1.c 2 _ rfl;have d3:=F1.c 3 _ rfl;have d4:=F1.c 4 _ rfl;have d5:=F1.c 5 _ rfl;have d6:=F1.c 6 _ rfl;have d7:=F1.c 7 _ rfl;have d8:=F1.c 8 _ rfl;have d9:=F1.c 9 _ rfl;have d10:=F1.c 10 _ rfl;have d11:=F1.c 11 _ rfl;have G1:=Lh F1;clear hb F1)))
      go_ret;exact tInt_mk E.out HB1.out
    ·have f3:(kd == 3)=false:=(by rw [beq_eq_false_iff_ne];exact h3);by_cases h6:kd=6
     ·subst h6;by_cases h0:d=0
      ·subst h0;by_cases hb0:k10=0
       ·subst hb0;have o6:outK 6=true:=rfl;have E:Hid (R=1):=Lh (by rw [FE.out];simp [*]);clear FE
        go_enter Tryz.func77,Tryz.ntmps77
        go_wp2_with (first
         | (go_at_call 119;((with_reducible refine (UC.out HKB.out _ HB.out).mono ?_);rintro e w1 ⟨rfl,hb⟩;have HB1:=Lh (HB.out.then_ hb);have F1:=HF.out.stay hb;(try clear d0);(try clear d1);(try clear d2);(try clear d3);(try clear d4);(try clear d5);(try clear d6);(try clear d7);(try clear d8);(try clear d9);(try clear d10);(try clear d11);have d0:=F1.c 0 _ rfl;have d1:=F1.c 1 _ rfl;have d2:=F1.c 2 _ rfl;have d3:=F1.c 3 _ rfl;have d4:=F1.c 4 _ rfl;have d5:=F1.c 5 _ rfl;have d6:=F1.c 6 _ rfl;have d7:=F1.c 7 _ rfl;have d8:=F1.c 8 _ rfl;have d9:=F1.c 9 _ rfl;have d10:=F1.c 10 _ rfl;have d11:=F1.c 11 _ rfl;have G1:=Lh F1;clear hb F1)))
        go_ret;exact tInt_mk E.out HB1.out
       ·have b10:((k10:Int) == 0)=false:=(by rw [beq_eq_false_iff_ne];omega);by_cases ha0:k11=0
        ·subst ha0;have o6:outK 6=true:=rfl;have E:Hid (R=1):=Lh (by rw [FE.out];simp [*]);clear FE
         go_enter Tryz.func77,Tryz.ntmps77
         go_wp2_with (first
          | (go_at_call 119;((with_reducible refine (UC.out HKB.out _ HB.out).mono ?_);rintro e w1 ⟨rfl,hb⟩;have HB1:=Lh (HB.out.then_ hb);have F1:=HF.out.stay hb;(try clear d0);(try clear d1);(try clear d2);(try clear d3);(try clear d4);(try clear d5);(try clear d6);(try clear d7);(try clear d8);(try clear d9);(try clear d10);(try clear d11);have d0:=F1.c 0 _ rfl;have d1:=F1.c 1 _ rfl;have d2:=F1.c 2 _ rfl;have d3:=F1.c 3 _ rfl;have d4:=F1.c 4 _ rfl;have d5:=F1.c 5 _ rfl;have d6:=F1.c 6 _ rfl;have d7:=F1.c 7 _ rfl;have d8:=F1.c 8 _ rfl;have d9:=F1.c 9 _ rfl;have d10:=F1.c 10 _ rfl;have d11:=F1.c 11 _ rfl;have G1:=Lh F1;clear hb F1)))
         go_ret;exact tInt_mk E.out HB1.out
        ·have b11:((k11:Int) == 0)=false:=(by rw [beq_eq_false_iff_ne];omega);cases ub
         ·cases ua
          ·have o6:outK 6=true:=rfl;have E:Hid (R=0):=Lh (by rw [FE.out];simp [*]);clear FE
           go_enter Tryz.func77,Tryz.ntmps77
           go_wp2_with (first
            | (go_at_call 119;((with_reducible refine (UC.out HKB.out _ HB.out).mono ?_);rintro e w1 ⟨rfl,hb⟩;have HB1:=Lh (HB.out.then_ hb);have F1:=HF.out.stay hb;(try clear d0);(try clear d1);(try clear d2);(try clear d3);(try clear d4);(try clear d5);(try clear d6);(try clear d7);(try clear d8);(try clear d9);(try clear d10);(try clear d11);have d0:=F1.c 0 _ rfl;have d1:=F1.c 1 _ rfl;have d2:=F1.c 2 _ rfl;have d3:=F1.c 3 _ rfl;have d4:=F1.c 4 _ rfl;have d5:=F1.c 5 _ rfl;have d6:=F1.c 6 _ rfl;have d7:=F1.c 7 _ rfl;have d8:=F1.c 8 _ rfl;have d9:=F1.c 9 _ rfl;have d10:=F1.c 10 _ rfl;have d11:=F1.c 11 _ rfl;have G1:=Lh F1;clear hb F1))
            | (go_at_call 121;((with_reducible refine (BC.out _ HB1.out).mono ?_);rintro e w2 ⟨rfl,hb⟩;have HB2:=Lh (HB1.out.then_ hb);have F1:=G1.out.stay hb;(try clear d0);(try clear d1);(try clear d2);(try clear d3);(try clear d4);(try clear d5);(try clear d6);(try clear d7);(try clear d8);(try clear d9);(try clear d10);(try clear d11);have d0:=F1.c 0 _ rfl;have d1:=F1.c 1 _ rfl;have d2:=F1.c 2 _ rfl;have d3:=F1.c 3 _ rfl;have d4:=F1.c 4 _ rfl;have d5:=F1.c 5 _ rfl;have d6:=F1.c 6 _ rfl;have d7:=F1.c 7 _ rfl;have d8:=F1.c 8 _ rfl;have d9:=F1.c 9 _ rfl;have d10:=F1.c 10 _ rfl;have d11:=F1.c 11 _ rfl;have G2:=Lh F1;clear hb F1))
            | (go_at_call 121;((with_reducible refine (AC.out _ HB2.out).mono ?_);rintro e w3 ⟨rfl,hb⟩;have HB3:=Lh (HB2.out.then_ hb);have F1:=G2.out.stay hb;(try clear d0);(try clear d1);(try clear d2);(try clear d3);(try clear d4);(try clear d5);(try clear d6);(try clear d7);(try clear d8);(try clear d9);(try clear d10);(try clear d11);have d0:=F1.c 0 _ rfl;have d1:=F1.c 1 _ rfl;have d2:=F1.c 2 _ rfl;have d3:=F1.c 3 _ rfl;have d4:=F1.c 4 _ rfl;have d5:=F1.c 5 _ rfl;have d6:=F1.c 6 _ rfl;have d7:=F1.c 7 _ rfl;have d8:=F1.c 8 _ rfl;have d9:=F1.c 9 _ rfl;have d10:=F1.c 10 _ rfl;have d11:=F1.c 11 _ rfl;have G3:=Lh F1;clear hb F1)))
           go_ret;exact tInt_mk E.out HB3.out
          ·have o6:outK 6=true:=rfl;have E:Hid (R=7):=Lh (by rw [FE.out];simp [*]);clear FE
           go_enter Tryz.func77,Tryz.ntmps77
           go_wp2_with (first
            | (go_at_call 119;((with_reducible refine (UC.out HKB.out _ HB.out).mono ?_);rintro e w1 ⟨rfl,hb⟩;have HB1:=Lh (HB.out.then_ hb);have F1:=HF.out.stay hb;(try clear d0);(try clear d1);(try clear d2);(try clear d3);(try clear d4);(try clear d5);(try clear d6);(try clear d7);(try clear d8);(try clear d9);(try clear d10);(try clear d11);have d0:=F1.c 0 _ rfl;have d1:=F1.c 1 _ rfl;have d2:=F1.c 2 _ rfl;have d3:=F1.c 3 _ rfl;have d4:=F1.c 4 _ rfl;have d5:=F1.c 5 _ rfl;have d6:=F1.c 6 _ rfl;have d7:=F1.c 7 _ rfl;have d8:=F1.c 8 _ rfl;have d9:=F1.c 9 _ rfl;have d10:=F1.c 10 _ rfl;have d11:=F1.c 11 _ rfl;have G1:=Lh F1;clear hb F1))
            | (go_at_call 121;((with_reducible refine (BC.out _ HB1.out).mono ?_);rintro e w2 ⟨rfl,hb⟩;have HB2:=Lh (HB1.out.then_ hb);have F1:=G1.out.stay hb;(try clear d0);(try clear d1);(try clear d2);(try clear d3);(try clear d4);(try clear d5);(try clear d6);(try clear d7);(try clear d8);(try clear d9);(try clear d10);(try clear d11);have d0:=F1.c 0 _ rfl;have d1:=F1.c 1 _ rfl;have d2:=F1.c 2 _ rfl;have d3:=F1.c 3 _ rfl;have d4:=F1.c 4 _ rfl;have d5:=F1.c 5 _ rfl;have d6:=F1.c 6 _ rfl;have d7:=F1.c 7 _ rfl;have d8:=F1.c 8 _ rfl;have d9:=F1.c 9 _ rfl;have d10:=F1.c 10 _ rfl;have d11:=F1.c 11 _ rfl;have G2:=Lh F1;clear hb F1))
            | (go_at_call 121;((with_reducible refine (AC.out _ HB2.out).mono ?_);rintro e w3 ⟨rfl,hb⟩;have HB3:=Lh (HB2.out.then_ hb);have F1:=G2.out.stay hb;(try clear d0);(try clear d1);(try clear d2);(try clear d3);(try clear d4);(try clear d5);(try clear d6);(try clear d7);(try clear d8);(try clear d9);(try clear d10);(try clear d11);have d0:=F1.c 0 _ rfl;have d1:=F1.c 1 _ rfl;have d2:=F1.c 2 _ rfl;have d3:=F1.c 3 _ rfl;have d4:=F1.c 4 _ rfl;have d5:=F1.c 5 _ rfl;have d6:=F1.c 6 _ rfl;have d7:=F1.c 7 _ rfl;have d8:=F1.c 8 _ rfl;have d9:=F1.c 9 _ rfl;have d10:=F1.c 10 _ rfl;have d11:=F1.c 11 _ rfl;have G3:=Lh F1;clear hb F1)))
           go_ret;exact tInt_mk E.out HB3.out
         ·have o6:outK 6=true:=rfl;have E:Hid (R=7):=Lh (by rw [FE.out];simp [*]);clear FE
          go_enter Tryz.func77,Tryz.ntmps77
          go_wp2_with (first
           | (go_at_call 119;((with_reducible refine (UC.out HKB.out _ HB.out).mono ?_);rintro e w1 ⟨rfl,hb⟩;have HB1:=Lh (HB.out.then_ hb);have F1:=HF.out.stay hb;(try clear d0);(try clear d1);(try clear d2);(try clear d3);(try clear d4);(try clear d5);(try clear d6);(try clear d7);(try clear d8);(try clear d9);(try clear d10);(try clear d11);have d0:=F1.c 0 _ rfl;have d1:=F1.c 1 _ rfl;have d2:=F1.c 2 _ rfl;have d3:=F1.c 3 _ rfl;have d4:=F1.c 4 _ rfl;have d5:=F1.c 5 _ rfl;have d6:=F1.c 6 _ rfl;have d7:=F1.c 7 _ rfl;have d8:=F1.c 8 _ rfl;have d9:=F1.c 9 _ rfl;have d10:=F1.c 10 _ rfl;have d11:=F1.c 11 _ rfl;have G1:=Lh F1;clear hb F1))
           | (go_at_call 121;((with_reducible refine (BC.out _ HB1.out).mono ?_);rintro e w2 ⟨rfl,hb⟩;have HB2:=Lh (HB1.out.then_ hb);have F1:=G1.out.stay hb;(try clear d0);(try clear d1);(try clear d2);(try clear d3);(try clear d4);(try clear d5);(try clear d6);(try clear d7);(try clear d8);(try clear d9);(try clear d10);(try clear d11);have d0:=F1.c 0 _ rfl;have d1:=F1.c 1 _ rfl;have d2:=F1.c 2 _ rfl;have d3:=F1.c 3 _ rfl;have d4:=F1.c 4 _ rfl;have d5:=F1.c 5 _ rfl;have d6:=F1.c 6 _ rfl;have d7:=F1.c 7 _ rfl;have d8:=F1.c 8 _ rfl;have d9:=F1.c 9 _ rfl;have d10:=F1.c 10 _ rfl;have d11:=F1.c 11 _ rfl;have G2:=Lh F1;clear hb F1)))
          go_ret;exact tInt_mk E.out HB2.out
      ·have g0:0<d:=(by omega);have o6:outK 6=true:=rfl;have E:Hid (R=1):=Lh (by rw [FE.out];simp [*]);clear FE
       go_enter Tryz.func77,Tryz.ntmps77
       go_wp2_with (first
        | (go_at_call 119;((with_reducible refine (UC.out HKB.out _ HB.out).mono ?_);rintro e w1 ⟨rfl,hb⟩;have HB1:=Lh (HB.out.then_ hb);have F1:=HF.out.stay hb;(try clear d0);(try clear d1);(try clear d2);(try clear d3);(try clear d4);(try clear d5);(try clear d6);(try clear d7);(try clear d8);(try clear d9);(try clear d10);(try clear d11);have d0:=F1.c 0 _ rfl;have d1:=F1.c 1 _ rfl;have d2:=F1.c 2 _ rfl;have d3:=F1.c 3 _ rfl;have d4:=F1.c 4 _ rfl;have d5:=F1.c 5 _ rfl;have d6:=F1.c 6 _ rfl;have d7:=F1.c 7 _ rfl;have d8:=F1.c 8 _ rfl;have d9:=F1.c 9 _ rfl;have d10:=F1.c 10 _ rfl;have d11:=F1.c 11 _ rfl;have G1:=Lh F1;clear hb F1)))
       go_ret;exact tInt_mk E.out HB1.out
     ·have f6:(kd == 6)=false:=(by rw [beq_eq_false_iff_ne];exact h6);have oK:outK kd=false:=(by unfold outK;rw [decide_eq_false h3,decide_eq_false h6];rfl);by_cases h5:kd=5
      ·subst h5;by_cases h0:d=0
       ·subst h0;cases qn
        ·have o5:outK 5=false:=rfl;have E:Hid (R=7):=Lh (by rw [FE.out];simp [*]);clear FE
         go_enter Tryz.func77,Tryz.ntmps77
         go_wp2_with (first
          | (go_at_call 119;((with_reducible refine (UC.out HKB.out _ HB.out).mono ?_);rintro e w1 ⟨rfl,hb⟩;have HB1:=Lh (HB.out.then_ hb);have F1:=HF.out.stay hb;(try clear d0);(try clear d1);(try clear d2);(try clear d3);(try clear d4);(try clear d5);(try clear d6);(try clear d7);(try clear d8);(try clear d9);(try clear d10);(try clear d11);have d0:=F1.c 0 _ rfl;have d1:=F1.c 1 _ rfl;have d2:=F1.c 2 _ rfl;have d3:=F1.c 3 _ rfl;have d4:=F1.c 4 _ rfl;have d5:=F1.c 5 _ rfl;have d6:=F1.c 6 _ rfl;have d7:=F1.c 7 _ rfl;have d8:=F1.c 8 _ rfl;have d9:=F1.c 9 _ rfl;have d10:=F1.c 10 _ rfl;have d11:=F1.c 11 _ rfl;have G1:=Lh F1;clear hb F1))
          | (go_at_call 42;((with_reducible refine (NC.out _).mono ?_);rintro e w2 ⟨rfl,hb⟩;have HB2:=Lh (HB1.out.then_ hb);have F1:=G1.out.stay hb;(try clear d0);(try clear d1);(try clear d2);(try clear d3);(try clear d4);(try clear d5);(try clear d6);(try clear d7);(try clear d8);(try clear d9);(try clear d10);(try clear d11);have d0:=F1.c 0 _ rfl;have d1:=F1.c 1 _ rfl;have d2:=F1.c 2 _ rfl;have d3:=F1.c 3 _ rfl;have d4:=F1.c 4 _ rfl;have d5:=F1.c 5 _ rfl;have d6:=F1.c 6 _ rfl;have d7:=F1.c 7 _ rfl;have d8:=F1.c 8 _ rfl;have d9:=F1.c 9 _ rfl;have d10:=F1.c 10 _ rfl;have d11:=F1.c 11 _ rfl;have G2:=Lh F1;clear hb F1)))
         go_ret;exact tInt_mk E.out HB2.out
        ·cases qi
         ·have o5:outK 5=false:=rfl;have E:Hid (R=7):=Lh (by rw [FE.out];simp [*]);clear FE
          go_enter Tryz.func77,Tryz.ntmps77
          go_wp2_with (first
           | (go_at_call 119;((with_reducible refine (UC.out HKB.out _ HB.out).mono ?_);rintro e w1 ⟨rfl,hb⟩;have HB1:=Lh (HB.out.then_ hb);have F1:=HF.out.stay hb;(try clear d0);(try clear d1);(try clear d2);(try clear d3);(try clear d4);(try clear d5);(try clear d6);(try clear d7);(try clear d8);(try clear d9);(try clear d10);(try clear d11);have d0:=F1.c 0 _ rfl;have d1:=F1.c 1 _ rfl;have d2:=F1.c 2 _ rfl;have d3:=F1.c 3 _ rfl;have d4:=F1.c 4 _ rfl;have d5:=F1.c 5 _ rfl;have d6:=F1.c 6 _ rfl;have d7:=F1.c 7 _ rfl;have d8:=F1.c 8 _ rfl;have d9:=F1.c 9 _ rfl;have d10:=F1.c 10 _ rfl;have d11:=F1.c 11 _ rfl;have G1:=Lh F1;clear hb F1))
           | (go_at_call 42;((with_reducible refine (NC.out _).mono ?_);rintro e w2 ⟨rfl,hb⟩;have HB2:=Lh (HB1.out.then_ hb);have F1:=G1.out.stay hb;(try clear d0);(try clear d1);(try clear d2);(try clear d3);(try clear d4);(try clear d5);(try clear d6);(try clear d7);(try clear d8);(try clear d9);(try clear d10);(try clear d11);have d0:=F1.c 0 _ rfl;have d1:=F1.c 1 _ rfl;have d2:=F1.c 2 _ rfl;have d3:=F1.c 3 _ rfl;have d4:=F1.c 4 _ rfl;have d5:=F1.c 5 _ rfl;have d6:=F1.c 6 _ rfl;have d7:=F1.c 7 _ rfl;have d8:=F1.c 8 _ rfl;have d9:=F1.c 9 _ rfl;have d10:=F1.c 10 _ rfl;have d11:=F1.c 11 _ rfl;have G2:=Lh F1;clear hb F1))
           | (go_at_call 42;((with_reducible refine (IC.out _).mono ?_);rintro e w3 ⟨rfl,hb⟩;have HB3:=Lh (HB2.out.then_ hb);have F1:=G2.out.stay hb;(try clear d0);(try clear d1);(try clear d2);(try clear d3);(try clear d4);(try clear d5);(try clear d6);(try clear d7);(try clear d8);(try clear d9);(try clear d10);(try clear d11);have d0:=F1.c 0 _ rfl;have d1:=F1.c 1 _ rfl;have d2:=F1.c 2 _ rfl;have d3:=F1.c 3 _ rfl;have d4:=F1.c 4 _ rfl;have d5:=F1.c 5 _ rfl;have d6:=F1.c 6 _ rfl;have d7:=F1.c 7 _ rfl;have d8:=F1.c 8 _ rfl;have d9:=F1.c 9 _ rfl;have d10:=F1.c 10 _ rfl;have d11:=F1.c 11 _ rfl;have G3:=Lh F1;clear hb F1)))
          go_ret;exact tInt_mk E.out HB3.out
         ·have o5:outK 5=false:=rfl;have E:Hid (R=0):=Lh (by rw [FE.out];simp [*]);clear FE
          go_enter Tryz.func77,Tryz.ntmps77
          go_wp2_with (first
           | (go_at_call 119;((with_reducible refine (UC.out HKB.out _ HB.out).mono ?_);rintro e w1 ⟨rfl,hb⟩;have HB1:=Lh (HB.out.then_ hb);have F1:=HF.out.stay hb;(try clear d0);(try clear d1);(try clear d2);(try clear d3);(try clear d4);(try clear d5);(try clear d6);(try clear d7);(try clear d8);(try clear d9);(try clear d10);(try clear d11);have d0:=F1.c 0 _ rfl;have d1:=F1.c 1 _ rfl;have d2:=F1.c 2 _ rfl;have d3:=F1.c 3 _ rfl;have d4:=F1.c 4 _ rfl;have d5:=F1.c 5 _ rfl;have d6:=F1.c 6 _ rfl;have d7:=F1.c 7 _ rfl;have d8:=F1.c 8 _ rfl;have d9:=F1.c 9 _ rfl;have d10:=F1.c 10 _ rfl;have d11:=F1.c 11 _ rfl;have G1:=Lh F1;clear hb F1))
           | (go_at_call 42;((with_reducible refine (NC.out _).mono ?_);rintro e w2 ⟨rfl,hb⟩;have HB2:=Lh (HB1.out.then_ hb);have F1:=G1.out.stay hb;(try clear d0);(try clear d1);(try clear d2);(try clear d3);(try clear d4);(try clear d5);(try clear d6);(try clear d7);(try clear d8);(try clear d9);(try clear d10);(try clear d11);have d0:=F1.c 0 _ rfl;have d1:=F1.c 1 _ rfl;have d2:=F1.c 2 _ rfl;have d3:=F1.c 3 _ rfl;have d4:=F1.c 4 _ rfl;have d5:=F1.c 5 _ rfl;have d6:=F1.c 6 _ rfl;have d7:=F1.c 7 _ rfl;have d8:=F1.c 8 _ rfl;have d9:=F1.c 9 _ rfl;have d10:=F1.c 10 _ rfl;have d11:=F1.c 11 _ rfl;have G2:=Lh F1;clear hb F1))
           | (go_at_call 42;((with_reducible refine (IC.out _).mono ?_);rintro e w3 ⟨rfl,hb⟩;have HB3:=Lh (HB2.out.then_ hb);have F1:=G2.out.stay hb;(try clear d0);(try clear d1);(try clear d2);(try clear d3);(try clear d4);(try clear d5);(try clear d6);(try clear d7);(try clear d8);(try clear d9);(try clear d10);(try clear d11);have d0:=F1.c 0 _ rfl;have d1:=F1.c 1 _ rfl;have d2:=F1.c 2 _ rfl;have d3:=F1.c 3 _ rfl;have d4:=F1.c 4 _ rfl;have d5:=F1.c 5 _ rfl;have d6:=F1.c 6 _ rfl;have d7:=F1.c 7 _ rfl;have d8:=F1.c 8 _ rfl;have d9:=F1.c 9 _ rfl;have d10:=F1.c 10 _ rfl;have d11:=F1.c 11 _ rfl;have G3:=Lh F1;clear hb F1)))
          go_ret;exact tInt_mk E.out HB3.out
       ·have g0:0<d:=(by omega);cases qn
        ·have o5:outK 5=false:=rfl;have E:Hid (R=7):=Lh (by rw [FE.out];simp [*]);clear FE
         go_enter Tryz.func77,Tryz.ntmps77
         go_wp2_with (first
          | (go_at_call 119;((with_reducible refine (UC.out HKB.out _ HB.out).mono ?_);rintro e w1 ⟨rfl,hb⟩;have HB1:=Lh (HB.out.then_ hb);have F1:=HF.out.stay hb;(try clear d0);(try clear d1);(try clear d2);(try clear d3);(try clear d4);(try clear d5);(try clear d6);(try clear d7);(try clear d8);(try clear d9);(try clear d10);(try clear d11);have d0:=F1.c 0 _ rfl;have d1:=F1.c 1 _ rfl;have d2:=F1.c 2 _ rfl;have d3:=F1.c 3 _ rfl;have d4:=F1.c 4 _ rfl;have d5:=F1.c 5 _ rfl;have d6:=F1.c 6 _ rfl;have d7:=F1.c 7 _ rfl;have d8:=F1.c 8 _ rfl;have d9:=F1.c 9 _ rfl;have d10:=F1.c 10 _ rfl;have d11:=F1.c 11 _ rfl;have G1:=Lh F1;clear hb F1))
          | (go_at_call 42;((with_reducible refine (NC.out _).mono ?_);rintro e w2 ⟨rfl,hb⟩;have HB2:=Lh (HB1.out.then_ hb);have F1:=G1.out.stay hb;(try clear d0);(try clear d1);(try clear d2);(try clear d3);(try clear d4);(try clear d5);(try clear d6);(try clear d7);(try clear d8);(try clear d9);(try clear d10);(try clear d11);have d0:=F1.c 0 _ rfl;have d1:=F1.c 1 _ rfl;have d2:=F1.c 2 _ rfl;have d3:=F1.c 3 _ rfl;have d4:=F1.c 4 _ rfl;have d5:=F1.c 5 _ rfl;have d6:=F1.c 6 _ rfl;have d7:=F1.c 7 _ rfl;have d8:=F1.c 8 _ rfl;have d9:=F1.c 9 _ rfl;have d10:=F1.c 10 _ rfl;have d11:=F1.c 11 _ rfl;have G2:=Lh F1;clear hb F1)))
         go_ret;exact tInt_mk E.out HB2.out
        ·cases qi
         ·have o5:outK 5=false:=rfl;have E:Hid (R=7):=Lh (by rw [FE.out];simp [*]);clear FE
          go_enter Tryz.func77,Tryz.ntmps77
          go_wp2_with (first
           | (go_at_call 119;((with_reducible refine (UC.out HKB.out _ HB.out).mono ?_);rintro e w1 ⟨rfl,hb⟩;have HB1:=Lh (HB.out.then_ hb);have F1:=HF.out.stay hb;(try clear d0);(try clear d1);(try clear d2);(try clear d3);(try clear d4);(try clear d5);(try clear d6);(try clear d7);(try clear d8);(try clear d9);(try clear d10);(try clear d11);have d0:=F1.c 0 _ rfl;have d1:=F1.c 1 _ rfl;have d2:=F1.c 2 _ rfl;have d3:=F1.c 3 _ rfl;have d4:=F1.c 4 _ rfl;have d5:=F1.c 5 _ rfl;have d6:=F1.c 6 _ rfl;have d7:=F1.c 7 _ rfl;have d8:=F1.c 8 _ rfl;have d9:=F1.c 9 _ rfl;have d10:=F1.c 10 _ rfl;have d11:=F1.c 11 _ rfl;have G1:=Lh F1;clear hb F1))
           | (go_at_call 42;((with_reducible refine (NC.out _).mono ?_);rintro e w2 ⟨rfl,hb⟩;have HB2:=Lh (HB1.out.then_ hb);have F1:=G1.out.stay hb;(try clear d0);(try clear d1);(try clear d2);(try clear d3);(try clear d4);(try clear d5);(try clear d6);(try clear d7);(try clear d8);(try clear d9);(try clear d10);(try clear d11);have d0:=F1.c 0 _ rfl;have d1:=F1.c 1 _ rfl;have d2:=F1.c 2 _ rfl;have d3:=F1.c 3 _ rfl;have d4:=F1.c 4 _ rfl;have d5:=F1.c 5 _ rfl;have d6:=F1.c 6 _ rfl;have d7:=F1.c 7 _ rfl;have d8:=F1.c 8 _ rfl;have d9:=F1.c 9 _ rfl;have d10:=F1.c 10 _ rfl;have d11:=F1.c 11 _ rfl;have G2:=Lh F1;clear hb F1))
           | (go_at_call 42;((with_reducible refine (IC.out _).mono ?_);rintro e w3 ⟨rfl,hb⟩;have HB3:=Lh (HB2.out.then_ hb);have F1:=G2.out.stay hb;(try clear d0);(try clear d1);(try clear d2);(try clear d3);(try clear d4);(try clear d5);(try clear d6);(try clear d7);(try clear d8);(try clear d9);(try clear d10);(try clear d11);have d0:=F1.c 0 _ rfl;have d1:=F1.c 1 _ rfl;have d2:=F1.c 2 _ rfl;have d3:=F1.c 3 _ rfl;have d4:=F1.c 4 _ rfl;have d5:=F1.c 5 _ rfl;have d6:=F1.c 6 _ rfl;have d7:=F1.c 7 _ rfl;have d8:=F1.c 8 _ rfl;have d9:=F1.c 9 _ rfl;have d10:=F1.c 10 _ rfl;have d11:=F1.c 11 _ rfl;have G3:=Lh F1;clear hb F1)))
          go_ret;exact tInt_mk E.out HB3.out
         ·have o5:outK 5=false:=rfl;have E:Hid (R=0):=Lh (by rw [FE.out];simp [*]);clear FE
          go_enter Tryz.func77,Tryz.ntmps77
          go_wp2_with (first
           | (go_at_call 119;((with_reducible refine (UC.out HKB.out _ HB.out).mono ?_);rintro e w1 ⟨rfl,hb⟩;have HB1:=Lh (HB.out.then_ hb);have F1:=HF.out.stay hb;(try clear d0);(try clear d1);(try clear d2);(try clear d3);(try clear d4);(try clear d5);(try clear d6);(try clear d7);(try clear d8);(try clear d9);(try clear d10);(try clear d11);have d0:=F1.c 0 _ rfl;have d1:=F1.c 1 _ rfl;have d2:=F1.c 2 _ rfl;have d3:=F1.c 3 _ rfl;have d4:=F1.c 4 _ rfl;have d5:=F1.c 5 _ rfl;have d6:=F1.c 6 _ rfl;have d7:=F1.c 7 _ rfl;have d8:=F1.c 8 _ rfl;have d9:=F1.c 9 _ rfl;have d10:=F1.c 10 _ rfl;have d11:=F1.c 11 _ rfl;have G1:=Lh F1;clear hb F1))
           | (go_at_call 42;((with_reducible refine (NC.out _).mono ?_);rintro e w2 ⟨rfl,hb⟩;have HB2:=Lh (HB1.out.then_ hb);have F1:=G1.out.stay hb;(try clear d0);(try clear d1);(try clear d2);(try clear d3);(try clear d4);(try clear d5);(try clear d6);(try clear d7);(try clear d8);(try clear d9);(try clear d10);(try clear d11);have d0:=F1.c 0 _ rfl;have d1:=F1.c 1 _ rfl;have d2:=F1.c 2 _ rfl;have d3:=F1.c 3 _ rfl;have d4:=F1.c 4 _ rfl;have d5:=F1.c 5 _ rfl;have d6:=F1.c 6 _ rfl;have d7:=F1.c 7 _ rfl;have d8:=F1.c 8 _ rfl;have d9:=F1.c 9 _ rfl;have d10:=F1.c 10 _ rfl;have d11:=F1.c 11 _ rfl;have G2:=Lh F1;clear hb F1))
           | (go_at_call 42;((with_reducible refine (IC.out _).mono ?_);rintro e w3 ⟨rfl,hb⟩;have HB3:=Lh (HB2.out.then_ hb);have F1:=G2.out.stay hb;(try clear d0);(try clear d1);(try clear d2);(try clear d3);(try clear d4);(try clear d5);(try clear d6);(try clear d7);(try clear d8);(try clear d9);(try clear d10);(try clear d11);have d0:=F1.c 0 _ rfl;have d1:=F1.c 1 _ rfl;have d2:=F1.c 2 _ rfl;have d3:=F1.c 3 _ rfl;have d4:=F1.c 4 _ rfl;have d5:=F1.c 5 _ rfl;have d6:=F1.c 6 _ rfl;have d7:=F1.c 7 _ rfl;have d8:=F1.c 8 _ rfl;have d9:=F1.c 9 _ rfl;have d10:=F1.c 10 _ rfl;have d11:=F1.c 11 _ rfl;have G3:=Lh F1;clear hb F1)))
          go_ret;exact tInt_mk E.out HB3.out
      ·have f5:(kd == 5)=false:=(by rw [beq_eq_false_iff_ne];exact h5);by_cases h0:d=0
       ·subst h0;have o5:=oK;have E:Hid (R=V):=Lh (by rw [FE.out];simp [*]);clear FE
        go_enter Tryz.func77,Tryz.ntmps77
        go_wp2_with (first
         | (go_at_call 119;((with_reducible refine (UC.out HKB.out _ HB.out).mono ?_);rintro e w1 ⟨rfl,hb⟩;have HB1:=Lh (HB.out.then_ hb);have F1:=HF.out.stay hb;(try clear d0);(try clear d1);(try clear d2);(try clear d3);(try clear d4);(try clear d5);(try clear d6);(try clear d7);(try clear d8);(try clear d9);(try clear d10);(try clear d11);have d0:=F1.c 0 _ rfl;have d1:=F1.c 1 _ rfl;have d2:=F1.c 2 _ rfl;have d3:=F1.c 3 _ rfl;have d4:=F1.c 4 _ rfl;have d5:=F1.c 5 _ rfl;have d6:=F1.c 6 _ rfl;have d7:=F1.c 7 _ rfl;have d8:=F1.c 8 _ rfl;have d9:=F1.c 9 _ rfl;have d10:=F1.c 10 _ rfl;have d11:=F1.c 11 _ rfl;have G1:=Lh F1;clear hb F1))
         | (go_at_call 51;((with_reducible refine (VC.out _ HB1.out).mono ?_);rintro e w2 ⟨rfl,hb⟩;have HB2:=Lh (HB1.out.then_ hb);have F1:=G1.out.stay hb;(try clear d0);(try clear d1);(try clear d2);(try clear d3);(try clear d4);(try clear d5);(try clear d6);(try clear d7);(try clear d8);(try clear d9);(try clear d10);(try clear d11);have d0:=F1.c 0 _ rfl;have d1:=F1.c 1 _ rfl;have d2:=F1.c 2 _ rfl;have d3:=F1.c 3 _ rfl;have d4:=F1.c 4 _ rfl;have d5:=F1.c 5 _ rfl;have d6:=F1.c 6 _ rfl;have d7:=F1.c 7 _ rfl;have d8:=F1.c 8 _ rfl;have d9:=F1.c 9 _ rfl;have d10:=F1.c 10 _ rfl;have d11:=F1.c 11 _ rfl;have G2:=Lh F1;clear hb F1)))
        go_ret;exact tInt_mk E.out HB2.out
       ·have g0:0<d:=(by omega);have o5:=oK;have E:Hid (R=V):=Lh (by rw [FE.out];simp [*]);clear FE
        go_enter Tryz.func77,Tryz.ntmps77
        go_wp2_with (first
         | (go_at_call 119;((with_reducible refine (UC.out HKB.out _ HB.out).mono ?_);rintro e w1 ⟨rfl,hb⟩;have HB1:=Lh (HB.out.then_ hb);have F1:=HF.out.stay hb;(try clear d0);(try clear d1);(try clear d2);(try clear d3);(try clear d4);(try clear d5);(try clear d6);(try clear d7);(try clear d8);(try clear d9);(try clear d10);(try clear d11);have d0:=F1.c 0 _ rfl;have d1:=F1.c 1 _ rfl;have d2:=F1.c 2 _ rfl;have d3:=F1.c 3 _ rfl;have d4:=F1.c 4 _ rfl;have d5:=F1.c 5 _ rfl;have d6:=F1.c 6 _ rfl;have d7:=F1.c 7 _ rfl;have d8:=F1.c 8 _ rfl;have d9:=F1.c 9 _ rfl;have d10:=F1.c 10 _ rfl;have d11:=F1.c 11 _ rfl;have G1:=Lh F1;clear hb F1))
         | (go_at_call 51;((with_reducible refine (VC.out _ HB1.out).mono ?_);rintro e w2 ⟨rfl,hb⟩;have HB2:=Lh (HB1.out.then_ hb);have F1:=G1.out.stay hb;(try clear d0);(try clear d1);(try clear d2);(try clear d3);(try clear d4);(try clear d5);(try clear d6);(try clear d7);(try clear d8);(try clear d9);(try clear d10);(try clear d11);have d0:=F1.c 0 _ rfl;have d1:=F1.c 1 _ rfl;have d2:=F1.c 2 _ rfl;have d3:=F1.c 3 _ rfl;have d4:=F1.c 4 _ rfl;have d5:=F1.c 5 _ rfl;have d6:=F1.c 6 _ rfl;have d7:=F1.c 7 _ rfl;have d8:=F1.c 8 _ rfl;have d9:=F1.c 9 _ rfl;have d10:=F1.c 10 _ rfl;have d11:=F1.c 11 _ rfl;have G2:=Lh F1;clear hb F1)))
        go_ret;exact tInt_mk E.out HB2.out
end ItW
end Go.Proofs.YtpejflgdehioaaaGreatDoor
