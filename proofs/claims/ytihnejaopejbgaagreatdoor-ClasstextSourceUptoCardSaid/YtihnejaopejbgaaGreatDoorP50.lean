/-
  Laws that the card uses; no conditions beside those that each states (ItRWg ItRVal).
-/
import Derived.Test.YtihnejaopejbgaaGreatDoorP31
import Derived.Test.YtihnejaopejbgaaGreatDoorP47
set_option maxRecDepth 100000
set_option maxHeartbeats 16000000
namespace Go.Proofs.YtihnejaopejbgaaGreatDoor
namespace ItW
open Go Go.RowKit NumM LexW LexM ExM ExW ItM
theorem wrongR_any (x:It) (a4 a7 a8 a9 a10 a11:Value) (N d:Nat) (hd:d≤2000000) (w:World) (h:IV N w a4 a7 a8 a9 a10 a11 x) (hN:N≤w.heap.size) (hsz:sz x.e≤2000000) :
  Calls Tryz.prog 68 #[iv x.kd x.e.op x.e.n x.e.nm a4 x.nm x.ix a7 a8 a9 a10 a11,.int .i64 d] w (tInt (fltI d x) w):=by
 have UC0:=(fun (hk:kindB x.kd=true) (W:World) (hW:Below w.heap.size w W)=>unusedR_any x a4 a7 a8 a9 a10 a11 N W (h.under (hW.mono hN)) (by have:=hW.size;omega) hsz hk);have DC0:=(fun (W:World) (hW:Below w.heap.size w W)=>distR_any x a4 a7 a8 a9 a10 a11 N W (h.under (hW.mono hN)) (by have:=hW.size;omega));have BC0:=(fun (W:World) (hW:Below w.heap.size w W)=>varsR_any x.bf a10 N W (h.bfs.under (hW.mono hN)) (by have:=hW.size;omega));have AC0:=(fun (W:World) (hW:Below w.heap.size w W)=>varsR_any x.af a11 N W (h.afs.under (hW.mono hN)) (by have:=hW.size;omega));have VC0:=(fun (W:World) (hW:Below w.heap.size w W)=>validR_any x.e _ W ((h.ex.under (hW.mono hN)).wide (by have:=hW.size;omega)) hsz);have NC0:=(fun (W:World)=>nameR_any x.nm W h.nm);have IC0:=(fun (W:World)=>nameR_any x.ix W h.ix);obtain⟨kd,o,n,en,p4,k4,c4,nm,ix,p7,k7,c7,p8,k8,c8,p9,k9,c9,p10,k10,c10,p11,k11,c11,ev,hv⟩:=h.open_;have ev2:=ev;simp only [Value.agg.injEq,Array.mk.injEq,List.cons.injEq] at ev2;obtain⟨-,-,-,-,rfl,-,-,rfl,rfl,rfl,rfl,rfl,-⟩:=ev2;rw [ev] at UC0 DC0 ⊢;obtain⟨e0,e1,e2,e3,e5,e6,l4,l7,l8,l9,l10,l11,-⟩:=hv;rw [e0] at UC0;rw [e1,e2,e3] at VC0;rw [e5] at NC0;rw [e6] at IC0;have FE:Hid (fltI d x=if (!kindB kd||(!freeB x||(decide (4<d)||(decide (0<d)&&outK kd))))=true then 1
  else if kd=3 then distE x
  else if kd=6 then (if k10=0∨k11=0 then 1 else if x.bf.any noVar=true∨x.af.any noVar=true then 7 else 0)
  else if kd=5 then (if nmB nm.data.toList=true∧nmB ix.data.toList=true then 0 else 7)
  else vld x.e):=Lh (by unfold fltI solveE nameB;rw [e0,e5,e6,l10,l11])
 have UC:=Lh UC0;have DC:=Lh DC0;have BC:=Lh BC0;have AC:=Lh AC0;have VC:=Lh VC0;have NC:=Lh NC0;have IC:=Lh IC0;clear h ev e0 e1 e2 e3 e5 e6 l4 l7 l8 l9 l10 l11 UC0 DC0 BC0 AC0 VC0 NC0 IC0 hN hsz;have F0:=Blk.new w (ics kd o n en (.slice p4 k4 c4) nm ix (.slice p7 k7 c7) (.slice p8 k8 c8) (.slice p9 k9 c9) (.slice p10 k10 c10) (.slice p11 k11 c11)) 53;have HB:=Lh (ba w (.cells (ics kd o n en (.slice p4 k4 c4) nm ix (.slice p7 k7 c7) (.slice p8 k8 c8) (.slice p9 k9 c9) (.slice p10 k10 c10) (.slice p11 k11 c11)).toArray 53));have HF:=Lh F0;have d0:=F0.c 0 _ rfl;have d1:=F0.c 1 _ rfl;have d2:=F0.c 2 _ rfl;have d3:=F0.c 3 _ rfl;have d4:=F0.c 4 _ rfl;have d5:=F0.c 5 _ rfl;have d6:=F0.c 6 _ rfl;have d7:=F0.c 7 _ rfl;have d8:=F0.c 8 _ rfl;have d9:=F0.c 9 _ rfl;have d10:=F0.c 10 _ rfl;have d11:=F0.c 11 _ rfl;clear F0;generalize fltI d x=R at *
 generalize freeB x=u at *
 generalize distE x=D at *
 generalize x.bf.any noVar=ub at *
 generalize x.af.any noVar=ua at *
 generalize nmB nm.data.toList=qn at *
 generalize nmB ix.data.toList=qi at *
 generalize vld x.e=V at *
 cases hkb:kindB kd
 ·by_cases h1:kd<1
  ·rw [hkb] at FE;clear hkb;have E:Hid (R=1):=Lh (by rw [FE.out];simp [*]);clear FE
   go_enter Tryz.func68,Tryz.ntmps68
   go_wp2;go_ret;exact tInt_mk E.out HB.out
  ·have h6:6<kd:=(by unfold kindB at hkb;rw [Bool.and_eq_false_iff,decide_eq_false_iff_not,decide_eq_false_iff_not] at hkb;omega);rw [hkb] at FE;clear hkb;have E:Hid (R=1):=Lh (by rw [FE.out];simp [*]);clear FE
   go_enter Tryz.func68,Tryz.ntmps68
   go_wp2;go_ret;exact tInt_mk E.out HB.out
 ·have hk16:1≤kd∧kd≤6:=by
   unfold kindB at hkb;rw [Bool.and_eq_true,decide_eq_true_eq,decide_eq_true_eq] at hkb;exact hkb
  have n1:¬ kd<1:=(by omega);have n6:¬ 6<kd:=(by omega);have HKB:=Lh hkb;rw [hkb] at FE;clear hkb;cases u
  ·have E:Hid (R=1):=Lh (by rw [FE.out];simp [*]);clear FE
   go_enter Tryz.func68,Tryz.ntmps68
   go_wp2_with (first
    |(go_at_call 101;((with_reducible refine (UC.out HKB.out _ HB.out).mono ?_);rintro e w1 ⟨rfl,hb⟩;have HB1:=Lh (HB.out.then_ hb);have F1:=HF.out.stay hb;(try clear d0);(try clear d1);(try clear d2);(try clear d3);(try clear d4);(try clear d5);(try clear d6);(try clear d7);(try clear d8);(try clear d9);(try clear d10);(try clear d11);have d0:=F1.c 0 _ rfl;have d1:=F1.c 1 _ rfl;have d2:=F1.c 2 _ rfl;have d3:=F1.c 3 _ rfl;have d4:=F1.c 4 _ rfl;have d5:=F1.c 5 _ rfl;have d6:=F1.c 6 _ rfl;have d7:=F1.c 7 _ rfl;have d8:=F1.c 8 _ rfl;have d9:=F1.c 9 _ rfl;have d10:=F1.c 10 _ rfl;have d11:=F1.c 11 _ rfl;have G1:=Lh F1;clear hb F1)))
   go_ret;exact tInt_mk E.out HB1.out
  ·by_cases h4:4<d
   ·have E:Hid (R=1):=Lh (by rw [FE.out];simp [*]);clear FE
    go_enter Tryz.func68,Tryz.ntmps68
    go_wp2_with (first
     |(go_at_call 101;((with_reducible refine (UC.out HKB.out _ HB.out).mono ?_);rintro e w1 ⟨rfl,hb⟩;have HB1:=Lh (HB.out.then_ hb);have F1:=HF.out.stay hb;(try clear d0);(try clear d1);(try clear d2);(try clear d3);(try clear d4);(try clear d5);(try clear d6);(try clear d7);(try clear d8);(try clear d9);(try clear d10);(try clear d11);have d0:=F1.c 0 _ rfl;have d1:=F1.c 1 _ rfl;have d2:=F1.c 2 _ rfl;have d3:=F1.c 3 _ rfl;have d4:=F1.c 4 _ rfl;have d5:=F1.c 5 _ rfl;have d6:=F1.c 6 _ rfl;have d7:=F1.c 7 _ rfl;have d8:=F1.c 8 _ rfl;have d9:=F1.c 9 _ rfl;have d10:=F1.c 10 _ rfl;have d11:=F1.c 11 _ rfl;have G1:=Lh F1;clear hb F1)))
    go_ret;exact tInt_mk E.out HB1.out
   ·have n4:decide ((4:Int)<(d:Int))=false:=decide_eq_false (by omega);by_cases h3:kd=3
    ·subst h3;by_cases h0:d=0
     ·subst h0;have E:Hid (R=D):=Lh (by rw [FE.out];simp [*]);clear FE
      go_enter Tryz.func68,Tryz.ntmps68
      go_wp2_with (first
       |(go_at_call 101;((with_reducible refine (UC.out HKB.out _ HB.out).mono ?_);rintro e w1 ⟨rfl,hb⟩;have HB1:=Lh (HB.out.then_ hb);have F1:=HF.out.stay hb;(try clear d0);(try clear d1);(try clear d2);(try clear d3);(try clear d4);(try clear d5);(try clear d6);(try clear d7);(try clear d8);(try clear d9);(try clear d10);(try clear d11);have d0:=F1.c 0 _ rfl;have d1:=F1.c 1 _ rfl;have d2:=F1.c 2 _ rfl;have d3:=F1.c 3 _ rfl;have d4:=F1.c 4 _ rfl;have d5:=F1.c 5 _ rfl;have d6:=F1.c 6 _ rfl;have d7:=F1.c 7 _ rfl;have d8:=F1.c 8 _ rfl;have d9:=F1.c 9 _ rfl;have d10:=F1.c 10 _ rfl;have d11:=F1.c 11 _ rfl;have G1:=Lh F1;clear hb F1))
       |(go_at_call 102;((with_reducible refine (DC.out _ HB1.out).mono ?_);rintro e w2 ⟨rfl,hb⟩;have HB2:=Lh (HB1.out.then_ hb);have F1:=G1.out.stay hb;(try clear d0);(try clear d1);(try clear d2);(try clear d3);(try clear d4);(try clear d5);(try clear d6);(try clear d7);(try clear d8);(try clear d9);(try clear d10);(try clear d11);have d0:=F1.c 0 _ rfl;have d1:=F1.c 1 _ rfl;have d2:=F1.c 2 _ rfl;have d3:=F1.c 3 _ rfl;have d4:=F1.c 4 _ rfl;have d5:=F1.c 5 _ rfl;have d6:=F1.c 6 _ rfl;have d7:=F1.c 7 _ rfl;have d8:=F1.c 8 _ rfl;have d9:=F1.c 9 _ rfl;have d10:=F1.c 10 _ rfl;have d11:=F1.c 11 _ rfl;have G2:=Lh F1;clear hb F1)))
      go_ret;exact tInt_mk E.out HB2.out
     ·have g0:0<d:=(by omega);have o3:outK 3=true:=rfl;have E:Hid (R=1):=Lh (by rw [FE.out];simp [*]);clear FE
      go_enter Tryz.func68,Tryz.ntmps68
      go_wp2_with (first
       |(go_at_call 101;((with_reducible refine (UC.out HKB.out _ HB.out).mono ?_);rintro e w1 ⟨rfl,hb⟩;have HB1:=Lh (HB.out.then_ hb);have F1:=HF.out.stay hb;(try clear d0);(try clear d1);(try clear d2);(try clear d3);(try clear d4);(try clear d5);(try clear d6);(try clear d7);(try clear d8);(try clear d9);(try clear d10);(try clear d11);have d0:=F1.c 0 _ rfl;have d1:=F1.c 1 _ rfl;have d2:=F1.c 2 _ rfl;have d3:=F1.c 3 _ rfl;have d4:=F1.c 4 _ rfl;have d5:=F1.c 5 _ rfl;have d6:=F1.c 6 _ rfl;have d7:=F1.c 7 _ rfl;have d8:=F1.c 8 _ rfl;have d9:=F1.c 9 _ rfl;have d10:=F1.c 10 _ rfl;have d11:=F1.c 11 _ rfl;have G1:=Lh F1;clear hb F1)))
      go_ret;exact tInt_mk E.out HB1.out
    ·have f3:(kd == 3)=false:=(by rw [beq_eq_false_iff_ne];exact h3);by_cases h6:kd=6
     ·subst h6;by_cases h0:d=0
      ·subst h0;by_cases hb0:k10=0
       ·subst hb0;have o6:outK 6=true:=rfl;have E:Hid (R=1):=Lh (by rw [FE.out];simp [*]);clear FE
        go_enter Tryz.func68,Tryz.ntmps68
        go_wp2_with (first
         |(go_at_call 101;((with_reducible refine (UC.out HKB.out _ HB.out).mono ?_);rintro e w1 ⟨rfl,hb⟩;have HB1:=Lh (HB.out.then_ hb);have F1:=HF.out.stay hb;(try clear d0);(try clear d1);(try clear d2);(try clear d3);(try clear d4);(try clear d5);(try clear d6);(try clear d7);(try clear d8);(try clear d9);(try clear d10);(try clear d11);have d0:=F1.c 0 _ rfl;have d1:=F1.c 1 _ rfl;have d2:=F1.c 2 _ rfl;have d3:=F1.c 3 _ rfl;have d4:=F1.c 4 _ rfl;have d5:=F1.c 5 _ rfl;have d6:=F1.c 6 _ rfl;have d7:=F1.c 7 _ rfl;have d8:=F1.c 8 _ rfl;have d9:=F1.c 9 _ rfl;have d10:=F1.c 10 _ rfl;have d11:=F1.c 11 _ rfl;have G1:=Lh F1;clear hb F1)))
        go_ret;exact tInt_mk E.out HB1.out
       ·have b10:((k10:Int) == 0)=false:=(by rw [beq_eq_false_iff_ne];omega);by_cases ha0:k11=0
        ·subst ha0;have o6:outK 6=true:=rfl;have E:Hid (R=1):=Lh (by rw [FE.out];simp [*]);clear FE
         go_enter Tryz.func68,Tryz.ntmps68
         go_wp2_with (first
          |(go_at_call 101;((with_reducible refine (UC.out HKB.out _ HB.out).mono ?_);rintro e w1 ⟨rfl,hb⟩;have HB1:=Lh (HB.out.then_ hb);have F1:=HF.out.stay hb;(try clear d0);(try clear d1);(try clear d2);(try clear d3);(try clear d4);(try clear d5);(try clear d6);(try clear d7);(try clear d8);(try clear d9);(try clear d10);(try clear d11);have d0:=F1.c 0 _ rfl;have d1:=F1.c 1 _ rfl;have d2:=F1.c 2 _ rfl;have d3:=F1.c 3 _ rfl;have d4:=F1.c 4 _ rfl;have d5:=F1.c 5 _ rfl;have d6:=F1.c 6 _ rfl;have d7:=F1.c 7 _ rfl;have d8:=F1.c 8 _ rfl;have d9:=F1.c 9 _ rfl;have d10:=F1.c 10 _ rfl;have d11:=F1.c 11 _ rfl;have G1:=Lh F1;clear hb F1)))
         go_ret;exact tInt_mk E.out HB1.out
        ·have b11:((k11:Int) == 0)=false:=(by rw [beq_eq_false_iff_ne];omega);cases ub
         ·cases ua
          ·have o6:outK 6=true:=rfl;have E:Hid (R=0):=Lh (by rw [FE.out];simp [*]);clear FE
           go_enter Tryz.func68,Tryz.ntmps68
           go_wp2_with (first
            |(go_at_call 101;((with_reducible refine (UC.out HKB.out _ HB.out).mono ?_);rintro e w1 ⟨rfl,hb⟩;have HB1:=Lh (HB.out.then_ hb);have F1:=HF.out.stay hb;(try clear d0);(try clear d1);(try clear d2);(try clear d3);(try clear d4);(try clear d5);(try clear d6);(try clear d7);(try clear d8);(try clear d9);(try clear d10);(try clear d11);have d0:=F1.c 0 _ rfl;have d1:=F1.c 1 _ rfl;have d2:=F1.c 2 _ rfl;have d3:=F1.c 3 _ rfl;have d4:=F1.c 4 _ rfl;have d5:=F1.c 5 _ rfl;have d6:=F1.c 6 _ rfl;have d7:=F1.c 7 _ rfl;have d8:=F1.c 8 _ rfl;have d9:=F1.c 9 _ rfl;have d10:=F1.c 10 _ rfl;have d11:=F1.c 11 _ rfl;have G1:=Lh F1;clear hb F1))
            |(go_at_call 103;((with_reducible refine (BC.out _ HB1.out).mono ?_);rintro e w2 ⟨rfl,hb⟩;have HB2:=Lh (HB1.out.then_ hb);have F1:=G1.out.stay hb;(try clear d0);(try clear d1);(try clear d2);(try clear d3);(try clear d4);(try clear d5);(try clear d6);(try clear d7);(try clear d8);(try clear d9);(try clear d10);(try clear d11);have d0:=F1.c 0 _ rfl;have d1:=F1.c 1 _ rfl;have d2:=F1.c 2 _ rfl;have d3:=F1.c 3 _ rfl;have d4:=F1.c 4 _ rfl;have d5:=F1.c 5 _ rfl;have d6:=F1.c 6 _ rfl;have d7:=F1.c 7 _ rfl;have d8:=F1.c 8 _ rfl;have d9:=F1.c 9 _ rfl;have d10:=F1.c 10 _ rfl;have d11:=F1.c 11 _ rfl;have G2:=Lh F1;clear hb F1))
            |(go_at_call 103;((with_reducible refine (AC.out _ HB2.out).mono ?_);rintro e w3 ⟨rfl,hb⟩;have HB3:=Lh (HB2.out.then_ hb);have F1:=G2.out.stay hb;(try clear d0);(try clear d1);(try clear d2);(try clear d3);(try clear d4);(try clear d5);(try clear d6);(try clear d7);(try clear d8);(try clear d9);(try clear d10);(try clear d11);have d0:=F1.c 0 _ rfl;have d1:=F1.c 1 _ rfl;have d2:=F1.c 2 _ rfl;have d3:=F1.c 3 _ rfl;have d4:=F1.c 4 _ rfl;have d5:=F1.c 5 _ rfl;have d6:=F1.c 6 _ rfl;have d7:=F1.c 7 _ rfl;have d8:=F1.c 8 _ rfl;have d9:=F1.c 9 _ rfl;have d10:=F1.c 10 _ rfl;have d11:=F1.c 11 _ rfl;have G3:=Lh F1;clear hb F1)))
           go_ret;exact tInt_mk E.out HB3.out
          ·have o6:outK 6=true:=rfl;have E:Hid (R=7):=Lh (by rw [FE.out];simp [*]);clear FE
           go_enter Tryz.func68,Tryz.ntmps68
           go_wp2_with (first
            |(go_at_call 101;((with_reducible refine (UC.out HKB.out _ HB.out).mono ?_);rintro e w1 ⟨rfl,hb⟩;have HB1:=Lh (HB.out.then_ hb);have F1:=HF.out.stay hb;(try clear d0);(try clear d1);(try clear d2);(try clear d3);(try clear d4);(try clear d5);(try clear d6);(try clear d7);(try clear d8);(try clear d9);(try clear d10);(try clear d11);have d0:=F1.c 0 _ rfl;have d1:=F1.c 1 _ rfl;have d2:=F1.c 2 _ rfl;have d3:=F1.c 3 _ rfl;have d4:=F1.c 4 _ rfl;have d5:=F1.c 5 _ rfl;have d6:=F1.c 6 _ rfl;have d7:=F1.c 7 _ rfl;have d8:=F1.c 8 _ rfl;have d9:=F1.c 9 _ rfl;have d10:=F1.c 10 _ rfl;have d11:=F1.c 11 _ rfl;have G1:=Lh F1;clear hb F1))
            |(go_at_call 103;((with_reducible refine (BC.out _ HB1.out).mono ?_);rintro e w2 ⟨rfl,hb⟩;have HB2:=Lh (HB1.out.then_ hb);have F1:=G1.out.stay hb;(try clear d0);(try clear d1);(try clear d2);(try clear d3);(try clear d4);(try clear d5);(try clear d6);(try clear d7);(try clear d8);(try clear d9);(try clear d10);(try clear d11);have d0:=F1.c 0 _ rfl;have d1:=F1.c 1 _ rfl;have d2:=F1.c 2 _ rfl;have d3:=F1.c 3 _ rfl;have d4:=F1.c 4 _ rfl;have d5:=F1.c 5 _ rfl;have d6:=F1.c 6 _ rfl;have d7:=F1.c 7 _ rfl;have d8:=F1.c 8 _ rfl;have d9:=F1.c 9 _ rfl;have d10:=F1.c 10 _ rfl;have d11:=F1.c 11 _ rfl;have G2:=Lh F1;clear hb F1))
            |(go_at_call 103;((with_reducible refine (AC.out _ HB2.out).mono ?_);rintro e w3 ⟨rfl,hb⟩;have HB3:=Lh (HB2.out.then_ hb);have F1:=G2.out.stay hb;(try clear d0);(try clear d1);(try clear d2);(try clear d3);(try clear d4);(try clear d5);(try clear d6);(try clear d7);(try clear d8);(try clear d9);(try clear d10);(try clear d11);have d0:=F1.c 0 _ rfl;have d1:=F1.c 1 _ rfl;have d2:=F1.c 2 _ rfl;have d3:=F1.c 3 _ rfl;have d4:=F1.c 4 _ rfl;have d5:=F1.c 5 _ rfl;have d6:=F1.c 6 _ rfl;have d7:=F1.c 7 _ rfl;have d8:=F1.c 8 _ rfl;have d9:=F1.c 9 _ rfl;have d10:=F1.c 10 _ rfl;have d11:=F1.c 11 _ rfl;have G3:=Lh F1;clear hb F1)))
           go_ret;exact tInt_mk E.out HB3.out
         ·have o6:outK 6=true:=rfl;have E:Hid (R=7):=Lh (by rw [FE.out];simp [*]);clear FE
          go_enter Tryz.func68,Tryz.ntmps68
          go_wp2_with (first
           |(go_at_call 101;((with_reducible refine (UC.out HKB.out _ HB.out).mono ?_);rintro e w1 ⟨rfl,hb⟩;have HB1:=Lh (HB.out.then_ hb);have F1:=HF.out.stay hb;(try clear d0);(try clear d1);(try clear d2);(try clear d3);(try clear d4);(try clear d5);(try clear d6);(try clear d7);(try clear d8);(try clear d9);(try clear d10);(try clear d11);have d0:=F1.c 0 _ rfl;have d1:=F1.c 1 _ rfl;have d2:=F1.c 2 _ rfl;have d3:=F1.c 3 _ rfl;have d4:=F1.c 4 _ rfl;have d5:=F1.c 5 _ rfl;have d6:=F1.c 6 _ rfl;have d7:=F1.c 7 _ rfl;have d8:=F1.c 8 _ rfl;have d9:=F1.c 9 _ rfl;have d10:=F1.c 10 _ rfl;have d11:=F1.c 11 _ rfl;have G1:=Lh F1;clear hb F1))
           |(go_at_call 103;((with_reducible refine (BC.out _ HB1.out).mono ?_);rintro e w2 ⟨rfl,hb⟩;have HB2:=Lh (HB1.out.then_ hb);have F1:=G1.out.stay hb;(try clear d0);(try clear d1);(try clear d2);(try clear d3);(try clear d4);(try clear d5);(try clear d6);(try clear d7);(try clear d8);(try clear d9);(try clear d10);(try clear d11);have d0:=F1.c 0 _ rfl;have d1:=F1.c 1 _ rfl;have d2:=F1.c 2 _ rfl;have d3:=F1.c 3 _ rfl;have d4:=F1.c 4 _ rfl;have d5:=F1.c 5 _ rfl;have d6:=F1.c 6 _ rfl;have d7:=F1.c 7 _ rfl;have d8:=F1.c 8 _ rfl;have d9:=F1.c 9 _ rfl;have d10:=F1.c 10 _ rfl;have d11:=F1.c 11 _ rfl;have G2:=Lh F1;clear hb F1)))
          go_ret;exact tInt_mk E.out HB2.out
      ·have g0:0<d:=(by omega);have o6:outK 6=true:=rfl;have E:Hid (R=1):=Lh (by rw [FE.out];simp [*]);clear FE
       go_enter Tryz.func68,Tryz.ntmps68
       go_wp2_with (first
        |(go_at_call 101;((with_reducible refine (UC.out HKB.out _ HB.out).mono ?_);rintro e w1 ⟨rfl,hb⟩;have HB1:=Lh (HB.out.then_ hb);have F1:=HF.out.stay hb;(try clear d0);(try clear d1);(try clear d2);(try clear d3);(try clear d4);(try clear d5);(try clear d6);(try clear d7);(try clear d8);(try clear d9);(try clear d10);(try clear d11);have d0:=F1.c 0 _ rfl;have d1:=F1.c 1 _ rfl;have d2:=F1.c 2 _ rfl;have d3:=F1.c 3 _ rfl;have d4:=F1.c 4 _ rfl;have d5:=F1.c 5 _ rfl;have d6:=F1.c 6 _ rfl;have d7:=F1.c 7 _ rfl;have d8:=F1.c 8 _ rfl;have d9:=F1.c 9 _ rfl;have d10:=F1.c 10 _ rfl;have d11:=F1.c 11 _ rfl;have G1:=Lh F1;clear hb F1)))
       go_ret;exact tInt_mk E.out HB1.out
     ·have f6:(kd == 6)=false:=(by rw [beq_eq_false_iff_ne];exact h6);have oK:outK kd=false:=(by unfold outK;rw [decide_eq_false h3,decide_eq_false h6];rfl);by_cases h5:kd=5
      ·subst h5;by_cases h0:d=0
       ·subst h0;cases qn
        ·have o5:outK 5=false:=rfl;have E:Hid (R=7):=Lh (by rw [FE.out];simp [*]);clear FE
         go_enter Tryz.func68,Tryz.ntmps68
         go_wp2_with (first
          |(go_at_call 101;((with_reducible refine (UC.out HKB.out _ HB.out).mono ?_);rintro e w1 ⟨rfl,hb⟩;have HB1:=Lh (HB.out.then_ hb);have F1:=HF.out.stay hb;(try clear d0);(try clear d1);(try clear d2);(try clear d3);(try clear d4);(try clear d5);(try clear d6);(try clear d7);(try clear d8);(try clear d9);(try clear d10);(try clear d11);have d0:=F1.c 0 _ rfl;have d1:=F1.c 1 _ rfl;have d2:=F1.c 2 _ rfl;have d3:=F1.c 3 _ rfl;have d4:=F1.c 4 _ rfl;have d5:=F1.c 5 _ rfl;have d6:=F1.c 6 _ rfl;have d7:=F1.c 7 _ rfl;have d8:=F1.c 8 _ rfl;have d9:=F1.c 9 _ rfl;have d10:=F1.c 10 _ rfl;have d11:=F1.c 11 _ rfl;have G1:=Lh F1;clear hb F1))
          |(go_at_call 63;((with_reducible refine (NC.out _).mono ?_);rintro e w2 ⟨rfl,hb⟩;have HB2:=Lh (HB1.out.then_ hb);have F1:=G1.out.stay hb;(try clear d0);(try clear d1);(try clear d2);(try clear d3);(try clear d4);(try clear d5);(try clear d6);(try clear d7);(try clear d8);(try clear d9);(try clear d10);(try clear d11);have d0:=F1.c 0 _ rfl;have d1:=F1.c 1 _ rfl;have d2:=F1.c 2 _ rfl;have d3:=F1.c 3 _ rfl;have d4:=F1.c 4 _ rfl;have d5:=F1.c 5 _ rfl;have d6:=F1.c 6 _ rfl;have d7:=F1.c 7 _ rfl;have d8:=F1.c 8 _ rfl;have d9:=F1.c 9 _ rfl;have d10:=F1.c 10 _ rfl;have d11:=F1.c 11 _ rfl;have G2:=Lh F1;clear hb F1)))
         go_ret;exact tInt_mk E.out HB2.out
        ·cases qi
         ·have o5:outK 5=false:=rfl;have E:Hid (R=7):=Lh (by rw [FE.out];simp [*]);clear FE
          go_enter Tryz.func68,Tryz.ntmps68
          go_wp2_with (first
           |(go_at_call 101;((with_reducible refine (UC.out HKB.out _ HB.out).mono ?_);rintro e w1 ⟨rfl,hb⟩;have HB1:=Lh (HB.out.then_ hb);have F1:=HF.out.stay hb;(try clear d0);(try clear d1);(try clear d2);(try clear d3);(try clear d4);(try clear d5);(try clear d6);(try clear d7);(try clear d8);(try clear d9);(try clear d10);(try clear d11);have d0:=F1.c 0 _ rfl;have d1:=F1.c 1 _ rfl;have d2:=F1.c 2 _ rfl;have d3:=F1.c 3 _ rfl;have d4:=F1.c 4 _ rfl;have d5:=F1.c 5 _ rfl;have d6:=F1.c 6 _ rfl;have d7:=F1.c 7 _ rfl;have d8:=F1.c 8 _ rfl;have d9:=F1.c 9 _ rfl;have d10:=F1.c 10 _ rfl;have d11:=F1.c 11 _ rfl;have G1:=Lh F1;clear hb F1))
           |(go_at_call 63;((with_reducible refine (NC.out _).mono ?_);rintro e w2 ⟨rfl,hb⟩;have HB2:=Lh (HB1.out.then_ hb);have F1:=G1.out.stay hb;(try clear d0);(try clear d1);(try clear d2);(try clear d3);(try clear d4);(try clear d5);(try clear d6);(try clear d7);(try clear d8);(try clear d9);(try clear d10);(try clear d11);have d0:=F1.c 0 _ rfl;have d1:=F1.c 1 _ rfl;have d2:=F1.c 2 _ rfl;have d3:=F1.c 3 _ rfl;have d4:=F1.c 4 _ rfl;have d5:=F1.c 5 _ rfl;have d6:=F1.c 6 _ rfl;have d7:=F1.c 7 _ rfl;have d8:=F1.c 8 _ rfl;have d9:=F1.c 9 _ rfl;have d10:=F1.c 10 _ rfl;have d11:=F1.c 11 _ rfl;have G2:=Lh F1;clear hb F1))
           |(go_at_call 63;((with_reducible refine (IC.out _).mono ?_);rintro e w3 ⟨rfl,hb⟩;have HB3:=Lh (HB2.out.then_ hb);have F1:=G2.out.stay hb;(try clear d0);(try clear d1);(try clear d2);(try clear d3);(try clear d4);(try clear d5);(try clear d6);(try clear d7);(try clear d8);(try clear d9);(try clear d10);(try clear d11);have d0:=F1.c 0 _ rfl;have d1:=F1.c 1 _ rfl;have d2:=F1.c 2 _ rfl;have d3:=F1.c 3 _ rfl;have d4:=F1.c 4 _ rfl;have d5:=F1.c 5 _ rfl;have d6:=F1.c 6 _ rfl;have d7:=F1.c 7 _ rfl;have d8:=F1.c 8 _ rfl;have d9:=F1.c 9 _ rfl;have d10:=F1.c 10 _ rfl;have d11:=F1.c 11 _ rfl;have G3:=Lh F1;clear hb F1)))
          go_ret;exact tInt_mk E.out HB3.out
         ·have o5:outK 5=false:=rfl;have E:Hid (R=0):=Lh (by rw [FE.out];simp [*]);clear FE
          go_enter Tryz.func68,Tryz.ntmps68
          go_wp2_with (first
           |(go_at_call 101;((with_reducible refine (UC.out HKB.out _ HB.out).mono ?_);rintro e w1 ⟨rfl,hb⟩;have HB1:=Lh (HB.out.then_ hb);have F1:=HF.out.stay hb;(try clear d0);(try clear d1);(try clear d2);(try clear d3);(try clear d4);(try clear d5);(try clear d6);(try clear d7);(try clear d8);(try clear d9);(try clear d10);(try clear d11);have d0:=F1.c 0 _ rfl;have d1:=F1.c 1 _ rfl;have d2:=F1.c 2 _ rfl;have d3:=F1.c 3 _ rfl;have d4:=F1.c 4 _ rfl;have d5:=F1.c 5 _ rfl;have d6:=F1.c 6 _ rfl;have d7:=F1.c 7 _ rfl;have d8:=F1.c 8 _ rfl;have d9:=F1.c 9 _ rfl;have d10:=F1.c 10 _ rfl;have d11:=F1.c 11 _ rfl;have G1:=Lh F1;clear hb F1))
           |(go_at_call 63;((with_reducible refine (NC.out _).mono ?_);rintro e w2 ⟨rfl,hb⟩;have HB2:=Lh (HB1.out.then_ hb);have F1:=G1.out.stay hb;(try clear d0);(try clear d1);(try clear d2);(try clear d3);(try clear d4);(try clear d5);(try clear d6);(try clear d7);(try clear d8);(try clear d9);(try clear d10);(try clear d11);have d0:=F1.c 0 _ rfl;have d1:=F1.c 1 _ rfl;have d2:=F1.c 2 _ rfl;have d3:=F1.c 3 _ rfl;have d4:=F1.c 4 _ rfl;have d5:=F1.c 5 _ rfl;have d6:=F1.c 6 _ rfl;have d7:=F1.c 7 _ rfl;have d8:=F1.c 8 _ rfl;have d9:=F1.c 9 _ rfl;have d10:=F1.c 10 _ rfl;have d11:=F1.c 11 _ rfl;have G2:=Lh F1;clear hb F1))
           |(go_at_call 63;((with_reducible refine (IC.out _).mono ?_);rintro e w3 ⟨rfl,hb⟩;have HB3:=Lh (HB2.out.then_ hb);have F1:=G2.out.stay hb;(try clear d0);(try clear d1);(try clear d2);(try clear d3);(try clear d4);(try clear d5);(try clear d6);(try clear d7);(try clear d8);(try clear d9);(try clear d10);(try clear d11);have d0:=F1.c 0 _ rfl;have d1:=F1.c 1 _ rfl;have d2:=F1.c 2 _ rfl;have d3:=F1.c 3 _ rfl;have d4:=F1.c 4 _ rfl;have d5:=F1.c 5 _ rfl;have d6:=F1.c 6 _ rfl;have d7:=F1.c 7 _ rfl;have d8:=F1.c 8 _ rfl;have d9:=F1.c 9 _ rfl;have d10:=F1.c 10 _ rfl;have d11:=F1.c 11 _ rfl;have G3:=Lh F1;clear hb F1)))
          go_ret;exact tInt_mk E.out HB3.out
       ·have g0:0<d:=(by omega);cases qn
        ·have o5:outK 5=false:=rfl;have E:Hid (R=7):=Lh (by rw [FE.out];simp [*]);clear FE
         go_enter Tryz.func68,Tryz.ntmps68
         go_wp2_with (first
          |(go_at_call 101;((with_reducible refine (UC.out HKB.out _ HB.out).mono ?_);rintro e w1 ⟨rfl,hb⟩;have HB1:=Lh (HB.out.then_ hb);have F1:=HF.out.stay hb;(try clear d0);(try clear d1);(try clear d2);(try clear d3);(try clear d4);(try clear d5);(try clear d6);(try clear d7);(try clear d8);(try clear d9);(try clear d10);(try clear d11);have d0:=F1.c 0 _ rfl;have d1:=F1.c 1 _ rfl;have d2:=F1.c 2 _ rfl;have d3:=F1.c 3 _ rfl;have d4:=F1.c 4 _ rfl;have d5:=F1.c 5 _ rfl;have d6:=F1.c 6 _ rfl;have d7:=F1.c 7 _ rfl;have d8:=F1.c 8 _ rfl;have d9:=F1.c 9 _ rfl;have d10:=F1.c 10 _ rfl;have d11:=F1.c 11 _ rfl;have G1:=Lh F1;clear hb F1))
          |(go_at_call 63;((with_reducible refine (NC.out _).mono ?_);rintro e w2 ⟨rfl,hb⟩;have HB2:=Lh (HB1.out.then_ hb);have F1:=G1.out.stay hb;(try clear d0);(try clear d1);(try clear d2);(try clear d3);(try clear d4);(try clear d5);(try clear d6);(try clear d7);(try clear d8);(try clear d9);(try clear d10);(try clear d11);have d0:=F1.c 0 _ rfl;have d1:=F1.c 1 _ rfl;have d2:=F1.c 2 _ rfl;have d3:=F1.c 3 _ rfl;have d4:=F1.c 4 _ rfl;have d5:=F1.c 5 _ rfl;have d6:=F1.c 6 _ rfl;have d7:=F1.c 7 _ rfl;have d8:=F1.c 8 _ rfl;have d9:=F1.c 9 _ rfl;have d10:=F1.c 10 _ rfl;have d11:=F1.c 11 _ rfl;have G2:=Lh F1;clear hb F1)))
         go_ret;exact tInt_mk E.out HB2.out
        ·cases qi
         ·have o5:outK 5=false:=rfl;have E:Hid (R=7):=Lh (by rw [FE.out];simp [*]);clear FE
          go_enter Tryz.func68,Tryz.ntmps68
          go_wp2_with (first
           |(go_at_call 101;((with_reducible refine (UC.out HKB.out _ HB.out).mono ?_);rintro e w1 ⟨rfl,hb⟩;have HB1:=Lh (HB.out.then_ hb);have F1:=HF.out.stay hb;(try clear d0);(try clear d1);(try clear d2);(try clear d3);(try clear d4);(try clear d5);(try clear d6);(try clear d7);(try clear d8);(try clear d9);(try clear d10);(try clear d11);have d0:=F1.c 0 _ rfl;have d1:=F1.c 1 _ rfl;have d2:=F1.c 2 _ rfl;have d3:=F1.c 3 _ rfl;have d4:=F1.c 4 _ rfl;have d5:=F1.c 5 _ rfl;have d6:=F1.c 6 _ rfl;have d7:=F1.c 7 _ rfl;have d8:=F1.c 8 _ rfl;have d9:=F1.c 9 _ rfl;have d10:=F1.c 10 _ rfl;have d11:=F1.c 11 _ rfl;have G1:=Lh F1;clear hb F1))
           |(go_at_call 63;((with_reducible refine (NC.out _).mono ?_);rintro e w2 ⟨rfl,hb⟩;have HB2:=Lh (HB1.out.then_ hb);have F1:=G1.out.stay hb;(try clear d0);(try clear d1);(try clear d2);(try clear d3);(try clear d4);(try clear d5);(try clear d6);(try clear d7);(try clear d8);(try clear d9);(try clear d10);(try clear d11);have d0:=F1.c 0 _ rfl;have d1:=F1.c 1 _ rfl;have d2:=F1.c 2 _ rfl;have d3:=F1.c 3 _ rfl;have d4:=F1.c 4 _ rfl;have d5:=F1.c 5 _ rfl;have d6:=F1.c 6 _ rfl;have d7:=F1.c 7 _ rfl;have d8:=F1.c 8 _ rfl;have d9:=F1.c 9 _ rfl;have d10:=F1.c 10 _ rfl;have d11:=F1.c 11 _ rfl;have G2:=Lh F1;clear hb F1))
           |(go_at_call 63;((with_reducible refine (IC.out _).mono ?_);rintro e w3 ⟨rfl,hb⟩;have HB3:=Lh (HB2.out.then_ hb);have F1:=G2.out.stay hb;(try clear d0);(try clear d1);(try clear d2);(try clear d3);(try clear d4);(try clear d5);(try clear d6);(try clear d7);(try clear d8);(try clear d9);(try clear d10);(try clear d11);have d0:=F1.c 0 _ rfl;have d1:=F1.c 1 _ rfl;have d2:=F1.c 2 _ rfl;have d3:=F1.c 3 _ rfl;have d4:=F1.c 4 _ rfl;have d5:=F1.c 5 _ rfl;have d6:=F1.c 6 _ rfl;have d7:=F1.c 7 _ rfl;have d8:=F1.c 8 _ rfl;have d9:=F1.c 9 _ rfl;have d10:=F1.c 10 _ rfl;have d11:=F1.c 11 _ rfl;have G3:=Lh F1;clear hb F1)))
          go_ret;exact tInt_mk E.out HB3.out
         ·have o5:outK 5=false:=rfl;have E:Hid (R=0):=Lh (by rw [FE.out];simp [*]);clear FE
          go_enter Tryz.func68,Tryz.ntmps68
          go_wp2_with (first
           |(go_at_call 101;((with_reducible refine (UC.out HKB.out _ HB.out).mono ?_);rintro e w1 ⟨rfl,hb⟩;have HB1:=Lh (HB.out.then_ hb);have F1:=HF.out.stay hb;(try clear d0);(try clear d1);(try clear d2);(try clear d3);(try clear d4);(try clear d5);(try clear d6);(try clear d7);(try clear d8);(try clear d9);(try clear d10);(try clear d11);have d0:=F1.c 0 _ rfl;have d1:=F1.c 1 _ rfl;have d2:=F1.c 2 _ rfl;have d3:=F1.c 3 _ rfl;have d4:=F1.c 4 _ rfl;have d5:=F1.c 5 _ rfl;have d6:=F1.c 6 _ rfl;have d7:=F1.c 7 _ rfl;have d8:=F1.c 8 _ rfl;have d9:=F1.c 9 _ rfl;have d10:=F1.c 10 _ rfl;have d11:=F1.c 11 _ rfl;have G1:=Lh F1;clear hb F1))
           |(go_at_call 63;((with_reducible refine (NC.out _).mono ?_);rintro e w2 ⟨rfl,hb⟩;have HB2:=Lh (HB1.out.then_ hb);have F1:=G1.out.stay hb;(try clear d0);(try clear d1);(try clear d2);(try clear d3);(try clear d4);(try clear d5);(try clear d6);(try clear d7);(try clear d8);(try clear d9);(try clear d10);(try clear d11);have d0:=F1.c 0 _ rfl;have d1:=F1.c 1 _ rfl;have d2:=F1.c 2 _ rfl;have d3:=F1.c 3 _ rfl;have d4:=F1.c 4 _ rfl;have d5:=F1.c 5 _ rfl;have d6:=F1.c 6 _ rfl;have d7:=F1.c 7 _ rfl;have d8:=F1.c 8 _ rfl;have d9:=F1.c 9 _ rfl;have d10:=F1.c 10 _ rfl;have d11:=F1.c 11 _ rfl;have G2:=Lh F1;clear hb F1))
           |(go_at_call 63;((with_reducible refine (IC.out _).mono ?_);rintro e w3 ⟨rfl,hb⟩;have HB3:=Lh (HB2.out.then_ hb);have F1:=G2.out.stay hb;(try clear d0);(try clear d1);(try clear d2);(try clear d3);(try clear d4);(try clear d5);(try clear d6);(try clear d7);(try clear d8);(try clear d9);(try clear d10);(try clear d11);have d0:=F1.c 0 _ rfl;have d1:=F1.c 1 _ rfl;have d2:=F1.c 2 _ rfl;have d3:=F1.c 3 _ rfl;have d4:=F1.c 4 _ rfl;have d5:=F1.c 5 _ rfl;have d6:=F1.c 6 _ rfl;have d7:=F1.c 7 _ rfl;have d8:=F1.c 8 _ rfl;have d9:=F1.c 9 _ rfl;have d10:=F1.c 10 _ rfl;have d11:=F1.c 11 _ rfl;have G3:=Lh F1;clear hb F1)))
          go_ret;exact tInt_mk E.out HB3.out
      ·have f5:(kd == 5)=false:=(by rw [beq_eq_false_iff_ne];exact h5);by_cases h0:d=0
       ·subst h0;have o5:=oK;have E:Hid (R=V):=Lh (by rw [FE.out];simp [*]);clear FE
        go_enter Tryz.func68,Tryz.ntmps68
        go_wp2_with (first
         |(go_at_call 101;((with_reducible refine (UC.out HKB.out _ HB.out).mono ?_);rintro e w1 ⟨rfl,hb⟩;have HB1:=Lh (HB.out.then_ hb);have F1:=HF.out.stay hb;(try clear d0);(try clear d1);(try clear d2);(try clear d3);(try clear d4);(try clear d5);(try clear d6);(try clear d7);(try clear d8);(try clear d9);(try clear d10);(try clear d11);have d0:=F1.c 0 _ rfl;have d1:=F1.c 1 _ rfl;have d2:=F1.c 2 _ rfl;have d3:=F1.c 3 _ rfl;have d4:=F1.c 4 _ rfl;have d5:=F1.c 5 _ rfl;have d6:=F1.c 6 _ rfl;have d7:=F1.c 7 _ rfl;have d8:=F1.c 8 _ rfl;have d9:=F1.c 9 _ rfl;have d10:=F1.c 10 _ rfl;have d11:=F1.c 11 _ rfl;have G1:=Lh F1;clear hb F1))
         |(go_at_call 104;((with_reducible refine (VC.out _ HB1.out).mono ?_);rintro e w2 ⟨rfl,hb⟩;have HB2:=Lh (HB1.out.then_ hb);have F1:=G1.out.stay hb;(try clear d0);(try clear d1);(try clear d2);(try clear d3);(try clear d4);(try clear d5);(try clear d6);(try clear d7);(try clear d8);(try clear d9);(try clear d10);(try clear d11);have d0:=F1.c 0 _ rfl;have d1:=F1.c 1 _ rfl;have d2:=F1.c 2 _ rfl;have d3:=F1.c 3 _ rfl;have d4:=F1.c 4 _ rfl;have d5:=F1.c 5 _ rfl;have d6:=F1.c 6 _ rfl;have d7:=F1.c 7 _ rfl;have d8:=F1.c 8 _ rfl;have d9:=F1.c 9 _ rfl;have d10:=F1.c 10 _ rfl;have d11:=F1.c 11 _ rfl;have G2:=Lh F1;clear hb F1)))
        go_ret;exact tInt_mk E.out HB2.out
       ·have g0:0<d:=(by omega);have o5:=oK;have E:Hid (R=V):=Lh (by rw [FE.out];simp [*]);clear FE
        go_enter Tryz.func68,Tryz.ntmps68
        go_wp2_with (first
         |(go_at_call 101;((with_reducible refine (UC.out HKB.out _ HB.out).mono ?_);rintro e w1 ⟨rfl,hb⟩;have HB1:=Lh (HB.out.then_ hb);have F1:=HF.out.stay hb;(try clear d0);(try clear d1);(try clear d2);(try clear d3);(try clear d4);(try clear d5);(try clear d6);(try clear d7);(try clear d8);(try clear d9);(try clear d10);(try clear d11);have d0:=F1.c 0 _ rfl;have d1:=F1.c 1 _ rfl;have d2:=F1.c 2 _ rfl;have d3:=F1.c 3 _ rfl;have d4:=F1.c 4 _ rfl;have d5:=F1.c 5 _ rfl;have d6:=F1.c 6 _ rfl;have d7:=F1.c 7 _ rfl;have d8:=F1.c 8 _ rfl;have d9:=F1.c 9 _ rfl;have d10:=F1.c 10 _ rfl;have d11:=F1.c 11 _ rfl;have G1:=Lh F1;clear hb F1))
         |(go_at_call 104;((with_reducible refine (VC.out _ HB1.out).mono ?_);rintro e w2 ⟨rfl,hb⟩;have HB2:=Lh (HB1.out.then_ hb);have F1:=G1.out.stay hb;(try clear d0);(try clear d1);(try clear d2);(try clear d3);(try clear d4);(try clear d5);(try clear d6);(try clear d7);(try clear d8);(try clear d9);(try clear d10);(try clear d11);have d0:=F1.c 0 _ rfl;have d1:=F1.c 1 _ rfl;have d2:=F1.c 2 _ rfl;have d3:=F1.c 3 _ rfl;have d4:=F1.c 4 _ rfl;have d5:=F1.c 5 _ rfl;have d6:=F1.c 6 _ rfl;have d7:=F1.c 7 _ rfl;have d8:=F1.c 8 _ rfl;have d9:=F1.c 9 _ rfl;have d10:=F1.c 10 _ rfl;have d11:=F1.c 11 _ rfl;have G2:=Lh F1;clear hb F1)))
        go_ret;exact tInt_mk E.out HB2.out
end ItW
namespace ItW
open Go Go.RowKit NumM LexW LexM ExM ExW ItM
open ClM (firstE firstE_zero)
theorem quietN {P:Program} {f:FuncId} {args:Array Value} {w:World} {n:Nat} {v:Value} (h:Calls P f args (w.drewN n) fun e w'=>e=.returned v∧∃ m,w'=(w.drewN n).drewN m):Calls P f args (w.drewN n) fun e w''=>e=.returned v∧∃ m,w''=w.drewN m :=
 h.mono fun _ _ ⟨he,m,hm⟩=>⟨he,n+m,by rw [hm,World.drewN_drewN]⟩
theorem dB {w:World} {n:Nat}:Below w.heap.size w (w.drewN n):=drewB (Below.refl _ _)
theorem reti {a b:Int} (h:a=b):Ending.returned (.int .i64 a)=.returned (.int .i64 b):=by rw [h]
theorem kids_take {l:List It} {j:Nat} {a:It} (h:l[j]? = some a):(l.length - (j+1))+iszs (l.take (j+1))=(l.length - j)+iszs (l.take j)+iszs a.it+iszs a.el:=by
 have h1:=(List.getElem?_eq_some_iff.1 h).1;have h2:=iszs_take h;have h3:=isz_eq a;omega
theorem sizeR_any (l:List It):∀ (v:Value) (N:Nat) (w:World),ItsA N w v l→N≤w.heap.size→iszs l≤2000000→Calls Tryz.prog 38 #[v] w fun e w'=>e=.returned (.int .i64 (iszs l))∧∃ m,w'=w.drewN m:=by
 induction l using its_ind with
 | h l ih =>
  intro v N w hx hN hsz;obtain⟨p,cap,V,rfl,hr⟩:=hx.form;have hl:=hr.hl;have HR:=Lh hr;have HIH:=Lh ih;have hlen:=len_iszs l;obtain⟨K,hK⟩:∃ K,l.length=K:=⟨_,rfl⟩;have HK:=Lh hK;rw [hK] at hl hlen ⊢;have HT0:Hid ((K - 0)+iszs (l.take 0)=K):=Lh (by rw [List.take_zero,iszs_nil];omega);clear hx hr ih hK
  go_enter Tryz.func38,Tryz.ntmps38
  go_wp2;go_loopw [3,4] (fun s i wr=>∃ (j t:Nat),j≤K∧i=.int .i64 j∧s=.int .i64 t∧t≤4000000∧Hid (t=(K - j)+iszs (l.take j))∧Hid (∃ m,wr=w.drewN m)) (fun _ i _=>K - (intOf i).toNat)
  case atStart=>exact⟨0,K,Nat.zero_le _,rfl,rfl,by omega,Lh HT0.out.symm,Lh ⟨0,rfl⟩⟩
  case round =>
   obtain⟨j,t,hj,rfl,rfl,ht,TW,DW⟩:=hrel;have hbw:Below w.heap.size w wr:=by
    obtain⟨m,hm⟩:=DW.out;rw [hm];exact drewB (Below.refl _ _)
   by_cases hlt:j<K
   ·obtain⟨a,ha⟩:∃ a,l[j]? = some a:=⟨_,List.getElem?_eq_getElem (by rw [HK.out];exact hlt)⟩;have hmem:=List.mem_of_getElem? ha;have hr2:=HR.out.under (hbw.mono hN);obtain⟨b,off,rfl,hb,hcell⟩:=hr2.hp (by rw [HK.out];omega);have hva:=hr2.hv j a ha;have hc:=hcell j a ha;have g8:=hc.c8;have g9:=hc.c9;obtain⟨p4,k4,p7,k7,p8,k8,p9,k9,p10,k10,p11,k11,e4,e7,e8,e9,e10,e11⟩:=hva.slices;have hi8:=hva.its;have hi9:=hva.els;rw [e8] at g8 hi8;rw [e9] at g9 hi9;have hkt:=kids_take ha;rw [HK.out] at hkt;have hil:=isz_mem hmem;have hie:=isz_eq a;have hA:iszs a.it≤2000000:=(by omega);have hB:iszs a.el≤2000000:=(by omega);have VC8:Hid (∀ W,Below wr.heap.size wr W→Calls Tryz.prog 38 #[.slice p8 a.it.length k8] W fun e w'=>e=.returned (.int .i64 (iszs a.it))∧∃ m,w'=W.drewN m):=(Lh fun W hW=>(HIH.out a hmem).1 _ N W (hi8.under (hW.mono (Nat.le_trans hN hbw.size))) (Nat.le_trans (Nat.le_trans hN hbw.size) hW.size) hA);have VC9:Hid (∀ W,Below wr.heap.size wr W→Calls Tryz.prog 38 #[.slice p9 a.el.length k9] W fun e w'=>e=.returned (.int .i64 (iszs a.el))∧∃ m,w'=W.drewN m):=(Lh fun W hW=>(HIH.out a hmem).2 _ N W (hi9.under (hW.mono (Nat.le_trans hN hbw.size))) (Nat.le_trans (Nat.le_trans hN hbw.size) hW.size) hB);have TN:Hid (t+iszs a.it+iszs a.el=(K - (j+1))+iszs (l.take (j+1))):=Lh (by rw [hkt,TW.out]);have htl:=iszs_take_le (j+1) l;have htn:t+iszs a.it+iszs a.el≤4000000:=(by have:=TN.out;omega);clear hcell hva hc hi8 hi9 hr2 e4 e7 e8 e9 e10 e11 ha hmem hkt hil hie htl;generalize iszs a.it=A at *
    generalize iszs a.el=B at *
    generalize a.it.length=KA at *
    generalize a.el.length=KB at *
    have hw1:IntKind.i64.wrap ((t:Int)+(A:Int))=(t:Int)+(A:Int):=IntWalk.i64_in _ (by omega);have hw2:IntKind.i64.wrap ((t:Int)+(A:Int)+(B:Int))=(t:Int)+(A:Int)+(B:Int):=IntWalk.i64_in _ (by omega);go_wp2;go_quiet ((go_at_call 38;first | with_reducible exact quietN (VC8.out _ dB) | with_reducible exact quietN (VC9.out _ dB)))
    go_wp2;go_roundw
    case rel=>exact⟨j+1,t+A+B,by omega,by go_num,by go_num,htn,TN,Lh (by obtain⟨m,hm⟩:=DW.out;exact⟨m+nq,by rw [hm,World.drewN_drewN]⟩)⟩
    case measure=>simp [intOf];omega
   ·have hjK:j=K:=(by omega);have TE:Hid ((t:Int)=(iszs l:Int)):=Lh (by
     have:=TW.out;rw [List.take_of_length_le (by rw [HK.out];omega)] at this;omega)
    have R:=DW;clear hjK;go_wp2;go_ret;exact⟨reti TE.out,R.out⟩
theorem vl_append (d:Nat) (a b:List It):vlL d (a++b)=if vlL d a=0 then vlL d b else vlL d a:=by
 unfold vlL;rw [wks_append,List.map_append,firstE_append]
theorem vl_at {d j:Nat} {l:List It} {a:It} (h:l[j]? = some a) (h0:vlL d (l.take j)=0) :
  (fltI d a≠0→vlL d l=fltI d a)∧(fltI d a=0→vlL (d+1) a.it≠0→vlL d l=vlL (d+1) a.it)∧(fltI d a=0→vlL (d+1) a.it=0→vlL (d+1) a.el≠0→vlL d l=vlL (d+1) a.el) ∧
   (fltI d a=0→vlL (d+1) a.it=0→vlL (d+1) a.el=0→vlL d (l.take (j+1))=0):=by
 obtain⟨hj,he⟩:=List.getElem?_eq_some_iff.1 h;have hs:l=l.take j++a::l.drop (j+1):=by
  rw [←he,List.getElem_cons_drop hj,List.take_append_drop]
 have e:=vl_append d (l.take j) (a::l.drop (j+1));rw [←hs,if_pos h0,vl_cons] at e;have e2:=vl_append d (l.take j) [a];rw [←he,←List.take_succ_eq_append_getElem hj,if_pos h0,he,vl_cons,vl_nil] at e2;refine⟨fun h1=>by rw [e,if_neg h1],fun h1 h2=>by rw [e,if_pos h1,if_neg h2],fun h1 h2 h3=>by rw [e,if_pos h1,if_pos h2,if_neg h3],fun h1 h2 h3=>by rw [e2,if_pos h1,if_pos h2,if_pos h3]⟩
theorem flt_deep2 {d:Nat} {x:It} (h:fltI d x=0):d≤4:=by
 unfold fltI at h;split at h
 ·cases h
 ·rename_i hn;simp only [Bool.or_eq_true,decide_eq_true_eq,not_or] at hn;omega
theorem validLR_any (l:List It):∀ (d:Nat) (v:Value) (N:Nat) (w:World),d≤5→ItsA N w v l→N≤w.heap.size→RsL l→Calls Tryz.prog 39 #[v,.int .i64 d] w (tInt (vlL d l) w):=by
 induction l using its_ind with
 | h l ih =>
  intro d v N w hd5 hx hN hrs;obtain⟨p,cap,V,rfl,hr⟩:=hx.form;have hl:=hr.hl;have HR:=Lh hr;have HIH:=Lh ih;have HRS:=Lh hrs;obtain⟨K,hK⟩:∃ K,l.length=K:=⟨_,rfl⟩;have HK:=Lh hK;rw [hK] at hl ⊢;have hk47:K≤140737488351232:=(by omega);have HV0:Hid (vlL d (l.take 0)=0):=Lh (by rw [List.take_zero];exact vl_nil d);have HB0:=Lh (Below.refl w.heap.size w);clear hx hr ih hK hrs hl
  go_enter Tryz.func39,Tryz.ntmps39
  go_wp2;go_loopw [5] (fun i wr=>∃ (j:Nat),j≤K∧i=.int .i64 j∧Hid (vlL d (l.take j)=0)∧Hid (Below w.heap.size w wr)) (fun i _=>K - (intOf i).toNat)
  case atStart=>exact⟨0,Nat.zero_le _,rfl,HV0,HB0⟩
  case round =>
   obtain⟨j,hj,rfl,VW,BW⟩:=hrel;by_cases hlt:j<K
   ·obtain⟨a,ha⟩:∃ a,l[j]? = some a:=⟨_,List.getElem?_eq_getElem (by rw [HK.out];exact hlt)⟩;have hmem:=List.mem_of_getElem? ha;obtain⟨b,off,rfl,hb,hcell⟩:=HR.out.hp (by rw [HK.out];omega);have hva:=HR.out.hv j a ha;have hc:=hcell j a ha;have hrs:=(rsI_eq a).1 (rsL_mem.1 HRS.out a hmem);have WC0:=(fun (W:World) (hW:Below w.heap.size w W)=>wrongR_any a _ _ _ _ _ _ N d (by omega) W (hva.under (hW.mono hN)) (by have:=hW.size;omega) hrs.1.1);have hi8:=hva.its;have hi9:=hva.els;obtain⟨p4,k4,p7,k7,p8,k8,p9,k9,p10,k10,p11,k11,e4,e7,e8,e9,e10,e11⟩:=hva.slices;have HCE:Hid (∀ W,Below w.heap.size w W→C12 W b (off+j*12) a (V j)):=(Lh fun W hW=>hc.kept (low_cells (hW.mono hN) b · hb));have AT:=Lh (vl_at ha VW.out);have VC8:Hid (∀ W,Below w.heap.size w W→fltI d a=0→Calls Tryz.prog 39 #[.slice p8 a.it.length k8,.int .i64 ((d:Int)+1)] W (tInt (vlL (d+1) a.it) W)):=Lh fun W hW h0=>by
     have:=(HIH.out a hmem).1 (d+1) _ N W (by have:=flt_deep2 h0;omega) (hi8.under (hW.mono hN)) (by have:=hW.size;omega) hrs.2.1;rw [e8] at this;exact this
    have VC9:Hid (∀ W,Below w.heap.size w W→fltI d a=0→Calls Tryz.prog 39 #[.slice p9 a.el.length k9,.int .i64 ((d:Int)+1)] W (tInt (vlL (d+1) a.el) W)):=Lh fun W hW h0=>by
     have:=(HIH.out a hmem).2 (d+1) _ N W (by have:=flt_deep2 h0;omega) (hi9.under (hW.mono hN)) (by have:=hW.size;omega) hrs.2.2;rw [e9] at this;exact this
    obtain⟨g0,g1,g2,g3,g4,g5,g6,g7,g8,g9,g10,g11⟩:=HCE.out wr BW.out;rw [e4] at g4 WC0;rw [e7] at g7 WC0;rw [e8] at g8 WC0;rw [e9] at g9 WC0;rw [e10] at g10 WC0;rw [e11] at g11 WC0;have HC8:Hid (∀ W,Below w.heap.size w W→W.cell? ⟨b,off+j*12+5+3,none⟩=some (.slice p8 a.it.length k8)):=(Lh fun W hW=>by have:=(HCE.out W hW).c8;rw [e8] at this;exact this);have HC8':Hid (∀ W,Below w.heap.size w W→W.cell? ⟨b,off+j*12+8,none⟩=some (.slice p8 a.it.length k8)):=(Lh fun W hW=>by have:=(HCE.out W hW).c8;rw [e8] at this;exact this);have HC9:Hid (∀ W,Below w.heap.size w W→W.cell? ⟨b,off+j*12+9,none⟩=some (.slice p9 a.el.length k9)):=(Lh fun W hW=>by have:=(HCE.out W hW).c9;rw [e9] at this;exact this);have WC:=Lh (WC0 wr BW.out);clear hcell hva hc hi8 hi9 e4 e7 e8 e9 e10 e11 ha hmem WC0 hrs HCE;generalize fltI d a=E1 at *
    generalize vlL (d+1) a.it=E2 at *
    generalize vlL (d+1) a.el=E3 at *
    by_cases h1:E1=0
    ·rw [h1] at WC;by_cases h2:E2=0
     ·rw [h2] at VC8;by_cases h3:E3=0
      ·have VN:=Lh (AT.out.2.2.2 h1 h2 h3);rw [h3] at VC9;have V8:=Lh (fun W hW=>VC8.out W hW h1);have V9:=Lh (fun W hW=>VC9.out W hW h1);clear h1 h2 h3 AT VC8 VC9;go_wp2_with (first
        |(go_at_call 68;((with_reducible refine WC.out.mono ?_);rintro e w1 ⟨rfl,hb1⟩;have HB1:=Lh (BW.out.then_ hb1);have g8':=HC8'.out _ HB1.out;clear hb1))
        |(go_at_call 39;((with_reducible refine (V8.out _ HB1.out).mono ?_);rintro e w2 ⟨rfl,hb2⟩;have HB2:=Lh (HB1.out.then_ hb2);have g9':=HC9.out _ HB2.out;clear hb2))
        |(go_at_call 39;((with_reducible refine (V9.out _ HB2.out).mono ?_);rintro e w3 ⟨rfl,hb3⟩;have HB3:=Lh (HB2.out.then_ hb3);clear hb3)))
       go_roundw
       case rel=>exact⟨j+1,by omega,by go_num,VN,HB3⟩
       case measure=>simp [intOf];omega
      ·have VN:=Lh (AT.out.2.2.1 h1 h2 h3);have f3:(E3 != 0)=true:=(by simpa using h3);have V8:=Lh (fun W hW=>VC8.out W hW h1);have V9:=Lh (fun W hW=>VC9.out W hW h1);clear h1 h2 AT VC8 VC9;go_wp2_with (first
        |(go_at_call 68;((with_reducible refine WC.out.mono ?_);rintro e w1 ⟨rfl,hb1⟩;have HB1:=Lh (BW.out.then_ hb1);have g8':=HC8'.out _ HB1.out;clear hb1))
        |(go_at_call 39;((with_reducible refine (V8.out _ HB1.out).mono ?_);rintro e w2 ⟨rfl,hb2⟩;have HB2:=Lh (HB1.out.then_ hb2);have g9':=HC9.out _ HB2.out;clear hb2))
        |(go_at_call 39;((with_reducible refine (V9.out _ HB2.out).mono ?_);rintro e w3 ⟨rfl,hb3⟩;have HB3:=Lh (HB2.out.then_ hb3);clear hb3)))
       go_ret;exact tInt_mk VN.out HB3.out
     ·have VN:=Lh (AT.out.2.1 h1 h2);have f2:(E2 != 0)=true:=(by simpa using h2);have V8:=Lh (fun W hW=>VC8.out W hW h1);clear h1 AT VC8 VC9;go_wp2_with (first
       |(go_at_call 68;((with_reducible refine WC.out.mono ?_);rintro e w1 ⟨rfl,hb1⟩;have HB1:=Lh (BW.out.then_ hb1);have g8':=HC8'.out _ HB1.out;clear hb1))
       |(go_at_call 39;((with_reducible refine (V8.out _ HB1.out).mono ?_);rintro e w2 ⟨rfl,hb2⟩;have HB2:=Lh (HB1.out.then_ hb2);clear hb2)))
      go_ret;exact tInt_mk VN.out HB2.out
    ·have VN:=Lh (AT.out.1 h1);have f1:(E1 != 0)=true:=(by simpa using h1);clear AT VC8 VC9;go_wp2_with (first
      |(go_at_call 68;((with_reducible refine WC.out.mono ?_);rintro e w1 ⟨rfl,hb1⟩;have HB1:=Lh (BW.out.then_ hb1);clear hb1)))
     go_ret;exact tInt_mk VN.out HB1.out
   ·have VN:Hid (vlL d l=0):=Lh (by have:=VW.out;rw [List.take_of_length_le (by rw [HK.out];omega)] at this;exact this);go_wp2;go_ret;exact tInt_mk VN.out BW.out
theorem itemValidR_any (l:List It) (v:Value) (w:World) (hx:ItsA w.heap.size w v l) (hsz:iszs l≤2000000) (hrs:RsL l) :
  Calls Tryz.prog 22 #[v] w (tInt (validI l) w):=by
 have SC:=Lh (sizeR_any l v _ w hx (Nat.le_refl _) hsz);have VC:Hid (∀ W,Below w.heap.size w W→Calls Tryz.prog 39 #[v,.int .i64 0] W (tInt (vlL 0 l) W)):=(Lh fun W hW=>validLR_any l 0 v w.heap.size W (by decide) (hx.under hW) hW.size hrs);have EE:Hid (validI l=if 64<iszs l then 2 else vlL 0 l):=Lh rfl;obtain⟨p,cap,V,rfl,_⟩:=hx.form;generalize iszs l=z at *
 generalize vlL 0 l=y at *
 generalize l.length=K at *
 by_cases h:64<z
 ·rw [if_pos h] at EE;have d:decide ((64:Int)<(z:Int))=true:=decide_eq_true (by omega)
  go_enter Tryz.func22,Tryz.ntmps22
  go_wp2_with (go_at_call 38;((with_reducible refine SC.out.mono ?_);rintro e w1 ⟨rfl,m,rfl⟩))
  go_ret;exact tInt_mk EE.out dB
 ·rw [if_neg h] at EE;have d:decide ((64:Int)<(z:Int))=false:=decide_eq_false (by omega)
  go_enter Tryz.func22,Tryz.ntmps22
  go_wp2_with (first
   |(go_at_call 38;((with_reducible refine SC.out.mono ?_);rintro e w1 ⟨rfl,m,rfl⟩))
   |(go_at_call 39;((with_reducible refine (VC.out _ dB).mono ?_);rintro e w2 ⟨rfl,hb⟩;have HB:=Lh (dB.then_ hb);clear hb)))
  go_ret;exact tInt_mk EE.out HB.out
end ItW
end Go.Proofs.YtihnejaopejbgaaGreatDoor
