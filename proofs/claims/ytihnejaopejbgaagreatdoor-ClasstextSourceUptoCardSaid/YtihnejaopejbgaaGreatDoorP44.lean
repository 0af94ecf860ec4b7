/-
  Laws that the card uses; no conditions beside those that each states (ClField).
-/
import Derived.Test.YtihnejaopejbgaaGreatDoorP40
set_option maxRecDepth 100000
set_option maxHeartbeats 16000000
namespace Go.Proofs.YtihnejaopejbgaaGreatDoor
namespace ClW
open Go Go.RowKit NumM LexW LexM ClM
open Go.«Sort»
theorem valFieldR_any (nm:ByteArray) (wd sz md ini:Int) (w:World) (hs:nm.size≤140737488351232) :
  Calls Tryz.prog 64 #[fv nm wd sz md ini] w (tInt (fieldE ⟨nm,wd,sz,md,ini⟩) w):=by
 have F0:=Blk.new w [.string nm,.int .i64 wd,.int .i64 sz,.int .i64 md,.int .i64 ini] 55;have HB0:=Lh (ba w (.cells #[.string nm,.int .i64 wd,.int .i64 sz,.int .i64 md,.int .i64 ini] 55));have NC:=Lh (isNmR_any nm (w.alloc (.cells #[.string nm,.int .i64 wd,.int .i64 sz,.int .i64 md,.int .i64 ini] 55)) hs);have HF:=Lh F0;have c0:=F0.c 0 _ rfl;have c1:=F0.c 1 _ rfl;have c2:=F0.c 2 _ rfl;have c3:=F0.c 3 _ rfl;have c4:=F0.c 4 _ rfl;clear F0;cases hbad:bad nm
 rotate_left
 ·have E:=Lh (fieldE_bad (f:=⟨nm,wd,sz,md,ini⟩) hbad);rw [hbad] at NC;clear hbad
  go_enter Tryz.func64,Tryz.ntmps64
  go_wp2_with (first
   |(go_at_call 63;((with_reducible refine NC.out.mono ?_);rintro e w1 ⟨rfl,hb1⟩;have HB1:=Lh (HB0.out.then_ hb1);have HG:=HF.out.stay hb1;have d0:=HG.c 0 _ rfl;have d1:=HG.c 1 _ rfl;have d2:=HG.c 2 _ rfl;have d3:=HG.c 3 _ rfl;have d4:=HG.c 4 _ rfl;have HFG:=Lh HG;clear hb1 HG)))
  go_ret;exact tInt_mk (E.out).symm HB1.out
 ·have E1:Hid (¬ (1≤wd∧wd≤8∧0≤sz∧sz≤8∧0≤md∧md≤2∧¬ (0<sz∧md=2)∧0≤ini∧ini≤maxI ⟨nm,wd,sz,md,ini⟩)→fieldE ⟨nm,wd,sz,md,ini⟩=1):=Lh (fun h=>fieldE_one hbad (decide_eq_false h));have E2:Hid ((1≤wd∧wd≤8∧0≤sz∧sz≤8∧0≤md∧md≤2∧¬ (0<sz∧md=2)∧0≤ini∧ini≤maxI ⟨nm,wd,sz,md,ini⟩)→fieldE ⟨nm,wd,sz,md,ini⟩=0):=Lh (fun h=>fieldE_ok hbad (decide_eq_true h));rw [hbad] at NC;clear hbad;by_cases h1:wd<1
  ·have E:Hid (fieldE ⟨nm,wd,sz,md,ini⟩=1):=Lh (E1.out (fun h=>by omega));clear E1 E2
   go_enter Tryz.func64,Tryz.ntmps64
   go_wp2_with (first
    |(go_at_call 63;((with_reducible refine NC.out.mono ?_);rintro e w1 ⟨rfl,hb1⟩;have HB1:=Lh (HB0.out.then_ hb1);have HG:=HF.out.stay hb1;have d0:=HG.c 0 _ rfl;have d1:=HG.c 1 _ rfl;have d2:=HG.c 2 _ rfl;have d3:=HG.c 3 _ rfl;have d4:=HG.c 4 _ rfl;have HFG:=Lh HG;clear hb1 HG)))
   go_ret;exact tInt_mk (E.out).symm HB1.out
  ·have n1:decide (wd<1)=false:=decide_eq_false h1;by_cases h2:8<wd
   ·have E:Hid (fieldE ⟨nm,wd,sz,md,ini⟩=1):=Lh (E1.out (fun h=>by omega));clear E1 E2
    go_enter Tryz.func64,Tryz.ntmps64
    go_wp2_with (first
     |(go_at_call 63;((with_reducible refine NC.out.mono ?_);rintro e w1 ⟨rfl,hb1⟩;have HB1:=Lh (HB0.out.then_ hb1);have HG:=HF.out.stay hb1;have d0:=HG.c 0 _ rfl;have d1:=HG.c 1 _ rfl;have d2:=HG.c 2 _ rfl;have d3:=HG.c 3 _ rfl;have d4:=HG.c 4 _ rfl;have HFG:=Lh HG;clear hb1 HG)))
    go_ret;exact tInt_mk (E.out).symm HB1.out
   ·have n2:decide (8<wd)=false:=decide_eq_false h2;by_cases h3:sz<0
    ·have E:Hid (fieldE ⟨nm,wd,sz,md,ini⟩=1):=Lh (E1.out (fun h=>by omega));clear E1 E2
     go_enter Tryz.func64,Tryz.ntmps64
     go_wp2_with (first
      |(go_at_call 63;((with_reducible refine NC.out.mono ?_);rintro e w1 ⟨rfl,hb1⟩;have HB1:=Lh (HB0.out.then_ hb1);have HG:=HF.out.stay hb1;have d0:=HG.c 0 _ rfl;have d1:=HG.c 1 _ rfl;have d2:=HG.c 2 _ rfl;have d3:=HG.c 3 _ rfl;have d4:=HG.c 4 _ rfl;have HFG:=Lh HG;clear hb1 HG)))
     go_ret;exact tInt_mk (E.out).symm HB1.out
    ·have n3:decide (sz<0)=false:=decide_eq_false h3;by_cases h4:8<sz
     ·have E:Hid (fieldE ⟨nm,wd,sz,md,ini⟩=1):=Lh (E1.out (fun h=>by omega));clear E1 E2
      go_enter Tryz.func64,Tryz.ntmps64
      go_wp2_with (first
       |(go_at_call 63;((with_reducible refine NC.out.mono ?_);rintro e w1 ⟨rfl,hb1⟩;have HB1:=Lh (HB0.out.then_ hb1);have HG:=HF.out.stay hb1;have d0:=HG.c 0 _ rfl;have d1:=HG.c 1 _ rfl;have d2:=HG.c 2 _ rfl;have d3:=HG.c 3 _ rfl;have d4:=HG.c 4 _ rfl;have HFG:=Lh HG;clear hb1 HG)))
      go_ret;exact tInt_mk (E.out).symm HB1.out
     ·have n4:decide (8<sz)=false:=decide_eq_false h4;by_cases h5:md<0
      ·have E:Hid (fieldE ⟨nm,wd,sz,md,ini⟩=1):=Lh (E1.out (fun h=>by omega));clear E1 E2
       go_enter Tryz.func64,Tryz.ntmps64
       go_wp2_with (first
        |(go_at_call 63;((with_reducible refine NC.out.mono ?_);rintro e w1 ⟨rfl,hb1⟩;have HB1:=Lh (HB0.out.then_ hb1);have HG:=HF.out.stay hb1;have d0:=HG.c 0 _ rfl;have d1:=HG.c 1 _ rfl;have d2:=HG.c 2 _ rfl;have d3:=HG.c 3 _ rfl;have d4:=HG.c 4 _ rfl;have HFG:=Lh HG;clear hb1 HG)))
       go_ret;exact tInt_mk (E.out).symm HB1.out
      ·have n5:decide (md<0)=false:=decide_eq_false h5;by_cases h6:2<md
       ·have E:Hid (fieldE ⟨nm,wd,sz,md,ini⟩=1):=Lh (E1.out (fun h=>by omega));clear E1 E2
        go_enter Tryz.func64,Tryz.ntmps64
        go_wp2_with (first
         |(go_at_call 63;((with_reducible refine NC.out.mono ?_);rintro e w1 ⟨rfl,hb1⟩;have HB1:=Lh (HB0.out.then_ hb1);have HG:=HF.out.stay hb1;have d0:=HG.c 0 _ rfl;have d1:=HG.c 1 _ rfl;have d2:=HG.c 2 _ rfl;have d3:=HG.c 3 _ rfl;have d4:=HG.c 4 _ rfl;have HFG:=Lh HG;clear hb1 HG)))
        go_ret;exact tInt_mk (E.out).symm HB1.out
       ·have n6:decide (2<md)=false:=decide_eq_false h6;by_cases h7:sz≠0∧md=2
        ·have E:Hid (fieldE ⟨nm,wd,sz,md,ini⟩=1):=Lh (E1.out (fun h=>by omega));clear E1 E2;obtain⟨g1,g2⟩:=h7;have g3:(md == 2)=true:=(by rw [beq_iff_eq];exact g2);have g4:(sz != 0)=true:=(by rw [bne_iff_ne];exact g1);clear g2 g1
         go_enter Tryz.func64,Tryz.ntmps64
         go_wp2_with (first
          |(go_at_call 63;((with_reducible refine NC.out.mono ?_);rintro e w1 ⟨rfl,hb1⟩;have HB1:=Lh (HB0.out.then_ hb1);have HG:=HF.out.stay hb1;have d0:=HG.c 0 _ rfl;have d1:=HG.c 1 _ rfl;have d2:=HG.c 2 _ rfl;have d3:=HG.c 3 _ rfl;have d4:=HG.c 4 _ rfl;have HFG:=Lh HG;clear hb1 HG)))
         go_ret;exact tInt_mk (E.out).symm HB1.out
        ·have g1:(sz != 0)=false∨((sz != 0)=true∧(md == 2)=false):=by
          by_cases g:sz=0
          ·exact .inl (by rw [g];rfl)
          ·exact .inr ⟨by rw [bne_iff_ne];exact g,by rw [beq_eq_false_iff_ne];exact fun e=>h7 ⟨g,e⟩⟩
         by_cases h8:ini<0
         ·have E:Hid (fieldE ⟨nm,wd,sz,md,ini⟩=1):=Lh (E1.out (fun h=>by omega));clear E1 E2 h7;by_cases hm:md=0
          ·subst hm;clear g1;have g1:(sz != 0)=false∨(sz != 0)=true:=(by cases (sz != 0)<;>simp);obtain rfl | rfl | rfl | rfl | rfl | rfl | rfl | rfl:=width_cases (wd:=wd) (by omega)
           all_goals
            rcases g1 with g1 | g1
            all_goals
             go_enter Tryz.func64,Tryz.ntmps64
             go_wp2_with (first
              |(go_at_call 63;((with_reducible refine NC.out.mono ?_);rintro e w1 ⟨rfl,hb1⟩;have HB1:=Lh (HB0.out.then_ hb1);have HG:=HF.out.stay hb1;have d0:=HG.c 0 _ rfl;have d1:=HG.c 1 _ rfl;have d2:=HG.c 2 _ rfl;have d3:=HG.c 3 _ rfl;have d4:=HG.c 4 _ rfl;have HFG:=Lh HG;clear hb1 HG)))
             go_ret;exact tInt_mk (E.out).symm HB1.out
          ·have hm0:(md == 0)=false:=(by rw [beq_eq_false_iff_ne];exact hm);clear hm;rcases g1 with g1 | ⟨g1,g2⟩
           all_goals
            go_enter Tryz.func64,Tryz.ntmps64
            go_wp2_with (first
             |(go_at_call 63;((with_reducible refine NC.out.mono ?_);rintro e w1 ⟨rfl,hb1⟩;have HB1:=Lh (HB0.out.then_ hb1);have HG:=HF.out.stay hb1;have d0:=HG.c 0 _ rfl;have d1:=HG.c 1 _ rfl;have d2:=HG.c 2 _ rfl;have d3:=HG.c 3 _ rfl;have d4:=HG.c 4 _ rfl;have HFG:=Lh HG;clear hb1 HG)))
            go_ret;exact tInt_mk (E.out).symm HB1.out
         ·have n8:decide (ini<0)=false:=decide_eq_false h8;have EM:Hid (∀ b:Bool,decide (maxI ⟨nm,wd,sz,md,ini⟩<ini)=b→fieldE ⟨nm,wd,sz,md,ini⟩=if b=true then 1 else 0):=Lh fun b hb=>by
           cases b
           ·rw [if_neg (by simp)];exact E2.out ⟨by omega,by omega,by omega,by omega,by omega,by omega,fun g=>h7 ⟨by omega,g.2⟩,by omega,by have:=of_decide_eq_false hb;omega⟩
           ·rw [if_pos rfl];exact E1.out (fun h=>by have:=of_decide_eq_true hb;omega)
          clear E1 E2 h7;by_cases hm:md=0
          ·subst hm;clear g1;have g1:(sz != 0)=false∨(sz != 0)=true:=(by cases (sz != 0)<;>simp);by_cases v1:wd=1
           ·subst v1;have EM2:Hid (∀ b:Bool,decide (((1):Int)<ini)=b→fieldE ⟨nm,1,sz,0,ini⟩=if b=true then 1 else 0):=EM;clear EM;cases hq:decide (((1):Int)<ini)
            all_goals
             have E:=Lh (EM2.out _ hq);clear EM2;rcases g1 with g1 | g1
             all_goals
              go_enter Tryz.func64,Tryz.ntmps64
              go_wp2_with (first
               |(go_at_call 63;((with_reducible refine NC.out.mono ?_);rintro e w1 ⟨rfl,hb1⟩;have HB1:=Lh (HB0.out.then_ hb1);have HG:=HF.out.stay hb1;have d0:=HG.c 0 _ rfl;have d1:=HG.c 1 _ rfl;have d2:=HG.c 2 _ rfl;have d3:=HG.c 3 _ rfl;have d4:=HG.c 4 _ rfl;have HFG:=Lh HG;clear hb1 HG)))
              go_ret;exact tInt_mk (E.out).symm HB1.out
           by_cases v2:wd=2
           ·subst v2;have EM2:Hid (∀ b:Bool,decide (((3):Int)<ini)=b→fieldE ⟨nm,2,sz,0,ini⟩=if b=true then 1 else 0):=EM;clear EM;cases hq:decide (((3):Int)<ini)
            all_goals
             have E:=Lh (EM2.out _ hq);clear EM2;rcases g1 with g1 | g1
             all_goals
              go_enter Tryz.func64,Tryz.ntmps64
              go_wp2_with (first
               |(go_at_call 63;((with_reducible refine NC.out.mono ?_);rintro e w1 ⟨rfl,hb1⟩;have HB1:=Lh (HB0.out.then_ hb1);have HG:=HF.out.stay hb1;have d0:=HG.c 0 _ rfl;have d1:=HG.c 1 _ rfl;have d2:=HG.c 2 _ rfl;have d3:=HG.c 3 _ rfl;have d4:=HG.c 4 _ rfl;have HFG:=Lh HG;clear hb1 HG)))
              go_ret;exact tInt_mk (E.out).symm HB1.out
           by_cases v3:wd=3
           ·subst v3;have EM2:Hid (∀ b:Bool,decide (((7):Int)<ini)=b→fieldE ⟨nm,3,sz,0,ini⟩=if b=true then 1 else 0):=EM;clear EM;cases hq:decide (((7):Int)<ini)
            all_goals
             have E:=Lh (EM2.out _ hq);clear EM2;rcases g1 with g1 | g1
             all_goals
              go_enter Tryz.func64,Tryz.ntmps64
              go_wp2_with (first
               |(go_at_call 63;((with_reducible refine NC.out.mono ?_);rintro e w1 ⟨rfl,hb1⟩;have HB1:=Lh (HB0.out.then_ hb1);have HG:=HF.out.stay hb1;have d0:=HG.c 0 _ rfl;have d1:=HG.c 1 _ rfl;have d2:=HG.c 2 _ rfl;have d3:=HG.c 3 _ rfl;have d4:=HG.c 4 _ rfl;have HFG:=Lh HG;clear hb1 HG)))
              go_ret;exact tInt_mk (E.out).symm HB1.out
           by_cases v4:wd=4
           ·subst v4;have EM2:Hid (∀ b:Bool,decide (((15):Int)<ini)=b→fieldE ⟨nm,4,sz,0,ini⟩=if b=true then 1 else 0):=EM;clear EM;cases hq:decide (((15):Int)<ini)
            all_goals
             have E:=Lh (EM2.out _ hq);clear EM2;rcases g1 with g1 | g1
             all_goals
              go_enter Tryz.func64,Tryz.ntmps64
              go_wp2_with (first
               |(go_at_call 63;((with_reducible refine NC.out.mono ?_);rintro e w1 ⟨rfl,hb1⟩;have HB1:=Lh (HB0.out.then_ hb1);have HG:=HF.out.stay hb1;have d0:=HG.c 0 _ rfl;have d1:=HG.c 1 _ rfl;have d2:=HG.c 2 _ rfl;have d3:=HG.c 3 _ rfl;have d4:=HG.c 4 _ rfl;have HFG:=Lh HG;clear hb1 HG)))
              go_ret;exact tInt_mk (E.out).symm HB1.out
           by_cases v5:wd=5
           ·subst v5;have EM2:Hid (∀ b:Bool,decide (((31):Int)<ini)=b→fieldE ⟨nm,5,sz,0,ini⟩=if b=true then 1 else 0):=EM;clear EM;cases hq:decide (((31):Int)<ini)
            all_goals
             have E:=Lh (EM2.out _ hq);clear EM2;rcases g1 with g1 | g1
             all_goals
              go_enter Tryz.func64,Tryz.ntmps64
              go_wp2_with (first
               |(go_at_call 63;((with_reducible refine NC.out.mono ?_);rintro e w1 ⟨rfl,hb1⟩;have HB1:=Lh (HB0.out.then_ hb1);have HG:=HF.out.stay hb1;have d0:=HG.c 0 _ rfl;have d1:=HG.c 1 _ rfl;have d2:=HG.c 2 _ rfl;have d3:=HG.c 3 _ rfl;have d4:=HG.c 4 _ rfl;have HFG:=Lh HG;clear hb1 HG)))
              go_ret;exact tInt_mk (E.out).symm HB1.out
           by_cases v6:wd=6
           ·subst v6;have EM2:Hid (∀ b:Bool,decide (((63):Int)<ini)=b→fieldE ⟨nm,6,sz,0,ini⟩=if b=true then 1 else 0):=EM;clear EM;cases hq:decide (((63):Int)<ini)
            all_goals
             have E:=Lh (EM2.out _ hq);clear EM2;rcases g1 with g1 | g1
             all_goals
              go_enter Tryz.func64,Tryz.ntmps64
              go_wp2_with (first
               |(go_at_call 63;((with_reducible refine NC.out.mono ?_);rintro e w1 ⟨rfl,hb1⟩;have HB1:=Lh (HB0.out.then_ hb1);have HG:=HF.out.stay hb1;have d0:=HG.c 0 _ rfl;have d1:=HG.c 1 _ rfl;have d2:=HG.c 2 _ rfl;have d3:=HG.c 3 _ rfl;have d4:=HG.c 4 _ rfl;have HFG:=Lh HG;clear hb1 HG)))
              go_ret;exact tInt_mk (E.out).symm HB1.out
           by_cases v7:wd=7
           ·subst v7;have EM2:Hid (∀ b:Bool,decide (((127):Int)<ini)=b→fieldE ⟨nm,7,sz,0,ini⟩=if b=true then 1 else 0):=EM;clear EM;cases hq:decide (((127):Int)<ini)
            all_goals
             have E:=Lh (EM2.out _ hq);clear EM2;rcases g1 with g1 | g1
             all_goals
              go_enter Tryz.func64,Tryz.ntmps64
              go_wp2_with (first
               |(go_at_call 63;((with_reducible refine NC.out.mono ?_);rintro e w1 ⟨rfl,hb1⟩;have HB1:=Lh (HB0.out.then_ hb1);have HG:=HF.out.stay hb1;have d0:=HG.c 0 _ rfl;have d1:=HG.c 1 _ rfl;have d2:=HG.c 2 _ rfl;have d3:=HG.c 3 _ rfl;have d4:=HG.c 4 _ rfl;have HFG:=Lh HG;clear hb1 HG)))
              go_ret;exact tInt_mk (E.out).symm HB1.out
           by_cases v8:wd=8
           ·subst v8;have EM2:Hid (∀ b:Bool,decide (((255):Int)<ini)=b→fieldE ⟨nm,8,sz,0,ini⟩=if b=true then 1 else 0):=EM;clear EM;cases hq:decide (((255):Int)<ini)
            all_goals
             have E:=Lh (EM2.out _ hq);clear EM2;rcases g1 with g1 | g1
             all_goals
              go_enter Tryz.func64,Tryz.ntmps64
              go_wp2_with (first
               |(go_at_call 63;((with_reducible refine NC.out.mono ?_);rintro e w1 ⟨rfl,hb1⟩;have HB1:=Lh (HB0.out.then_ hb1);have HG:=HF.out.stay hb1;have d0:=HG.c 0 _ rfl;have d1:=HG.c 1 _ rfl;have d2:=HG.c 2 _ rfl;have d3:=HG.c 3 _ rfl;have d4:=HG.c 4 _ rfl;have HFG:=Lh HG;clear hb1 HG)))
              go_ret;exact tInt_mk (E.out).symm HB1.out
           omega
          ·have hm0:(md == 0)=false:=(by rw [beq_eq_false_iff_ne];exact hm);have M0:maxI ⟨nm,wd,sz,md,ini⟩=0:=if_neg hm;rw [M0] at EM;clear hm M0;cases hq:decide ((0:Int)<ini)
           all_goals
            have E:=Lh (EM.out _ hq);clear EM;rcases g1 with g1 | ⟨g1,g2⟩
            all_goals
             go_enter Tryz.func64,Tryz.ntmps64
             go_wp2_with (first
              |(go_at_call 63;((with_reducible refine NC.out.mono ?_);rintro e w1 ⟨rfl,hb1⟩;have HB1:=Lh (HB0.out.then_ hb1);have HG:=HF.out.stay hb1;have d0:=HG.c 0 _ rfl;have d1:=HG.c 1 _ rfl;have d2:=HG.c 2 _ rfl;have d3:=HG.c 3 _ rfl;have d4:=HG.c 4 _ rfl;have HFG:=Lh HG;clear hb1 HG)))
             go_ret;exact tInt_mk (E.out).symm HB1.out
end ClW
end Go.Proofs.YtihnejaopejbgaaGreatDoor
