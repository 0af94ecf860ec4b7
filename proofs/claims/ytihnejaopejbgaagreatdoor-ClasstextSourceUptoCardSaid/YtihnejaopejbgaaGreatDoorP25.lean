/-
  Laws that the card uses; no conditions beside those that each states (ExRefC).
-/
import Derived.Test.YtihnejaopejbgaaGreatDoorP22
set_option maxRecDepth 100000
set_option maxHeartbeats 16000000
namespace Go.Proofs.YtihnejaopejbgaaGreatDoor
namespace ExW
open Go Go.RowKit NumM LexW LexM ExM
theorem takes_out {o:Int} {k:Nat} (h:¬ (1≤o∧o≤25)):takesS o k=false:=by
 unfold takesS;rw [if_neg (by omega),ar_out h];exact decide_eq_false (by omega)
theorem great_cases (o:Int):(o=1∧greatS o=65535)∨(o≠1∧greatS o=0):=by
 unfold greatS;by_cases h:o=1
 ·exact .inl ⟨h,if_pos h⟩
 ·exact .inr ⟨h,if_neg h⟩
theorem flt_eq (o n:Int) (s:ByteArray) (k:Nat):fltS ⟨0,o,n,s,k⟩=if (!takesS o k||(decide (n<0)||(decide (greatS o<n)||(!decide (s.size=0)&&(!isVr o&&!isAr o)))))=true then 1 else if ((isVr o&&!varB s.data.toList)||(isAr o&&!nmB s.data.toList))=true then 7 else 0:=rfl
theorem wrong_any (o n:Int) (s:ByteArray) (p:Option Addr) (k cap:Nat) (w:World) (hs:s.size≤140737488351232) (hk:k≤140737488351232) :
  Calls Tryz.prog 167 #[xv o n s (.slice p k cap)] w (tInt (fltS ⟨0,o,n,s,k⟩) w):=by
 have NC:Hid (∀ W,Calls Tryz.prog 182 #[.int .i64 o] W fun e w'=>e=.returned (.bool (isVr o||isAr o))∧W=w'):=(Lh fun W=>named_any o W);have AC:Hid (∀ W,Calls Tryz.prog 183 #[.int .i64 o] W fun e w'=>e=.returned (.int .i64 (arS o))∧W=w'):=(Lh fun W=>arityR_any o W);have VC:Hid (∀ W,Calls Tryz.prog 125 #[.string s] W (tBool (varB s.data.toList) W)):=(Lh fun W=>isVarR_any s W hs);have IC:Hid (∀ W,Calls Tryz.prog 63 #[.string s] W (tBool (nmB s.data.toList) W)):=(Lh fun W=>nameR_any s W hs);have FF:=Lh (flt_eq o n s k);have HB0:Hid (Below w.heap.size w (w.alloc (.cells #[.int .i64 o,.int .i64 n,.string s,.slice p k cap] 51))):=Lh ((Below.refl _ _).alloc (Nat.le_refl _) _);have four:=Four.new w (.int .i64 o) (.int .i64 n) (.string s) (.slice p k cap) 51;have c0:=four.c0;have c1:=four.c1;have c2:=four.c2;have c3:=four.c3;have hse:=str_empty s;clear hs four;by_cases ho:1≤o∧o≤25
 ·obtain⟨ho1,ho2⟩:=ho;by_cases hn:n<0
  ·have FE:Hid (fltS ⟨0,o,n,s,k⟩=1):=Lh (by rw [FF.out,decide_eq_true hn];simp);clear FF hse
   go_enter Tryz.func167,Tryz.ntmps167
   go_wp2_with (first
    |(go_at_call 182;((with_reducible refine (NC.out _).mono ?_);rintro e w1 ⟨rfl,rfl⟩))
    |(go_at_call 183;((with_reducible refine (AC.out _).mono ?_);rintro e w1 ⟨rfl,rfl⟩))
    |(go_at_call 125;((with_reducible refine (VC.out _).mono ?_);rintro e w1 ⟨rfl,hb⟩;have k0:=(hb.cell (p:=⟨w.heap.size,0,none⟩) (by simp)).trans c0;have k2:=(hb.cell (p:=⟨w.heap.size,2,none⟩) (by simp)).trans c2;have HB1:=Lh (HB0.out.then_ hb);clear hb))
    |(go_at_call 63;((with_reducible refine (IC.out _).mono ?_);rintro e w1 ⟨rfl,hb⟩;have HB1:=Lh (HB0.out.then_ hb);clear hb)))
   go_ret;first
    | exact tInt_mk (FE.out.symm) HB1.out
    | exact tInt_mk (FE.out.symm) HB0.out
  ·by_cases hg:65535<n
   ·have FE:Hid (fltS ⟨0,o,n,s,k⟩=1):=Lh (by rw [FF.out,decide_eq_true (show greatS o<n by rcases great_cases o with ⟨_,h⟩ | ⟨_,h⟩<;>omega)];simp);clear FF hse
    go_enter Tryz.func167,Tryz.ntmps167
    go_wp2_with (first
     |(go_at_call 182;((with_reducible refine (NC.out _).mono ?_);rintro e w1 ⟨rfl,rfl⟩))
     |(go_at_call 183;((with_reducible refine (AC.out _).mono ?_);rintro e w1 ⟨rfl,rfl⟩))
     |(go_at_call 125;((with_reducible refine (VC.out _).mono ?_);rintro e w1 ⟨rfl,hb⟩;have k0:=(hb.cell (p:=⟨w.heap.size,0,none⟩) (by simp)).trans c0;have k2:=(hb.cell (p:=⟨w.heap.size,2,none⟩) (by simp)).trans c2;have HB1:=Lh (HB0.out.then_ hb);clear hb))
     |(go_at_call 63;((with_reducible refine (IC.out _).mono ?_);rintro e w1 ⟨rfl,hb⟩;have HB1:=Lh (HB0.out.then_ hb);clear hb)))
    go_ret;first
     | exact tInt_mk (FE.out.symm) HB1.out
     | exact tInt_mk (FE.out.symm) HB0.out
   ·by_cases h1:n≠0∧o≠1
    ·have FE:Hid (fltS ⟨0,o,n,s,k⟩=1):=Lh (by rw [FF.out,decide_eq_true (show greatS o<n by rcases great_cases o with ⟨h,_⟩ | ⟨_,h⟩<;>omega)];simp);have e1:(n != 0)=true:=(by rw [bne_iff_ne];exact h1.1);have e2:(o != 1)=true:=(by rw [bne_iff_ne];exact h1.2);clear FF hse h1
     go_enter Tryz.func167,Tryz.ntmps167
     go_wp2_with (first
      |(go_at_call 182;((with_reducible refine (NC.out _).mono ?_);rintro e w1 ⟨rfl,rfl⟩))
      |(go_at_call 183;((with_reducible refine (AC.out _).mono ?_);rintro e w1 ⟨rfl,rfl⟩))
      |(go_at_call 125;((with_reducible refine (VC.out _).mono ?_);rintro e w1 ⟨rfl,hb⟩;have k0:=(hb.cell (p:=⟨w.heap.size,0,none⟩) (by simp)).trans c0;have k2:=(hb.cell (p:=⟨w.heap.size,2,none⟩) (by simp)).trans c2;have HB1:=Lh (HB0.out.then_ hb);clear hb))
      |(go_at_call 63;((with_reducible refine (IC.out _).mono ?_);rintro e w1 ⟨rfl,hb⟩;have HB1:=Lh (HB0.out.then_ hb);clear hb)))
     go_ret;first
      | exact tInt_mk (FE.out.symm) HB1.out
      | exact tInt_mk (FE.out.symm) HB0.out
    ·have FF2:Hid (fltS ⟨0,o,n,s,k⟩=if (!takesS o k||(!decide (s.size=0)&&(!isVr o&&!isAr o)))=true then 1 else if ((isVr o&&!varB s.data.toList)||(isAr o&&!nmB s.data.toList))=true then 7 else 0):=Lh (by
      rw [FF.out,decide_eq_false hn,decide_eq_false (show ¬ greatS o<n by rcases great_cases o with ⟨_,h⟩ | ⟨_,h⟩<;>omega)];rfl)
     have e1:(n != 0)=true→(o != 1)=false:=by
      intro a;rw [bne_iff_ne] at a;by_cases g:o=1
      ·rw [g];rfl
      ·exact absurd ⟨a,g⟩ h1
     have e3:((n != 0)=false)∨((n != 0)=true∧(o != 1)=false):=by
      cases g:(n != 0)
      ·exact .inl rfl
      ·exact .inr ⟨rfl,e1 g⟩
     clear FF h1 e1;by_cases hz:s.size≠0∧(isVr o||isAr o)=false
     ·have FE:Hid (fltS ⟨0,o,n,s,k⟩=1):=Lh (by
       have:(!isVr o&&!isAr o)=true:=(by rw [←Bool.not_or,hz.2];rfl);rw [FF2.out,decide_eq_false hz.1,this];simp)
      rw [decide_eq_false hz.1] at hse;rw [hz.2] at NC;clear FF2 hz;rcases e3 with e3 | ⟨e3,e4⟩
      all_goals
       go_enter Tryz.func167,Tryz.ntmps167
       go_wp2_with (first
        |(go_at_call 182;((with_reducible refine (NC.out _).mono ?_);rintro e w1 ⟨rfl,rfl⟩))
        |(go_at_call 183;((with_reducible refine (AC.out _).mono ?_);rintro e w1 ⟨rfl,rfl⟩))
        |(go_at_call 125;((with_reducible refine (VC.out _).mono ?_);rintro e w1 ⟨rfl,hb⟩;have k0:=(hb.cell (p:=⟨w.heap.size,0,none⟩) (by simp)).trans c0;have k2:=(hb.cell (p:=⟨w.heap.size,2,none⟩) (by simp)).trans c2;have HB1:=Lh (HB0.out.then_ hb);clear hb))
        |(go_at_call 63;((with_reducible refine (IC.out _).mono ?_);rintro e w1 ⟨rfl,hb⟩;have HB1:=Lh (HB0.out.then_ hb);clear hb)))
       go_ret;first
        | exact tInt_mk (FE.out.symm) HB1.out
        | exact tInt_mk (FE.out.symm) HB0.out
     ·have e5:s.toList.isEmpty=true∨(s.toList.isEmpty=false∧(isVr o||isAr o)=true):=by
       by_cases g:s.size=0
       ·exact .inl (by rw [hse,decide_eq_true g])
       ·refine .inr ⟨by rw [hse,decide_eq_false g],?_⟩;cases q:(isVr o||isAr o)
        ·exact absurd ⟨g,q⟩ hz
        ·rfl
      have FF3:Hid (fltS ⟨0,o,n,s,k⟩=if (!takesS o k)=true then 1 else if ((isVr o&&!varB s.data.toList)||(isAr o&&!nmB s.data.toList))=true then 7 else 0):=Lh (by
       rw [FF2.out];have:(!decide (s.size=0)&&(!isVr o&&!isAr o))=false:=by
        rw [←hse,←Bool.not_or];rcases e5 with e | ⟨e,f⟩
        ·rw [e];rfl
        ·rw [e,f];rfl
       rw [this,Bool.or_false])
      clear FF2 hz hse;by_cases h23:o=23
      ·subst h23;have e6:s.toList.isEmpty=true:=by
        rcases e5 with e | ⟨_,f⟩
        ·exact e
        ·cases f
       have e7:(n != 0)=false:=by
        rcases e3 with e | ⟨_,f⟩
        ·exact e
        ·cases f
       clear e3 e5;by_cases k3:(k:Int)<3
       ·have FE:Hid (fltS ⟨0,23,n,s,k⟩=1):=Lh (by rw [FF3.out,show takesS 23 k=false by simp [takesS];omega];rfl);clear FF3
        go_enter Tryz.func167,Tryz.ntmps167
        go_wp2_with (first
         |(go_at_call 182;((with_reducible refine (NC.out _).mono ?_);rintro e w1 ⟨rfl,rfl⟩))
         |(go_at_call 183;((with_reducible refine (AC.out _).mono ?_);rintro e w1 ⟨rfl,rfl⟩))
         |(go_at_call 125;((with_reducible refine (VC.out _).mono ?_);rintro e w1 ⟨rfl,hb⟩;have k0:=(hb.cell (p:=⟨w.heap.size,0,none⟩) (by simp)).trans c0;have k2:=(hb.cell (p:=⟨w.heap.size,2,none⟩) (by simp)).trans c2;have HB1:=Lh (HB0.out.then_ hb);clear hb))
         |(go_at_call 63;((with_reducible refine (IC.out _).mono ?_);rintro e w1 ⟨rfl,hb⟩;have HB1:=Lh (HB0.out.then_ hb);clear hb)))
        go_ret;first
         | exact tInt_mk (FE.out.symm) HB1.out
         | exact tInt_mk (FE.out.symm) HB0.out
       ·by_cases k33:33<(k:Int)
        ·have FE:Hid (fltS ⟨0,23,n,s,k⟩=1):=Lh (by rw [FF3.out,show takesS 23 k=false by simp [takesS];omega];rfl);clear FF3
         go_enter Tryz.func167,Tryz.ntmps167
         go_wp2_with (first
          |(go_at_call 182;((with_reducible refine (NC.out _).mono ?_);rintro e w1 ⟨rfl,rfl⟩))
          |(go_at_call 183;((with_reducible refine (AC.out _).mono ?_);rintro e w1 ⟨rfl,rfl⟩))
          |(go_at_call 125;((with_reducible refine (VC.out _).mono ?_);rintro e w1 ⟨rfl,hb⟩;have k0:=(hb.cell (p:=⟨w.heap.size,0,none⟩) (by simp)).trans c0;have k2:=(hb.cell (p:=⟨w.heap.size,2,none⟩) (by simp)).trans c2;have HB1:=Lh (HB0.out.then_ hb);clear hb))
          |(go_at_call 63;((with_reducible refine (IC.out _).mono ?_);rintro e w1 ⟨rfl,hb⟩;have HB1:=Lh (HB0.out.then_ hb);clear hb)))
         go_ret;first
          | exact tInt_mk (FE.out.symm) HB1.out
          | exact tInt_mk (FE.out.symm) HB0.out
        ·by_cases k2:k % 2=0
         ·have FE:Hid (fltS ⟨0,23,n,s,k⟩=1):=Lh (by rw [FF3.out,show takesS 23 k=false by simp [takesS];omega];rfl);have k2':(k:Int).tmod 2=0:=(by rw [Int.tmod_eq_emod_of_nonneg (by omega)];omega);clear FF3 k2
          go_enter Tryz.func167,Tryz.ntmps167
          go_wp2_with (first
           |(go_at_call 182;((with_reducible refine (NC.out _).mono ?_);rintro e w1 ⟨rfl,rfl⟩))
           |(go_at_call 183;((with_reducible refine (AC.out _).mono ?_);rintro e w1 ⟨rfl,rfl⟩))
           |(go_at_call 125;((with_reducible refine (VC.out _).mono ?_);rintro e w1 ⟨rfl,hb⟩;have k0:=(hb.cell (p:=⟨w.heap.size,0,none⟩) (by simp)).trans c0;have k2:=(hb.cell (p:=⟨w.heap.size,2,none⟩) (by simp)).trans c2;have HB1:=Lh (HB0.out.then_ hb);clear hb))
           |(go_at_call 63;((with_reducible refine (IC.out _).mono ?_);rintro e w1 ⟨rfl,hb⟩;have HB1:=Lh (HB0.out.then_ hb);clear hb)))
          go_ret;first
           | exact tInt_mk (FE.out.symm) HB1.out
           | exact tInt_mk (FE.out.symm) HB0.out
         ·have FE:Hid (fltS ⟨0,23,n,s,k⟩=0):=Lh (by rw [FF3.out,show takesS 23 k=true by simp [takesS];omega];rfl);have k2':(k:Int).tmod 2=1:=(by rw [Int.tmod_eq_emod_of_nonneg (by omega)];omega);clear FF3 k2
          go_enter Tryz.func167,Tryz.ntmps167
          go_wp2_with (first
           |(go_at_call 182;((with_reducible refine (NC.out _).mono ?_);rintro e w1 ⟨rfl,rfl⟩))
           |(go_at_call 183;((with_reducible refine (AC.out _).mono ?_);rintro e w1 ⟨rfl,rfl⟩))
           |(go_at_call 125;((with_reducible refine (VC.out _).mono ?_);rintro e w1 ⟨rfl,hb⟩;have k0:=(hb.cell (p:=⟨w.heap.size,0,none⟩) (by simp)).trans c0;have k2:=(hb.cell (p:=⟨w.heap.size,2,none⟩) (by simp)).trans c2;have HB1:=Lh (HB0.out.then_ hb);clear hb))
           |(go_at_call 63;((with_reducible refine (IC.out _).mono ?_);rintro e w1 ⟨rfl,hb⟩;have HB1:=Lh (HB0.out.then_ hb);clear hb)))
          go_ret;first
           | exact tInt_mk (FE.out.symm) HB1.out
           | exact tInt_mk (FE.out.symm) HB0.out
      ·have TT:takesS o k=decide ((k:Int)=arS o):=if_neg h23;have h23':(o == 23)=false:=(by rw [beq_eq_false_iff_ne];exact h23);have h23'':(o != 23)=true:=(by rw [bne_iff_ne];exact h23);by_cases hkk:(k:Int)=arS o
       ·have FF4:Hid (fltS ⟨0,o,n,s,k⟩=if ((isVr o&&!varB s.data.toList)||(isAr o&&!nmB s.data.toList))=true then 7 else 0):=Lh (by rw [FF3.out,TT,decide_eq_true hkk];rfl);have hk2:((k:Int) != arS o)=false:=(by rw [hkk];simp);clear FF3 TT h23 hkk;generalize arS o=G at *
        generalize varB s.data.toList=B at *
        generalize nmB s.data.toList=C at *
        rcases e3 with e3 | ⟨e3,e4⟩<;>rcases e5 with e5 | ⟨e5,e6⟩
        all_goals
         by_cases o2:o=2
         ·subst o2;rw [show (isVr 2||isAr 2)=true from rfl] at NC;first
           | exact absurd e4 (by decide)
           |(cases B
             all_goals
              go_enter Tryz.func167,Tryz.ntmps167
              go_wp2_with (first
               |(go_at_call 182;((with_reducible refine (NC.out _).mono ?_);rintro e w1 ⟨rfl,rfl⟩))
               |(go_at_call 183;((with_reducible refine (AC.out _).mono ?_);rintro e w1 ⟨rfl,rfl⟩))
               |(go_at_call 125;((with_reducible refine (VC.out _).mono ?_);rintro e w1 ⟨rfl,hb⟩;have k0:=(hb.cell (p:=⟨w.heap.size,0,none⟩) (by simp)).trans c0;have k2:=(hb.cell (p:=⟨w.heap.size,2,none⟩) (by simp)).trans c2;have HB1:=Lh (HB0.out.then_ hb);clear hb))
               |(go_at_call 63;((with_reducible refine (IC.out _).mono ?_);rintro e w1 ⟨rfl,hb⟩;have HB1:=Lh (HB0.out.then_ hb);clear hb)))
              go_ret;first
               | exact tInt_mk (by rw [FF4.out];rfl) HB1.out
               | exact tInt_mk (by rw [FF4.out];rfl) HB0.out)
         ·by_cases o3:o=3
          ·subst o3;first
            | exact absurd e4 (by decide)
            |(cases C
              all_goals
               go_enter Tryz.func167,Tryz.ntmps167
               go_wp2_with (first
                |(go_at_call 182;((with_reducible refine (NC.out _).mono ?_);rintro e w1 ⟨rfl,rfl⟩))
                |(go_at_call 183;((with_reducible refine (AC.out _).mono ?_);rintro e w1 ⟨rfl,rfl⟩))
                |(go_at_call 125;((with_reducible refine (VC.out _).mono ?_);rintro e w1 ⟨rfl,hb⟩;have k0:=(hb.cell (p:=⟨w.heap.size,0,none⟩) (by simp)).trans c0;have k2:=(hb.cell (p:=⟨w.heap.size,2,none⟩) (by simp)).trans c2;have HB1:=Lh (HB0.out.then_ hb);clear hb))
                |(go_at_call 63;((with_reducible refine (IC.out _).mono ?_);rintro e w1 ⟨rfl,hb⟩;have HB1:=Lh (HB0.out.then_ hb);clear hb)))
               go_ret;first
                | exact tInt_mk (by rw [FF4.out];rfl) HB1.out
                | exact tInt_mk (by rw [FF4.out];rfl) HB0.out)
          ·by_cases o24:o=24
           ·subst o24;first
             | exact absurd e4 (by decide)
             |(cases C
               all_goals
                go_enter Tryz.func167,Tryz.ntmps167
                go_wp2_with (first
                 |(go_at_call 182;((with_reducible refine (NC.out _).mono ?_);rintro e w1 ⟨rfl,rfl⟩))
                 |(go_at_call 183;((with_reducible refine (AC.out _).mono ?_);rintro e w1 ⟨rfl,rfl⟩))
                 |(go_at_call 125;((with_reducible refine (VC.out _).mono ?_);rintro e w1 ⟨rfl,hb⟩;have k0:=(hb.cell (p:=⟨w.heap.size,0,none⟩) (by simp)).trans c0;have k2:=(hb.cell (p:=⟨w.heap.size,2,none⟩) (by simp)).trans c2;have HB1:=Lh (HB0.out.then_ hb);clear hb))
                 |(go_at_call 63;((with_reducible refine (IC.out _).mono ?_);rintro e w1 ⟨rfl,hb⟩;have HB1:=Lh (HB0.out.then_ hb);clear hb)))
                go_ret;first
                 | exact tInt_mk (by rw [FF4.out];rfl) HB1.out
                 | exact tInt_mk (by rw [FF4.out];rfl) HB0.out)
           ·have e2:isVr o=false:=decide_eq_false o2;have e3':isAr o=false:=(by unfold isAr;rw [decide_eq_false o3,decide_eq_false o24];rfl);have o2':(o == 2)=false:=(by rw [beq_eq_false_iff_ne];exact o2);rw [e2,e3'] at NC FF4;first
             |(rw [e2,e3'] at e6;cases e6;done)
             |(clear o2 o3 o24 e2 e3'
               go_enter Tryz.func167,Tryz.ntmps167
               go_wp2_with (first
                |(go_at_call 182;((with_reducible refine (NC.out _).mono ?_);rintro e w1 ⟨rfl,rfl⟩))
                |(go_at_call 183;((with_reducible refine (AC.out _).mono ?_);rintro e w1 ⟨rfl,rfl⟩))
                |(go_at_call 125;((with_reducible refine (VC.out _).mono ?_);rintro e w1 ⟨rfl,hb⟩;have k0:=(hb.cell (p:=⟨w.heap.size,0,none⟩) (by simp)).trans c0;have k2:=(hb.cell (p:=⟨w.heap.size,2,none⟩) (by simp)).trans c2;have HB1:=Lh (HB0.out.then_ hb);clear hb))
                |(go_at_call 63;((with_reducible refine (IC.out _).mono ?_);rintro e w1 ⟨rfl,hb⟩;have HB1:=Lh (HB0.out.then_ hb);clear hb)))
               go_ret;first
                | exact tInt_mk (by rw [FF4.out];rfl) HB1.out
                | exact tInt_mk (by rw [FF4.out];rfl) HB0.out)
       ·have FE:Hid (fltS ⟨0,o,n,s,k⟩=1):=Lh (by rw [FF3.out,TT,decide_eq_false hkk];rfl);have hk2:((k:Int) != arS o)=true:=(by rw [bne_iff_ne];exact hkk);clear FF3 TT h23 hkk;generalize arS o=G at *
        rcases e3 with e3 | ⟨e3,e4⟩<;>rcases e5 with e5 | ⟨e5,e6⟩
        all_goals
         go_enter Tryz.func167,Tryz.ntmps167
         go_wp2_with (first
          |(go_at_call 182;((with_reducible refine (NC.out _).mono ?_);rintro e w1 ⟨rfl,rfl⟩))
          |(go_at_call 183;((with_reducible refine (AC.out _).mono ?_);rintro e w1 ⟨rfl,rfl⟩))
          |(go_at_call 125;((with_reducible refine (VC.out _).mono ?_);rintro e w1 ⟨rfl,hb⟩;have k0:=(hb.cell (p:=⟨w.heap.size,0,none⟩) (by simp)).trans c0;have k2:=(hb.cell (p:=⟨w.heap.size,2,none⟩) (by simp)).trans c2;have HB1:=Lh (HB0.out.then_ hb);clear hb))
          |(go_at_call 63;((with_reducible refine (IC.out _).mono ?_);rintro e w1 ⟨rfl,hb⟩;have HB1:=Lh (HB0.out.then_ hb);clear hb)))
         go_ret;first
          | exact tInt_mk (FE.out.symm) HB1.out
          | exact tInt_mk (FE.out.symm) HB0.out
 ·have FE:Hid (fltS ⟨0,o,n,s,k⟩=1):=Lh (by rw [FF.out,takes_out ho];rfl);have ho2:o<1∨(1≤o∧25<o):=(by omega);clear FF hse ho;rcases ho2 with h | ⟨h,h'⟩
  all_goals
   go_enter Tryz.func167,Tryz.ntmps167
   go_wp2_with (first
    |(go_at_call 182;((with_reducible refine (NC.out _).mono ?_);rintro e w1 ⟨rfl,rfl⟩))
    |(go_at_call 183;((with_reducible refine (AC.out _).mono ?_);rintro e w1 ⟨rfl,rfl⟩))
    |(go_at_call 125;((with_reducible refine (VC.out _).mono ?_);rintro e w1 ⟨rfl,hb⟩;have k0:=(hb.cell (p:=⟨w.heap.size,0,none⟩) (by simp)).trans c0;have k2:=(hb.cell (p:=⟨w.heap.size,2,none⟩) (by simp)).trans c2;have HB1:=Lh (HB0.out.then_ hb);clear hb))
    |(go_at_call 63;((with_reducible refine (IC.out _).mono ?_);rintro e w1 ⟨rfl,hb⟩;have HB1:=Lh (HB0.out.then_ hb);clear hb)))
   go_ret;first
    | exact tInt_mk (FE.out.symm) HB1.out
    | exact tInt_mk (FE.out.symm) HB0.out
end ExW
end Go.Proofs.YtihnejaopejbgaaGreatDoor
