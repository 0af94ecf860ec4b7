/-
  Laws that the card uses; no conditions beside those that each states (ExFault).
-/
import Derived.Test.YtihnejaopejbgaaGreatDoorP09
set_option maxRecDepth 100000
set_option maxHeartbeats 16000000
namespace Go.Proofs.YtihnejaopejbgaaGreatDoor
namespace ExW
open Go Go.RowKit NumM LexW LexM ExM
theorem takes_any (o:Int) (k:Nat) (w:World) (hk:k≤140737488351232) :
  Calls Tryz.prog 132 #[.int .i64 o,.int .i64 k] w fun e w'=>e=.returned (.bool (takesS o k))∧w=w':=by
 by_cases h:o=23
 ·subst h;by_cases h1:3≤(k:Int)
  ·by_cases h2:(k:Int)≤33
   ·go_enter Tryz.func132,Tryz.ntmps132
    go_wp2;go_ret;exact⟨retb (by rw [takesS,if_pos rfl,Bool.eq_iff_iff];simp only [beq_iff_eq,decide_eq_true_eq];omega),rfl⟩
   ·go_enter Tryz.func132,Tryz.ntmps132
    go_wp2;go_ret;exact⟨retb (by rw [takesS,if_pos rfl,eq_comm,decide_eq_false_iff_not];omega),rfl⟩
  ·go_enter Tryz.func132,Tryz.ntmps132
   go_wp2;go_ret;exact⟨retb (by rw [takesS,if_pos rfl,eq_comm,decide_eq_false_iff_not];omega),rfl⟩
 ·have h0:(o == 23)=false:=(by rw [beq_eq_false_iff_ne];exact h);have EE:Hid (takesS o k=((k:Int) == arS o)):=Lh (by rw [takesS,if_neg h,Bool.eq_iff_iff];simp);have AC:Hid (∀ W,Calls Tryz.prog 158 #[.int .i64 o] W fun e w'=>e=.returned (.int .i64 (arS o))∧W=w'):=(Lh fun W=>arity_any o W);clear h;generalize arS o=A at *
  go_enter Tryz.func132,Tryz.ntmps132
  go_wp2_with (go_at_call 158;((with_reducible refine (AC.out _).mono ?_);rintro e w' ⟨rfl,rfl⟩))
  go_ret;exact⟨retb (by rw [EE.out]),rfl⟩
theorem great_any (o:Int) (w:World):Calls Tryz.prog 133 #[.int .i64 o] w fun e w'=>e=.returned (.int .i64 (greatS o))∧w=w':=by
 by_cases h:o=1
 ·subst h
  go_enter Tryz.func133,Tryz.ntmps133
  go_wp2;go_ret;exact⟨rfl,rfl⟩
 ·have h0:(o == 1)=false:=(by rw [beq_eq_false_iff_ne];exact h);have EE:Hid (greatS o=0):=Lh (if_neg h);clear h;rw [EE.out]
  go_enter Tryz.func133,Tryz.ntmps133
  go_wp2;go_ret;exact⟨rfl,rfl⟩
theorem isVr_any (o:Int) (w:World):Calls Tryz.prog 134 #[.int .i64 o] w fun e w'=>e=.returned (.bool (isVr o))∧w=w':=by
 go_enter Tryz.func134,Tryz.ntmps134
 go_wp2;go_ret;exact⟨retb (by unfold isVr;rw [Bool.eq_iff_iff];simp),rfl⟩
theorem isAr_any (o:Int) (w:World):Calls Tryz.prog 135 #[.int .i64 o] w fun e w'=>e=.returned (.bool (isAr o))∧w=w':=by
 by_cases h:o=3
 ·subst h
  go_enter Tryz.func135,Tryz.ntmps135
  go_wp2;go_ret;exact⟨rfl,rfl⟩
 ·have h0:(o == 3)=false:=(by rw [beq_eq_false_iff_ne];exact h);have EE:Hid (isAr o=(o == 24)):=Lh (by unfold isAr;rw [Bool.eq_iff_iff];simp [h]);clear h
  go_enter Tryz.func135,Tryz.ntmps135
  go_wp2;go_ret;exact⟨retb (by rw [EE.out]),rfl⟩
def tInt (n:Int) (w:World) (e:Ending) (w':World):Prop:=e=.returned (.int .i64 n)∧Below w.heap.size w w'
theorem tInt_mk {a n:Int} {w w':World} (h:a=n) (hb:Below w.heap.size w w'):tInt n w (.returned (.int .i64 a)) w':=by subst h;exact⟨rfl,hb⟩
theorem drewB {W w1:World} {n:Nat} (h:Below W.heap.size W w1):Below W.heap.size W (w1.drewN n):=⟨h.os,h.tape,h.output,h.size,h.block⟩
theorem quietA {P:Program} {f:FuncId} {args:Array Value} {w:World} {a n:Nat} {v:Value}
  (h:Calls P f args (w.drewN (a+n)) fun e w'=>e=.returned v∧w.drewN (a+n)=w') :
  Calls P f args (w.drewN (a+n)) fun e w''=>e=.returned v∧∃ m,w''=w.drewN (a+m) :=
 h.mono fun _ _ ⟨he,hm⟩=>⟨he,n,hm.symm⟩
theorem str_empty (s:ByteArray):s.toList.isEmpty=decide (s.size=0):=by
 rw [Lib.toList_data,←len_data];cases s.data.toList<;>simp
theorem fault_any (o n:Int) (s:ByteArray) (p:Option Addr) (k cap:Nat) (w:World) (hs:s.size≤140737488351232) (hk:k≤140737488351232) (ht:Tab w) :
  Calls Tryz.prog 114 #[xv o n s (.slice p k cap)] w (tInt (fltS ⟨0,o,n,s,k⟩) w):=by
 have HT:=Lh ht;have TC:Hid (∀ W,Calls Tryz.prog 132 #[.int .i64 o,.int .i64 k] W fun e w'=>e=.returned (.bool (takesS o k))∧W=w'):=(Lh fun W=>takes_any o k W hk);have GC:Hid (∀ W,Calls Tryz.prog 133 #[.int .i64 o] W fun e w'=>e=.returned (.int .i64 (greatS o))∧W=w'):=(Lh fun W=>great_any o W);have VC:Hid (∀ W,Calls Tryz.prog 134 #[.int .i64 o] W fun e w'=>e=.returned (.bool (isVr o))∧W=w'):=(Lh fun W=>isVr_any o W);have AC:Hid (∀ W,Calls Tryz.prog 135 #[.int .i64 o] W fun e w'=>e=.returned (.bool (isAr o))∧W=w'):=(Lh fun W=>isAr_any o W);have NV:Hid (∀ W,Below w.heap.size w W→Calls Tryz.prog 136 #[.string s] W fun e w'=>e=.returned (.bool (varB s.data.toList))∧Below W.heap.size W w'):=(Lh fun W hb=>isVar_any s W hs (HT.out.later hb));have NA:Hid (∀ W,Below w.heap.size w W→Calls Tryz.prog 49 #[.string s] W fun e w'=>e=.returned (.bool (nmB s.data.toList))∧Below W.heap.size W w'):=(Lh fun W hb=>by rw [←nameS_eq];exact isName_any s W hs (HT.out.later hb));have FF:Hid (fltS ⟨0,o,n,s,k⟩=if (!takesS o k||(decide (n<0)||(decide (greatS o<n)||(!decide (s.size=0)&&(!isVr o&&!isAr o)))))=true then 1 else if ((isVr o&&!varB s.data.toList)||(isAr o&&!nmB s.data.toList))=true then 7 else 0):=Lh rfl;have HB0:Hid (∀ a,Below w.heap.size w ((w.alloc (.cells #[.int .i64 o,.int .i64 n,.string s,.slice p k cap] 51)).drewN a)):=(Lh fun a=>drewB ((Below.refl _ _).alloc (Nat.le_refl _) _));have hse:=str_empty s;clear ht hs;generalize takesS o k=T at *
 generalize greatS o=G at *
 generalize isVr o=V at *
 generalize isAr o=A at *
 generalize varB s.data.toList=B at *
 generalize nmB s.data.toList=C at *
 generalize decide (s.size=0)=Z at *
 cases T
 ·go_enter Tryz.func114,Tryz.ntmps114
  go_wp2;go_quiet (fail)
  go_wp2_with (first
   |(go_at_call 132;((with_reducible refine (TC.out _).mono ?_);rintro e w1 ⟨rfl,rfl⟩)))
  go_ret;exact tInt_mk (by rw [FF.out];rfl) (HB0.out _)
 ·by_cases hn:n<0
  ·have FE:Hid (fltS ⟨0,o,n,s,k⟩=1):=Lh (by rw [FF.out,decide_eq_true hn];rfl);clear FF
   go_enter Tryz.func114,Tryz.ntmps114
   go_wp2;go_quiet (fail)
   go_wp2_with (first
    |(go_at_call 132;((with_reducible refine (TC.out _).mono ?_);rintro e w1 ⟨rfl,rfl⟩)))
   go_ret;exact tInt_mk FE.out.symm (HB0.out _)
  ·have FF2:=FF.out;rw [decide_eq_false hn] at FF2;have FF2:=Lh FF2;clear FF;by_cases hg:G<n
   ·have FE:Hid (fltS ⟨0,o,n,s,k⟩=1):=Lh (by rw [FF2.out,decide_eq_true hg];rfl);clear FF2
    go_enter Tryz.func114,Tryz.ntmps114
    go_wp2;go_quiet (fail)
    go_wp2_with (first
     |(go_at_call 132;((with_reducible refine (TC.out _).mono ?_);rintro e w1 ⟨rfl,rfl⟩)))
    go_quiet ((go_at_call 133;exact quietA (GC.out _)))
    go_wp2;go_ret;exact tInt_mk FE.out.symm (by first | exact HB0.out _ | exact drewB (HB0.out _))
   ·have FF3:=FF2.out;rw [decide_eq_false hg] at FF3;have FF3:=Lh FF3;clear FF2;cases Z<;>cases V<;>cases A<;>cases B<;>cases C
    all_goals
     have FE:=Lh FF3.out;clear FF3
     go_enter Tryz.func114,Tryz.ntmps114
     go_wp2;go_quiet (fail)
     go_wp2_with (first
      |(go_at_call 132;((with_reducible refine (TC.out _).mono ?_);rintro e w1 ⟨rfl,rfl⟩)))
     go_quiet ((go_at_call 133;exact quietA (GC.out _)))
     go_wp2_with (first
      |(go_at_call 134;((with_reducible refine (VC.out _).mono ?_);rintro e w1 ⟨rfl,rfl⟩))
      |(go_at_call 135;((with_reducible refine (AC.out _).mono ?_);rintro e w1 ⟨rfl,rfl⟩))
      |(go_at_call 136;((with_reducible refine (NV.out _ (HB0.out _)).mono ?_);rintro e w1 ⟨rfl,hb⟩;have HB1:=Lh ((HB0.out _).then_ hb);clear hb))
      |(go_at_call 49;((with_reducible refine (NA.out _ (HB0.out _)).mono ?_);rintro e w1 ⟨rfl,hb⟩;have HB1:=Lh ((HB0.out _).then_ hb);clear hb))
      |(go_at_call 49;((with_reducible refine (NA.out _ HB1.out).mono ?_);rintro e w2 ⟨rfl,hb⟩;have HB2:=Lh (HB1.out.then_ hb);clear hb)))
     go_ret;exact tInt_mk (by rw [FE.out];rfl) (by first | exact HB0.out _ | exact HB2.out | exact HB1.out)
end ExW
end Go.Proofs.YtihnejaopejbgaaGreatDoor
