/-
  Laws that the card uses; no conditions beside those that each states (ItRUn).
-/
import Derived.Test.YtihnejaopejbgaaGreatDoorP40
set_option maxRecDepth 100000
set_option maxHeartbeats 16000000
namespace Go.Proofs.YtihnejaopejbgaaGreatDoor
namespace ItW
open Go Go.RowKit NumM LexW LexM ExM ExW ItM
def askK (k:Int):Bool:=decide (k=1)||(decide (k=2)||decide (k=4))
theorem asksR_any (k:Int) (w:World):Calls Tryz.prog 124 #[.int .i64 k] w fun e w'=>e=.returned (.bool (askK k))∧w=w':=by
 by_cases h1:k=1
 ·subst h1
  go_enter Tryz.func124,Tryz.ntmps124
  go_wp2;go_ret;exact⟨rfl,rfl⟩
 ·have f1:(k == 1)=false:=(by rw [beq_eq_false_iff_ne];exact h1);by_cases h2:k=2
  ·subst h2
   go_enter Tryz.func124,Tryz.ntmps124
   go_wp2;go_ret;exact⟨rfl,rfl⟩
  ·have f2:(k == 2)=false:=(by rw [beq_eq_false_iff_ne];exact h2);by_cases h4:k=4
   ·subst h4
    go_enter Tryz.func124,Tryz.ntmps124
    go_wp2;go_ret;exact⟨rfl,rfl⟩
   ·have f4:(k == 4)=false:=(by rw [beq_eq_false_iff_ne];exact h4);have E:Hid (false=askK k):=Lh (by unfold askK;rw [decide_eq_false h1,decide_eq_false h2,decide_eq_false h4];rfl);clear h1 h2 h4
    go_enter Tryz.func124,Tryz.ntmps124
    go_wp2;go_ret;exact⟨retb E.out,rfl⟩
theorem kz (k:Nat):k=0∨(0<k∧((k:Int) == 0)=false∧decide (k=0)=false):=by
 rcases Nat.eq_zero_or_pos k with h | h
 ·exact .inl h
 ·exact .inr ⟨h,by rw [beq_eq_false_iff_ne];omega,decide_eq_false (by omega)⟩
theorem unusedR_1 (x:It) (a4 a7 a8 a9 a10 a11:Value) (N:Nat) (w:World) (h:IV N w a4 a7 a8 a9 a10 a11 x) (hN:N≤w.heap.size) (hsz:sz x.e≤2000000) (hk:x.kd=1) :
  Calls Tryz.prog 101 #[iv x.kd x.e.op x.e.n x.e.nm a4 x.nm x.ix a7 a8 a9 a10 a11] w (tBool (freeB x) w):=by
 have hE:ExAt w.heap.size w (xv x.e.op x.e.n x.e.nm a4) x.e:=h.ex.wide hN;obtain⟨kd,o,n,en,p4,k4,c4,nm,ix,p7,k7,c7,p8,k8,c8,p9,k9,c9,p10,k10,c10,p11,k11,c11,ev,hv⟩:=h.open_;have ev2:=ev;simp only [Value.agg.injEq,Array.mk.injEq,List.cons.injEq] at ev2;obtain⟨-,-,-,-,rfl,-,-,rfl,rfl,rfl,rfl,rfl,-⟩:=ev2;rw [ev];obtain⟨e0,e1,e2,e3,e5,e6,l4,l7,l8,l9,l10,l11,-⟩:=hv;rw [e1,e2,e3] at hE;have FB:Hid (freeB x=(isEmp nm&&(isEmp ix&&(decide (k7=0)&&(decide (k8=0)&&(decide (k9=0)&&(decide (k10=0)&&(decide (k11=0))))))))):=Lh (by
   unfold freeB;rw [hk,e5,e6,isEmpty_len,isEmpty_len,isEmpty_len,isEmpty_len,isEmpty_len,l7,l8,l9,l10,l11];simp)
 rw [hk] at e0;subst e0;clear h ev e1 e2 e3 e5 e6 l4 l7 l8 l9 l10 l11 hN hk;obtain⟨cs,hcs⟩:∃ cs,cs=ics 1 o n en (.slice p4 k4 c4) nm ix (.slice p7 k7 c7) (.slice p8 k8 c8) (.slice p9 k9 c9) (.slice p10 k10 c10) (.slice p11 k11 c11):=⟨_,rfl⟩;have F0:=Blk.new w cs 53;have HB:=Lh (ba w (.cells cs.toArray 53));have SC:Hid (Calls Tryz.prog 99 #[xv o n en (.slice p4 k4 c4),xv 0 0 ⟨#[]⟩ (.slice none 0 0)] (w.alloc (.cells cs.toArray 53)) (tBool (eqB x.e zE) (w.alloc (.cells cs.toArray 53)))):=Lh
  (sameR_any x.e zE w.heap.size _ _ _ (hE.under HB.out) (.of (by decide) (ArgsAt.nil _ _ none 0)) (by simp) hsz)
 rw [eqB_zE] at SC;subst hcs;have d0:=F0.c 0 _ rfl;have d1:=F0.c 1 _ rfl;have d2:=F0.c 2 _ rfl;have d3:=F0.c 3 _ rfl;have d4:=F0.c 4 _ rfl;have d5:=F0.c 5 _ rfl;have d6:=F0.c 6 _ rfl;have d7:=F0.c 7 _ rfl;have d8:=F0.c 8 _ rfl;have d9:=F0.c 9 _ rfl;have d10:=F0.c 10 _ rfl;have d11:=F0.c 11 _ rfl;have hn:=isEmp_toList nm;have hi:=isEmp_toList ix;have HF:=Lh F0;have AC:Hid (∀ W,Calls Tryz.prog 124 #[.int .i64 1] W fun e w'=>e=.returned (.bool true)∧W=w'):=(Lh fun W=>asksR_any 1 W);clear F0 hE hsz;generalize isEmp nm=a at *
 generalize isEmp ix=b at *
 generalize zB x.e=z at *
 rcases kz k7 with rfl | ⟨g7,b7,i7⟩
 cases a
 rotate_left
 cases b
 rotate_left
 rcases kz k8 with rfl | ⟨g8,b8,i8⟩
 rcases kz k9 with rfl | ⟨g9,b9,i9⟩
 rcases kz k10 with rfl | ⟨g10,b10,i10⟩
 rcases kz k11 with rfl | ⟨g11,b11,i11⟩
 all_goals
  cases hq:freeB x
  all_goals (have hr:=FB.out;rw [hq] at hr;try simp [*] at hr)
 all_goals
  clear FB hq
  (try clear hr)
  go_enter Tryz.func101,Tryz.ntmps101
  go_wp2_with (first
   |(go_at_call 124;((with_reducible refine (AC.out _).mono ?_);rintro e w0 ⟨rfl,rfl⟩))
   |(go_at_call 99;((with_reducible refine SC.out.mono ?_);rintro e w1 ⟨rfl,hb⟩;have HB1:=Lh (HB.out.then_ hb);have F1:=HF.out.stay hb;(try clear d0);(try clear d2);(try clear d5);(try clear d6);(try clear d7);(try clear d8);(try clear d9);(try clear d10);(try clear d11);have d0:=F1.c 0 _ rfl;have d5:=F1.c 5 _ rfl;have d6:=F1.c 6 _ rfl;have d7:=F1.c 7 _ rfl;have d8:=F1.c 8 _ rfl;have d9:=F1.c 9 _ rfl;have d10:=F1.c 10 _ rfl;have d11:=F1.c 11 _ rfl;clear hb F1)))
  go_ret;exact tBool_mk rfl (by first | exact HB1.out | exact HB.out)
theorem unusedR_2 (x:It) (a4 a7 a8 a9 a10 a11:Value) (N:Nat) (w:World) (h:IV N w a4 a7 a8 a9 a10 a11 x) (hN:N≤w.heap.size) (hsz:sz x.e≤2000000) (hk:x.kd=2) :
  Calls Tryz.prog 101 #[iv x.kd x.e.op x.e.n x.e.nm a4 x.nm x.ix a7 a8 a9 a10 a11] w (tBool (freeB x) w):=by
 have hE:ExAt w.heap.size w (xv x.e.op x.e.n x.e.nm a4) x.e:=h.ex.wide hN;obtain⟨kd,o,n,en,p4,k4,c4,nm,ix,p7,k7,c7,p8,k8,c8,p9,k9,c9,p10,k10,c10,p11,k11,c11,ev,hv⟩:=h.open_;have ev2:=ev;simp only [Value.agg.injEq,Array.mk.injEq,List.cons.injEq] at ev2;obtain⟨-,-,-,-,rfl,-,-,rfl,rfl,rfl,rfl,rfl,-⟩:=ev2;rw [ev];obtain⟨e0,e1,e2,e3,e5,e6,l4,l7,l8,l9,l10,l11,-⟩:=hv;rw [e1,e2,e3] at hE;have FB:Hid (freeB x=(isEmp nm&&(isEmp ix&&(decide (k7=0)&&(decide (k8=0)&&(decide (k9=0)&&(decide (k10=0)&&(decide (k11=0))))))))):=Lh (by
   unfold freeB;rw [hk,e5,e6,isEmpty_len,isEmpty_len,isEmpty_len,isEmpty_len,isEmpty_len,l7,l8,l9,l10,l11];simp)
 rw [hk] at e0;subst e0;clear h ev e1 e2 e3 e5 e6 l4 l7 l8 l9 l10 l11 hN hk;obtain⟨cs,hcs⟩:∃ cs,cs=ics 2 o n en (.slice p4 k4 c4) nm ix (.slice p7 k7 c7) (.slice p8 k8 c8) (.slice p9 k9 c9) (.slice p10 k10 c10) (.slice p11 k11 c11):=⟨_,rfl⟩;have F0:=Blk.new w cs 53;have HB:=Lh (ba w (.cells cs.toArray 53));have SC:Hid (Calls Tryz.prog 99 #[xv o n en (.slice p4 k4 c4),xv 0 0 ⟨#[]⟩ (.slice none 0 0)] (w.alloc (.cells cs.toArray 53)) (tBool (eqB x.e zE) (w.alloc (.cells cs.toArray 53)))):=Lh
  (sameR_any x.e zE w.heap.size _ _ _ (hE.under HB.out) (.of (by decide) (ArgsAt.nil _ _ none 0)) (by simp) hsz)
 rw [eqB_zE] at SC;subst hcs;have d0:=F0.c 0 _ rfl;have d1:=F0.c 1 _ rfl;have d2:=F0.c 2 _ rfl;have d3:=F0.c 3 _ rfl;have d4:=F0.c 4 _ rfl;have d5:=F0.c 5 _ rfl;have d6:=F0.c 6 _ rfl;have d7:=F0.c 7 _ rfl;have d8:=F0.c 8 _ rfl;have d9:=F0.c 9 _ rfl;have d10:=F0.c 10 _ rfl;have d11:=F0.c 11 _ rfl;have hn:=isEmp_toList nm;have hi:=isEmp_toList ix;have HF:=Lh F0;have AC:Hid (∀ W,Calls Tryz.prog 124 #[.int .i64 2] W fun e w'=>e=.returned (.bool true)∧W=w'):=(Lh fun W=>asksR_any 2 W);clear F0 hE hsz;generalize isEmp nm=a at *
 generalize isEmp ix=b at *
 generalize zB x.e=z at *
 rcases kz k7 with rfl | ⟨g7,b7,i7⟩
 cases a
 rotate_left
 cases b
 rotate_left
 rcases kz k8 with rfl | ⟨g8,b8,i8⟩
 rcases kz k9 with rfl | ⟨g9,b9,i9⟩
 rcases kz k10 with rfl | ⟨g10,b10,i10⟩
 rcases kz k11 with rfl | ⟨g11,b11,i11⟩
 all_goals
  cases hq:freeB x
  all_goals (have hr:=FB.out;rw [hq] at hr;try simp [*] at hr)
 all_goals
  clear FB hq
  (try clear hr)
  go_enter Tryz.func101,Tryz.ntmps101
  go_wp2_with (first
   |(go_at_call 124;((with_reducible refine (AC.out _).mono ?_);rintro e w0 ⟨rfl,rfl⟩))
   |(go_at_call 99;((with_reducible refine SC.out.mono ?_);rintro e w1 ⟨rfl,hb⟩;have HB1:=Lh (HB.out.then_ hb);have F1:=HF.out.stay hb;(try clear d0);(try clear d2);(try clear d5);(try clear d6);(try clear d7);(try clear d8);(try clear d9);(try clear d10);(try clear d11);have d0:=F1.c 0 _ rfl;have d5:=F1.c 5 _ rfl;have d6:=F1.c 6 _ rfl;have d7:=F1.c 7 _ rfl;have d8:=F1.c 8 _ rfl;have d9:=F1.c 9 _ rfl;have d10:=F1.c 10 _ rfl;have d11:=F1.c 11 _ rfl;clear hb F1)))
  go_ret;exact tBool_mk rfl (by first | exact HB1.out | exact HB.out)
theorem unusedR_3 (x:It) (a4 a7 a8 a9 a10 a11:Value) (N:Nat) (w:World) (h:IV N w a4 a7 a8 a9 a10 a11 x) (hN:N≤w.heap.size) (hsz:sz x.e≤2000000) (hk:x.kd=3) :
  Calls Tryz.prog 101 #[iv x.kd x.e.op x.e.n x.e.nm a4 x.nm x.ix a7 a8 a9 a10 a11] w (tBool (freeB x) w):=by
 have hE:ExAt w.heap.size w (xv x.e.op x.e.n x.e.nm a4) x.e:=h.ex.wide hN;obtain⟨kd,o,n,en,p4,k4,c4,nm,ix,p7,k7,c7,p8,k8,c8,p9,k9,c9,p10,k10,c10,p11,k11,c11,ev,hv⟩:=h.open_;have ev2:=ev;simp only [Value.agg.injEq,Array.mk.injEq,List.cons.injEq] at ev2;obtain⟨-,-,-,-,rfl,-,-,rfl,rfl,rfl,rfl,rfl,-⟩:=ev2;rw [ev];obtain⟨e0,e1,e2,e3,e5,e6,l4,l7,l8,l9,l10,l11,-⟩:=hv;rw [e1,e2,e3] at hE;have FB:Hid (freeB x=(zB x.e&&(isEmp ix&&(decide (k8=0)&&(decide (k9=0)&&(decide (k10=0)&&(decide (k11=0)))))))):=Lh (by
   unfold freeB;rw [hk,e5,e6,isEmpty_len,isEmpty_len,isEmpty_len,isEmpty_len,isEmpty_len,l7,l8,l9,l10,l11];simp)
 rw [hk] at e0;subst e0;clear h ev e1 e2 e3 e5 e6 l4 l7 l8 l9 l10 l11 hN hk;obtain⟨cs,hcs⟩:∃ cs,cs=ics 3 o n en (.slice p4 k4 c4) nm ix (.slice p7 k7 c7) (.slice p8 k8 c8) (.slice p9 k9 c9) (.slice p10 k10 c10) (.slice p11 k11 c11):=⟨_,rfl⟩;have F0:=Blk.new w cs 53;have HB:=Lh (ba w (.cells cs.toArray 53));have SC:Hid (Calls Tryz.prog 99 #[xv o n en (.slice p4 k4 c4),xv 0 0 ⟨#[]⟩ (.slice none 0 0)] (w.alloc (.cells cs.toArray 53)) (tBool (eqB x.e zE) (w.alloc (.cells cs.toArray 53)))):=Lh
  (sameR_any x.e zE w.heap.size _ _ _ (hE.under HB.out) (.of (by decide) (ArgsAt.nil _ _ none 0)) (by simp) hsz)
 rw [eqB_zE] at SC;subst hcs;have d0:=F0.c 0 _ rfl;have d1:=F0.c 1 _ rfl;have d2:=F0.c 2 _ rfl;have d3:=F0.c 3 _ rfl;have d4:=F0.c 4 _ rfl;have d5:=F0.c 5 _ rfl;have d6:=F0.c 6 _ rfl;have d7:=F0.c 7 _ rfl;have d8:=F0.c 8 _ rfl;have d9:=F0.c 9 _ rfl;have d10:=F0.c 10 _ rfl;have d11:=F0.c 11 _ rfl;have hn:=isEmp_toList nm;have hi:=isEmp_toList ix;have HF:=Lh F0;have AC:Hid (∀ W,Calls Tryz.prog 124 #[.int .i64 3] W fun e w'=>e=.returned (.bool false)∧W=w'):=(Lh fun W=>asksR_any 3 W);clear F0 hE hsz;generalize isEmp nm=a at *
 generalize isEmp ix=b at *
 generalize zB x.e=z at *
 cases z
 rotate_left
 cases b
 rotate_left
 rcases kz k8 with rfl | ⟨g8,b8,i8⟩
 rcases kz k9 with rfl | ⟨g9,b9,i9⟩
 rcases kz k10 with rfl | ⟨g10,b10,i10⟩
 rcases kz k11 with rfl | ⟨g11,b11,i11⟩
 all_goals
  cases hq:freeB x
  all_goals (have hr:=FB.out;rw [hq] at hr;try simp [*] at hr)
 all_goals
  clear FB hq
  (try clear hr)
  go_enter Tryz.func101,Tryz.ntmps101
  go_wp2_with (first
   |(go_at_call 124;((with_reducible refine (AC.out _).mono ?_);rintro e w0 ⟨rfl,rfl⟩))
   |(go_at_call 99;((with_reducible refine SC.out.mono ?_);rintro e w1 ⟨rfl,hb⟩;have HB1:=Lh (HB.out.then_ hb);have F1:=HF.out.stay hb;(try clear d0);(try clear d2);(try clear d5);(try clear d6);(try clear d7);(try clear d8);(try clear d9);(try clear d10);(try clear d11);have d0:=F1.c 0 _ rfl;have d5:=F1.c 5 _ rfl;have d6:=F1.c 6 _ rfl;have d7:=F1.c 7 _ rfl;have d8:=F1.c 8 _ rfl;have d9:=F1.c 9 _ rfl;have d10:=F1.c 10 _ rfl;have d11:=F1.c 11 _ rfl;clear hb F1)))
  go_ret;exact tBool_mk rfl (by first | exact HB1.out | exact HB.out)
theorem unusedR_4 (x:It) (a4 a7 a8 a9 a10 a11:Value) (N:Nat) (w:World) (h:IV N w a4 a7 a8 a9 a10 a11 x) (hN:N≤w.heap.size) (hsz:sz x.e≤2000000) (hk:x.kd=4) :
  Calls Tryz.prog 101 #[iv x.kd x.e.op x.e.n x.e.nm a4 x.nm x.ix a7 a8 a9 a10 a11] w (tBool (freeB x) w):=by
 have hE:ExAt w.heap.size w (xv x.e.op x.e.n x.e.nm a4) x.e:=h.ex.wide hN;obtain⟨kd,o,n,en,p4,k4,c4,nm,ix,p7,k7,c7,p8,k8,c8,p9,k9,c9,p10,k10,c10,p11,k11,c11,ev,hv⟩:=h.open_;have ev2:=ev;simp only [Value.agg.injEq,Array.mk.injEq,List.cons.injEq] at ev2;obtain⟨-,-,-,-,rfl,-,-,rfl,rfl,rfl,rfl,rfl,-⟩:=ev2;rw [ev];obtain⟨e0,e1,e2,e3,e5,e6,l4,l7,l8,l9,l10,l11,-⟩:=hv;rw [e1,e2,e3] at hE;have FB:Hid (freeB x=(isEmp nm&&(isEmp ix&&(decide (k7=0)&&(decide (k10=0)&&(decide (k11=0))))))):=Lh (by
   unfold freeB;rw [hk,e5,e6,isEmpty_len,isEmpty_len,isEmpty_len,isEmpty_len,isEmpty_len,l7,l8,l9,l10,l11];simp)
 rw [hk] at e0;subst e0;clear h ev e1 e2 e3 e5 e6 l4 l7 l8 l9 l10 l11 hN hk;obtain⟨cs,hcs⟩:∃ cs,cs=ics 4 o n en (.slice p4 k4 c4) nm ix (.slice p7 k7 c7) (.slice p8 k8 c8) (.slice p9 k9 c9) (.slice p10 k10 c10) (.slice p11 k11 c11):=⟨_,rfl⟩;have F0:=Blk.new w cs 53;have HB:=Lh (ba w (.cells cs.toArray 53));have SC:Hid (Calls Tryz.prog 99 #[xv o n en (.slice p4 k4 c4),xv 0 0 ⟨#[]⟩ (.slice none 0 0)] (w.alloc (.cells cs.toArray 53)) (tBool (eqB x.e zE) (w.alloc (.cells cs.toArray 53)))):=Lh
  (sameR_any x.e zE w.heap.size _ _ _ (hE.under HB.out) (.of (by decide) (ArgsAt.nil _ _ none 0)) (by simp) hsz)
 rw [eqB_zE] at SC;subst hcs;have d0:=F0.c 0 _ rfl;have d1:=F0.c 1 _ rfl;have d2:=F0.c 2 _ rfl;have d3:=F0.c 3 _ rfl;have d4:=F0.c 4 _ rfl;have d5:=F0.c 5 _ rfl;have d6:=F0.c 6 _ rfl;have d7:=F0.c 7 _ rfl;have d8:=F0.c 8 _ rfl;have d9:=F0.c 9 _ rfl;have d10:=F0.c 10 _ rfl;have d11:=F0.c 11 _ rfl;have hn:=isEmp_toList nm;have hi:=isEmp_toList ix;have HF:=Lh F0;have AC:Hid (∀ W,Calls Tryz.prog 124 #[.int .i64 4] W fun e w'=>e=.returned (.bool true)∧W=w'):=(Lh fun W=>asksR_any 4 W);clear F0 hE hsz;generalize isEmp nm=a at *
 generalize isEmp ix=b at *
 generalize zB x.e=z at *
 rcases kz k7 with rfl | ⟨g7,b7,i7⟩
 cases a
 rotate_left
 cases b
 rotate_left
 rcases kz k10 with rfl | ⟨g10,b10,i10⟩
 rcases kz k11 with rfl | ⟨g11,b11,i11⟩
 all_goals
  cases hq:freeB x
  all_goals (have hr:=FB.out;rw [hq] at hr;try simp [*] at hr)
 all_goals
  clear FB hq
  (try clear hr)
  go_enter Tryz.func101,Tryz.ntmps101
  go_wp2_with (first
   |(go_at_call 124;((with_reducible refine (AC.out _).mono ?_);rintro e w0 ⟨rfl,rfl⟩))
   |(go_at_call 99;((with_reducible refine SC.out.mono ?_);rintro e w1 ⟨rfl,hb⟩;have HB1:=Lh (HB.out.then_ hb);have F1:=HF.out.stay hb;(try clear d0);(try clear d2);(try clear d5);(try clear d6);(try clear d7);(try clear d8);(try clear d9);(try clear d10);(try clear d11);have d0:=F1.c 0 _ rfl;have d5:=F1.c 5 _ rfl;have d6:=F1.c 6 _ rfl;have d7:=F1.c 7 _ rfl;have d8:=F1.c 8 _ rfl;have d9:=F1.c 9 _ rfl;have d10:=F1.c 10 _ rfl;have d11:=F1.c 11 _ rfl;clear hb F1)))
  go_ret;exact tBool_mk rfl (by first | exact HB1.out | exact HB.out)
theorem unusedR_5 (x:It) (a4 a7 a8 a9 a10 a11:Value) (N:Nat) (w:World) (h:IV N w a4 a7 a8 a9 a10 a11 x) (hN:N≤w.heap.size) (hsz:sz x.e≤2000000) (hk:x.kd=5) :
  Calls Tryz.prog 101 #[iv x.kd x.e.op x.e.n x.e.nm a4 x.nm x.ix a7 a8 a9 a10 a11] w (tBool (freeB x) w):=by
 have hE:ExAt w.heap.size w (xv x.e.op x.e.n x.e.nm a4) x.e:=h.ex.wide hN;obtain⟨kd,o,n,en,p4,k4,c4,nm,ix,p7,k7,c7,p8,k8,c8,p9,k9,c9,p10,k10,c10,p11,k11,c11,ev,hv⟩:=h.open_;have ev2:=ev;simp only [Value.agg.injEq,Array.mk.injEq,List.cons.injEq] at ev2;obtain⟨-,-,-,-,rfl,-,-,rfl,rfl,rfl,rfl,rfl,-⟩:=ev2;rw [ev];obtain⟨e0,e1,e2,e3,e5,e6,l4,l7,l8,l9,l10,l11,-⟩:=hv;rw [e1,e2,e3] at hE;have FB:Hid (freeB x=(zB x.e&&(decide (k7=0)&&(decide (k9=0)&&(decide (k10=0)&&(decide (k11=0))))))):=Lh (by
   unfold freeB;rw [hk,e5,e6,isEmpty_len,isEmpty_len,isEmpty_len,isEmpty_len,isEmpty_len,l7,l8,l9,l10,l11];simp)
 rw [hk] at e0;subst e0;clear h ev e1 e2 e3 e5 e6 l4 l7 l8 l9 l10 l11 hN hk;obtain⟨cs,hcs⟩:∃ cs,cs=ics 5 o n en (.slice p4 k4 c4) nm ix (.slice p7 k7 c7) (.slice p8 k8 c8) (.slice p9 k9 c9) (.slice p10 k10 c10) (.slice p11 k11 c11):=⟨_,rfl⟩;have F0:=Blk.new w cs 53;have HB:=Lh (ba w (.cells cs.toArray 53));have SC:Hid (Calls Tryz.prog 99 #[xv o n en (.slice p4 k4 c4),xv 0 0 ⟨#[]⟩ (.slice none 0 0)] (w.alloc (.cells cs.toArray 53)) (tBool (eqB x.e zE) (w.alloc (.cells cs.toArray 53)))):=Lh
  (sameR_any x.e zE w.heap.size _ _ _ (hE.under HB.out) (.of (by decide) (ArgsAt.nil _ _ none 0)) (by simp) hsz)
 rw [eqB_zE] at SC;subst hcs;have d0:=F0.c 0 _ rfl;have d1:=F0.c 1 _ rfl;have d2:=F0.c 2 _ rfl;have d3:=F0.c 3 _ rfl;have d4:=F0.c 4 _ rfl;have d5:=F0.c 5 _ rfl;have d6:=F0.c 6 _ rfl;have d7:=F0.c 7 _ rfl;have d8:=F0.c 8 _ rfl;have d9:=F0.c 9 _ rfl;have d10:=F0.c 10 _ rfl;have d11:=F0.c 11 _ rfl;have hn:=isEmp_toList nm;have hi:=isEmp_toList ix;have HF:=Lh F0;have AC:Hid (∀ W,Calls Tryz.prog 124 #[.int .i64 5] W fun e w'=>e=.returned (.bool false)∧W=w'):=(Lh fun W=>asksR_any 5 W);clear F0 hE hsz;generalize isEmp nm=a at *
 generalize isEmp ix=b at *
 generalize zB x.e=z at *
 cases z
 rotate_left
 rcases kz k7 with rfl | ⟨g7,b7,i7⟩
 rcases kz k9 with rfl | ⟨g9,b9,i9⟩
 rcases kz k10 with rfl | ⟨g10,b10,i10⟩
 rcases kz k11 with rfl | ⟨g11,b11,i11⟩
 all_goals
  cases hq:freeB x
  all_goals (have hr:=FB.out;rw [hq] at hr;try simp [*] at hr)
 all_goals
  clear FB hq
  (try clear hr)
  go_enter Tryz.func101,Tryz.ntmps101
  go_wp2_with (first
   |(go_at_call 124;((with_reducible refine (AC.out _).mono ?_);rintro e w0 ⟨rfl,rfl⟩))
   |(go_at_call 99;((with_reducible refine SC.out.mono ?_);rintro e w1 ⟨rfl,hb⟩;have HB1:=Lh (HB.out.then_ hb);have F1:=HF.out.stay hb;(try clear d0);(try clear d2);(try clear d5);(try clear d6);(try clear d7);(try clear d8);(try clear d9);(try clear d10);(try clear d11);have d0:=F1.c 0 _ rfl;have d5:=F1.c 5 _ rfl;have d6:=F1.c 6 _ rfl;have d7:=F1.c 7 _ rfl;have d8:=F1.c 8 _ rfl;have d9:=F1.c 9 _ rfl;have d10:=F1.c 10 _ rfl;have d11:=F1.c 11 _ rfl;clear hb F1)))
  go_ret;exact tBool_mk rfl (by first | exact HB1.out | exact HB.out)
theorem unusedR_6 (x:It) (a4 a7 a8 a9 a10 a11:Value) (N:Nat) (w:World) (h:IV N w a4 a7 a8 a9 a10 a11 x) (hN:N≤w.heap.size) (hsz:sz x.e≤2000000) (hk:x.kd=6) :
  Calls Tryz.prog 101 #[iv x.kd x.e.op x.e.n x.e.nm a4 x.nm x.ix a7 a8 a9 a10 a11] w (tBool (freeB x) w):=by
 have hE:ExAt w.heap.size w (xv x.e.op x.e.n x.e.nm a4) x.e:=h.ex.wide hN;obtain⟨kd,o,n,en,p4,k4,c4,nm,ix,p7,k7,c7,p8,k8,c8,p9,k9,c9,p10,k10,c10,p11,k11,c11,ev,hv⟩:=h.open_;have ev2:=ev;simp only [Value.agg.injEq,Array.mk.injEq,List.cons.injEq] at ev2;obtain⟨-,-,-,-,rfl,-,-,rfl,rfl,rfl,rfl,rfl,-⟩:=ev2;rw [ev];obtain⟨e0,e1,e2,e3,e5,e6,l4,l7,l8,l9,l10,l11,-⟩:=hv;rw [e1,e2,e3] at hE;have FB:Hid (freeB x=(zB x.e&&(isEmp nm&&(isEmp ix&&(decide (k7=0)&&(decide (k8=0)&&(decide (k9=0)))))))):=Lh (by
   unfold freeB;rw [hk,e5,e6,isEmpty_len,isEmpty_len,isEmpty_len,isEmpty_len,isEmpty_len,l7,l8,l9,l10,l11];simp)
 rw [hk] at e0;subst e0;clear h ev e1 e2 e3 e5 e6 l4 l7 l8 l9 l10 l11 hN hk;obtain⟨cs,hcs⟩:∃ cs,cs=ics 6 o n en (.slice p4 k4 c4) nm ix (.slice p7 k7 c7) (.slice p8 k8 c8) (.slice p9 k9 c9) (.slice p10 k10 c10) (.slice p11 k11 c11):=⟨_,rfl⟩;have F0:=Blk.new w cs 53;have HB:=Lh (ba w (.cells cs.toArray 53));have SC:Hid (Calls Tryz.prog 99 #[xv o n en (.slice p4 k4 c4),xv 0 0 ⟨#[]⟩ (.slice none 0 0)] (w.alloc (.cells cs.toArray 53)) (tBool (eqB x.e zE) (w.alloc (.cells cs.toArray 53)))):=Lh
  (sameR_any x.e zE w.heap.size _ _ _ (hE.under HB.out) (.of (by decide) (ArgsAt.nil _ _ none 0)) (by simp) hsz)
 rw [eqB_zE] at SC;subst hcs;have d0:=F0.c 0 _ rfl;have d1:=F0.c 1 _ rfl;have d2:=F0.c 2 _ rfl;have d3:=F0.c 3 _ rfl;have d4:=F0.c 4 _ rfl;have d5:=F0.c 5 _ rfl;have d6:=F0.c 6 _ rfl;have d7:=F0.c 7 _ rfl;have d8:=F0.c 8 _ rfl;have d9:=F0.c 9 _ rfl;have d10:=F0.c 10 _ rfl;have d11:=F0.c 11 _ rfl;have hn:=isEmp_toList nm;have hi:=isEmp_toList ix;have HF:=Lh F0;have AC:Hid (∀ W,Calls Tryz.prog 124 #[.int .i64 6] W fun e w'=>e=.returned (.bool false)∧W=w'):=(Lh fun W=>asksR_any 6 W);clear F0 hE hsz;generalize isEmp nm=a at *
 generalize isEmp ix=b at *
 generalize zB x.e=z at *
 cases z
 rotate_left
 rcases kz k7 with rfl | ⟨g7,b7,i7⟩
 cases a
 rotate_left
 cases b
 rotate_left
 rcases kz k8 with rfl | ⟨g8,b8,i8⟩
 rcases kz k9 with rfl | ⟨g9,b9,i9⟩
 all_goals
  cases hq:freeB x
  all_goals (have hr:=FB.out;rw [hq] at hr;try simp [*] at hr)
 all_goals
  clear FB hq
  (try clear hr)
  go_enter Tryz.func101,Tryz.ntmps101
  go_wp2_with (first
   |(go_at_call 124;((with_reducible refine (AC.out _).mono ?_);rintro e w0 ⟨rfl,rfl⟩))
   |(go_at_call 99;((with_reducible refine SC.out.mono ?_);rintro e w1 ⟨rfl,hb⟩;have HB1:=Lh (HB.out.then_ hb);have F1:=HF.out.stay hb;(try clear d0);(try clear d2);(try clear d5);(try clear d6);(try clear d7);(try clear d8);(try clear d9);(try clear d10);(try clear d11);have d0:=F1.c 0 _ rfl;have d5:=F1.c 5 _ rfl;have d6:=F1.c 6 _ rfl;have d7:=F1.c 7 _ rfl;have d8:=F1.c 8 _ rfl;have d9:=F1.c 9 _ rfl;have d10:=F1.c 10 _ rfl;have d11:=F1.c 11 _ rfl;clear hb F1)))
  go_ret;exact tBool_mk rfl (by first | exact HB1.out | exact HB.out)
theorem kind_cases {k:Int} (h:kindB k=true):k=1∨k=2∨k=3∨k=4∨k=5∨k=6:=by
 unfold kindB at h;rw [Bool.and_eq_true,decide_eq_true_eq,decide_eq_true_eq] at h;omega
theorem unusedR_any (x:It) (a4 a7 a8 a9 a10 a11:Value) (N:Nat) (w:World) (h:IV N w a4 a7 a8 a9 a10 a11 x) (hN:N≤w.heap.size) (hsz:sz x.e≤2000000) (hk:kindB x.kd=true) :
  Calls Tryz.prog 101 #[iv x.kd x.e.op x.e.n x.e.nm a4 x.nm x.ix a7 a8 a9 a10 a11] w (tBool (freeB x) w):=by
 rcases kind_cases hk with e | e | e | e | e | e
 ·exact unusedR_1 x _ _ _ _ _ _ N w h hN hsz e
 ·exact unusedR_2 x _ _ _ _ _ _ N w h hN hsz e
 ·exact unusedR_3 x _ _ _ _ _ _ N w h hN hsz e
 ·exact unusedR_4 x _ _ _ _ _ _ N w h hN hsz e
 ·exact unusedR_5 x _ _ _ _ _ _ N w h hN hsz e
 ·exact unusedR_6 x _ _ _ _ _ _ N w h hN hsz e
end ItW
end Go.Proofs.YtihnejaopejbgaaGreatDoor
