/-
  Laws that the card uses; no conditions beside those that each states (ItIter ItFlt1 ItIdx).
-/
import Derived.Test.YtihnejaopejbgaaGreatDoorP13
import Derived.Test.YtihnejaopejbgaaGreatDoorP21
set_option maxRecDepth 100000
set_option maxHeartbeats 16000000
namespace Go.Proofs.YtihnejaopejbgaaGreatDoor
namespace ItW
open Go Go.RowKit Go.Shelf LexW LexM ExM ExW ItM
attribute [local go_sem] Oper.semAt_some
theorem constraints_tells (F:Fence) (hd:F.depth=none) (n:Nat) (h65:F.fn 73) (h66:F.fn 74) (hro:F.round=none) (n₀ n₁ lb:Nat) (hn:n₀≤n₁) (l0:List It) (hsz:iszs l0≤2000000) (G:Pl→Prop) (hG:∀ p∈wks 0 [] l0,G p) (v:Value)
  (w:World) (h1:n₁≤w.heap.size) (hb:Boxed w lb 26 v) (hx:ItsA n₀ w v l0) :
  Tells F n Tryz.prog 73 #[.pointer (some ⟨lb,0,none⟩)] (encP (n₀:=n₀) (w₀:=w)) (KeepC n₀ n₁) (fun ys=>ys.map Pn.pl=wks 0 [] l0) (fun q=>q.map Pn.pl <+: wks 0 [] l0) (iszs l0) (TellB G) w:=by
 intro l J Jx W hW hJ hJx hY h0;have hdd:∀ k:Nat,(F.depth.isSome=true→1≤k):=(fun k h=>by rw [hd] at h;cases h);have hws:=hW.size;have HW:Hid (∀ W2,Below W.heap.size W W2→Boxed W2 W.heap.size 104 (.func (.yield l) #[] #[])→Boxed W2 (W.heap.size+2) 82 (.map (some (W.heap.size+1))) →
   Boxed W2 (W.heap.size+3) 28 (.func (.func 74) #[] #[.pointer (some ⟨W.heap.size,0,none⟩),.pointer (some ⟨W.heap.size+2,0,none⟩),.pointer (some ⟨W.heap.size+3,0,none⟩)])→IntMap W2 (W.heap.size+1) 0 (cntB []) →
   CallsIn F (n - 1) Tryz.prog 74 #[v,.int .i64 0,.pointer (some ⟨W.heap.size,0,none⟩),.pointer (some ⟨W.heap.size+2,0,none⟩),.pointer (some ⟨W.heap.size+3,0,none⟩)] W2 (CameC J Jx n₁ (W.heap.size+1) (0+2*iszs l0) (wks 0 [] l0) [] [] W2)):=Lh fun W2 hb2 c1 c2 c3 m =>
  walkC_in F hd h66 hro l n₀ n₁ (iszs l0) W.heap.size (W.heap.size+2) (W.heap.size+3) (W.heap.size+1) w J Jx hn (fun s A B hs hg=>hJ s A B none hs hg (fun r e=>by cases e))
   (fun s A B hs hg hm=>hJ s A B _ hs hg (fun r e=>by cases e;obtain⟨es,ck,hm⟩:=hm;exact⟨by omega,_,hm,rfl⟩)) (fun s A B hs hg hm=>hJx s A B _ hs hg (fun r e=>by cases e;obtain⟨es,ck,hm⟩:=hm;exact⟨by omega,_,hm,rfl⟩))
   (by omega) (by omega) (by omega) (by omega) (by omega) (by omega) (by omega)
   G (fun m bef x W hj ht hl=>by
    obtain⟨fn,tmps,assign,body,hy,hR⟩:=hY bef x W hj ht hl;exact⟨fn,tmps,assign,body,hy,roundFree hd hR⟩)
   l0 (n - 1) 0 0 [] v [] W2 hx (low_cells ((hW.trans (hb2.mono (by omega))).mono (by omega))) (hJ _ _ _ none h0 (grown_of_below hb2) (fun r e=>by cases e)) (by have:=hb2.size;omega) (by simp) (by omega) (by omega) (by simp) hG c1 c2 c3 m
 obtain⟨p,cap,V,rfl,_⟩:=hx.form;generalize l0.length=K at *
 have hbW:Boxed W lb 26 (.slice p K cap):=(hW.block lb hb.lt).trans hb;have a0:=(((hbW.alloc (.cells #[.func (.yield l) #[] #[]] 104)).alloc (.map #[] 0)).alloc (.cells #[.map (some (W.heap.size+1))] 82)).alloc (.cells #[.func (.func 74) #[] #[.pointer (some ⟨W.heap.size,0,none⟩),.pointer (some ⟨W.heap.size+2,0,none⟩),.pointer (some ⟨W.heap.size+3,0,none⟩)]] 28);have cl:=a0.cell;have bx1:=(((Boxed.new W 104 (.func (.yield l) #[] #[])).alloc (.map #[] 0)).alloc (.cells #[.map (some (W.heap.size+1))] 82)).alloc (.cells #[.func (.func 74) #[] #[.pointer (some ⟨W.heap.size,0,none⟩),.pointer (some ⟨W.heap.size+2,0,none⟩),.pointer (some ⟨W.heap.size+3,0,none⟩)]] 28);have bx2:=(Boxed.new ((W.alloc (.cells #[.func (.yield l) #[] #[]] 104)).alloc (.map #[] 0)) 82 (.map (some (W.heap.size+1)))).alloc (.cells #[.func (.func 74) #[] #[.pointer (some ⟨W.heap.size,0,none⟩),.pointer (some ⟨W.heap.size+2,0,none⟩),.pointer (some ⟨W.heap.size+3,0,none⟩)]] 28);have bx3:=Boxed.new (((W.alloc (.cells #[.func (.yield l) #[] #[]] 104)).alloc (.map #[] 0)).alloc (.cells #[.map (some (W.heap.size+1))] 82)) 28 (.func (.func 74) #[] #[.pointer (some ⟨W.heap.size,0,none⟩),.pointer (some ⟨W.heap.size+2,0,none⟩),.pointer (some ⟨W.heap.size+3,0,none⟩)]);have m0:=IntMap.made (W.alloc (.cells #[.func (.yield l) #[] #[]] 104));have m1:=m0.below ((Below.refl _ _).alloc (Nat.le_refl _) (.cells #[.map (some (W.heap.size+1))] 82));have m2:=m1.below ((Below.refl _ _).alloc (Nat.le_refl _) (.cells #[.func (.func 74) #[] #[.pointer (some ⟨W.heap.size,0,none⟩),.pointer (some ⟨W.heap.size+2,0,none⟩),.pointer (some ⟨W.heap.size+3,0,none⟩)]] 28));simp only [World.size_alloc,Nat.add_assoc,Nat.reduceAdd] at bx1 bx2 bx3 m2;have BX1:=Lh bx1;have BX2:=Lh bx2;have BX3:=Lh bx3;have M2:=Lh (m2.same (g:=cntB []) (fun _=>rfl));have HB1:Hid (Below W.heap.size W ((((W.alloc (.cells #[.func (.yield l) #[] #[]] 104)).alloc (.map #[] 0)).alloc (.cells #[.map (some (W.heap.size+1))] 82)).alloc (.cells #[.func (.func 74) #[] #[.pointer (some ⟨W.heap.size,0,none⟩),.pointer (some ⟨W.heap.size+2,0,none⟩),.pointer (some ⟨W.heap.size+3,0,none⟩)]] 28))) :=
  Lh ((((Below.refl _ _).alloc (Nat.le_refl _) _).alloc (by simp) _).alloc (by simp;omega) _ |>.alloc (by simp;omega) _)
 clear bx1 bx2 bx3 m0 m1 m2 a0 hb hx hbW hY hJ hJx h0 hW;have hmm:=@run_makeMap Tryz.prog;refine callsIn_of_wp Tryz.func73 rfl h65 ?_ hro;simp only [Tryz.ntmps73,List.size_toArray,List.length_cons,List.length_nil,Nat.reduceAdd,Nat.reduceSub,Array.replicate_succ,Array.replicate_zero,List.push_toArray,List.append_toArray,List.nil_append,List.cons_append]
 gi_wp2_with ((try refine⟨hdd _,?_⟩);gi_at_call 74;refine (HW.out _ HB1.out BX1.out BX2.out BX3.out M2.out).mono ?_;clear HW;rintro e W5 ⟨(⟨rfl,hys⟩ | ⟨rfl,hq⟩),_,_⟩)
 ·have H5:=Lh hys;clear hys
  go_end0
  obtain⟨ys,h1,h2⟩:=H5.out;exact⟨⟨_,rfl⟩,.inl ⟨ys,h1,by simpa using h2⟩⟩
 ·have H5:=Lh hq;clear hq
  go_end0
  obtain⟨q,h1,h2⟩:=H5.out;exact⟨⟨_,rfl⟩,.inr ⟨q,h1,by simpa using h2⟩⟩
theorem constraints_in (F:Fence) (n:Nat) (h36:F.fn 45) (hro:F.round=none) (p:Option Addr) (K cap:Nat) (w:World) :
  CallsIn F n Tryz.prog 45 #[.slice p K cap] w fun e w'=>e=.returned (.func (.func 73) #[] #[.pointer (some ⟨w.heap.size,0,none⟩)])∧w'=w.alloc (.cells #[.slice p K cap] 26):=by
 refine callsIn_of_wp Tryz.func45 rfl h36 ?_ hro;simp only [Tryz.ntmps45,List.size_toArray,List.length_cons,List.length_nil,Nat.reduceAdd,Nat.reduceSub,Array.replicate_succ,Array.replicate_zero,List.push_toArray,List.append_toArray,List.nil_append,List.cons_append]
 gi_wp2
 go_ret;exact⟨rfl,rfl⟩
end ItW
namespace ItW
open Go Go.RowKit NumM LexW LexM ExM ExW ItM
theorem out_any (k:Int) (w:World):Calls Tryz.prog 77 #[.int .i64 k] w fun e w'=>e=.returned (.bool (outK k))∧w=w':=by
 by_cases h3:k=3
 ·subst h3
  go_enter Tryz.func77,Tryz.ntmps77
  go_wp2;go_ret;exact⟨rfl,rfl⟩
 ·have q3:(k == 3)=false:=(by rw [beq_eq_false_iff_ne];exact h3);have EE:Hid (outK k=(k == 6)):=Lh (by unfold outK;rw [decide_eq_false h3,Bool.eq_iff_iff];simp);clear h3
  go_enter Tryz.func77,Tryz.ntmps77
  go_wp2;go_ret;exact⟨retb (by rw [EE.out]),rfl⟩
theorem wrongW_eq (lo hi wt:Int) (ea:Bool):wrongW ⟨lo,hi,wt,ea⟩=(decide (lo<0)||(decide (hi<lo)||(decide (65535<hi)||(decide (wt<0)||decide (1000<wt))))):=rfl
theorem isWrong_any (t:Wt) (w:World):Calls Tryz.prog 111 #[.agg #[.int .i64 t.lo,.int .i64 t.hi,.int .i64 t.wt,.bool t.ea]] w (tBool (wrongW t) w):=by
 obtain⟨lo,hi,wt,ea⟩:=t;simp only;have F0:=Blk.new w [.int .i64 lo,.int .i64 hi,.int .i64 wt,.bool ea] 45;have c0:=F0.c 0 _ rfl;have c1:=F0.c 1 _ rfl;have c2:=F0.c 2 _ rfl;have HB:=Lh (ba w (.cells #[.int .i64 lo,.int .i64 hi,.int .i64 wt,.bool ea] 45));have EE:=Lh (wrongW_eq lo hi wt ea);clear F0;by_cases h1:lo<0
 ·have E:Hid (wrongW ⟨lo,hi,wt,ea⟩=true):=Lh (by rw [EE.out,decide_eq_true h1];rfl)
  go_enter Tryz.func111,Tryz.ntmps111
  go_wp2;go_ret;exact tBool_mk E.out.symm HB.out
 ·by_cases h2:hi<lo
  ·have E:Hid (wrongW ⟨lo,hi,wt,ea⟩=true):=Lh (by rw [EE.out,decide_eq_false h1,decide_eq_true h2];rfl)
   go_enter Tryz.func111,Tryz.ntmps111
   go_wp2;go_ret;exact tBool_mk E.out.symm HB.out
  ·by_cases h3:65535<hi
   ·have E:Hid (wrongW ⟨lo,hi,wt,ea⟩=true):=Lh (by rw [EE.out,decide_eq_false h1,decide_eq_false h2,decide_eq_true h3];rfl)
    go_enter Tryz.func111,Tryz.ntmps111
    go_wp2;go_ret;exact tBool_mk E.out.symm HB.out
   ·by_cases h4:wt<0
    ·have E:Hid (wrongW ⟨lo,hi,wt,ea⟩=true):=Lh (by rw [EE.out,decide_eq_false h1,decide_eq_false h2,decide_eq_false h3,decide_eq_true h4];rfl)
     go_enter Tryz.func111,Tryz.ntmps111
     go_wp2;go_ret;exact tBool_mk E.out.symm HB.out
    ·by_cases h5:1000<wt
     ·have E:Hid (wrongW ⟨lo,hi,wt,ea⟩=true):=Lh (by rw [EE.out,decide_eq_false h1,decide_eq_false h2,decide_eq_false h3,decide_eq_false h4,decide_eq_true h5];rfl)
      go_enter Tryz.func111,Tryz.ntmps111
      go_wp2;go_ret;exact tBool_mk E.out.symm HB.out
     ·have E:Hid (wrongW ⟨lo,hi,wt,ea⟩=false):=Lh (by rw [EE.out,decide_eq_false h1,decide_eq_false h2,decide_eq_false h3,decide_eq_false h4,decide_eq_false h5];rfl)
      go_enter Tryz.func111,Tryz.ntmps111
      go_wp2;go_ret;exact tBool_mk E.out.symm HB.out
theorem vld_var (s:ByteArray):decide (vld (.mk 2 0 s [])=0)=varB s.data.toList:=by
 rw [Bool.eq_iff_iff,decide_eq_true_eq,vld_zero,ok_mk,sz_mk,dep_mk,szs_nil,deps_nil];constructor
 ·rintro ⟨⟨h,_⟩,_⟩;unfold fltS at h;split at h
  ·cases h
  ·split at h
   ·cases h
   ·rename_i hb
    simpa [badN,isVr,isAr] using hb
 ·intro h;refine⟨⟨?_,fun a ha=>by cases ha⟩,by omega,by omega⟩;unfold fltS;rw [if_neg (by simp [badA,isVr,isAr,takesS,arS,greatS]),if_neg (by simp [badN,isVr,isAr,h])]
theorem noVar_any (s:ByteArray) (w:World) (hs:s.size≤140737488351232) (ht:Tab w):Calls Tryz.prog 112 #[.string s] w (tBool (noVar s) w):=by
 have hx:ExAt w.heap.size w (xv 2 0 s (.slice none 0 0)) (.mk 2 0 s []):=.of hs (ArgsAt.nil w.heap.size w none 0);have VC:=Lh (valid_any (.mk 2 0 s []) _ w hx (by rw [sz_mk,szs_nil];omega) ht);have hv:=vld_var s;have hr:=vld_range (.mk 2 0 s []);clear hx;obtain⟨z,hz⟩:∃ z,vld (.mk 2 0 s [])=z:=⟨_,rfl⟩;rw [hz] at VC hv hr;have HZ:=Lh hz;clear hz;by_cases h0:z=0
 ·subst h0;have E:Hid (false=noVar s):=Lh (by unfold noVar;rw [←hv];rfl)
  go_enter Tryz.func112,Tryz.ntmps112
  go_wp2_with (go_at_call 80;((with_reducible refine VC.out.mono ?_);rintro e w1 ⟨rfl,hb⟩;have HB:=Lh hb;clear hb))
  go_ret;exact tBool_mk E.out HB.out
 ·have q:(z != 0)=true:=(by simpa using h0);have E:Hid (true=noVar s):=Lh (by unfold noVar;rw [←hv,decide_eq_false h0];rfl)
  go_enter Tryz.func112,Tryz.ntmps112
  go_wp2_with (go_at_call 80;((with_reducible refine VC.out.mono ?_);rintro e w1 ⟨rfl,hb⟩;have HB:=Lh hb;clear hb))
  go_ret;exact tBool_mk E.out HB.out
def hfB (z a b:Bool) (k:Nat):Bool:=!z||(!a||(!b||decide (0<k)))
theorem hasFields_any (kd o n:Int) (en:ByteArray) (p4:Option Addr) (k4 c4:Nat) (nm ix:ByteArray) (p7:Option Addr) (k7 c7:Nat) (p8:Option Addr) (k8 c8:Nat) (p9:Option Addr) (k9 c9:Nat) (p10:Option Addr) (k10 c10:Nat) (p11:Option Addr) (k11 c11:Nat) (e:Ex) (w:World)
  (hx:ExAt w.heap.size w (xv o n en (.slice p4 k4 c4)) e) (hsz:sz e≤2000000) (h7:k7≤140737488351232) (h8:k8≤140737488351232) (h9:k9≤140737488351232) (h10:k10≤140737488351232) (h11:k11≤140737488351232) :
  Calls Tryz.prog 76 #[iv kd o n en (.slice p4 k4 c4) nm ix (.slice p7 k7 c7) (.slice p8 k8 c8) (.slice p9 k9 c9) (.slice p10 k10 c10) (.slice p11 k11 c11)] w (tBool (hfB (zB e) (isEmp nm) (isEmp ix) (k7+k8+k9+k10+k11)) w):=by
 obtain⟨cs,hcs⟩:∃ cs,cs=ics kd o n en (.slice p4 k4 c4) nm ix (.slice p7 k7 c7) (.slice p8 k8 c8) (.slice p9 k9 c9) (.slice p10 k10 c10) (.slice p11 k11 c11):=⟨_,rfl⟩;have F0:=Blk.new w cs 53;have HB:=Lh (ba w (.cells cs.toArray 53));have SC:Hid (Calls Tryz.prog 109 #[xv o n en (.slice p4 k4 c4),xv 0 0 ⟨#[]⟩ (.slice none 0 0)] (w.alloc (.cells cs.toArray 53)) (tBool (eqB e zE) (w.alloc (.cells cs.toArray 53)))):=Lh
  (same_any e zE w.heap.size _ _ _ (hx.under HB.out) (.of (by decide) (ArgsAt.nil _ _ none 0)) (by simp) hsz)
 rw [eqB_zE] at SC;subst hcs;have d1:=F0.c 1 _ rfl;have d2:=F0.c 2 _ rfl;have d3:=F0.c 3 _ rfl;have d4:=F0.c 4 _ rfl;have d5:=F0.c 5 _ rfl;have d6:=F0.c 6 _ rfl;have d7:=F0.c 7 _ rfl;have d8:=F0.c 8 _ rfl;have d9:=F0.c 9 _ rfl;have d10:=F0.c 10 _ rfl;have d11:=F0.c 11 _ rfl;have hn:=isEmp_toList nm;have hi:=isEmp_toList ix;have HF:=Lh F0;have EE:∀ z a b k,Hid (hfB z a b k=(!z||(!a||(!b||decide (0<k))))):=(fun z a b k=>Lh rfl);clear F0 hx hsz;generalize isEmp nm=a at *
 generalize isEmp ix=b at *
 generalize zB e=z at *
 cases z
 ·go_enter Tryz.func76,Tryz.ntmps76
  go_wp2_with (go_at_call 109;((with_reducible refine SC.out.mono ?_);rintro e w1 ⟨rfl,hb⟩;have HB1:=Lh (HB.out.then_ hb);clear hb))
  go_ret;exact⟨rfl,HB1.out⟩
 ·cases a
  ·go_enter Tryz.func76,Tryz.ntmps76
   go_wp2_with (go_at_call 109;((with_reducible refine SC.out.mono ?_);rintro e w1 ⟨rfl,hb⟩;have HB1:=Lh (HB.out.then_ hb);have F1:=HF.out.stay hb;have d5:=F1.c 5 _ rfl;have d6:=F1.c 6 _ rfl;clear hb F1))
   go_ret;exact⟨rfl,HB1.out⟩
  ·cases b
   ·go_enter Tryz.func76,Tryz.ntmps76
    go_wp2_with (go_at_call 109;((with_reducible refine SC.out.mono ?_);rintro e w1 ⟨rfl,hb⟩;have HB1:=Lh (HB.out.then_ hb);have F1:=HF.out.stay hb;have d5:=F1.c 5 _ rfl;have d6:=F1.c 6 _ rfl;clear hb F1))
    go_ret;exact⟨rfl,HB1.out⟩
   ·by_cases hk:0<k7+k8+k9+k10+k11
    ·have E:Hid (true=hfB true true true (k7+k8+k9+k10+k11)):=Lh (by rw [(EE _ _ _ _).out,decide_eq_true hk];rfl);have q:decide ((0:Int)<(k7:Int)+(k8:Int)+(k9:Int)+(k10:Int)+(k11:Int))=true:=decide_eq_true (by omega)
     go_enter Tryz.func76,Tryz.ntmps76
     go_wp2_with (go_at_call 109;((with_reducible refine SC.out.mono ?_);rintro e w1 ⟨rfl,hb⟩;have HB1:=Lh (HB.out.then_ hb);have F1:=HF.out.stay hb;have d5:=F1.c 5 _ rfl;have d6:=F1.c 6 _ rfl;clear hb F1))
     go_ret;exact tBool_mk E.out HB1.out
    ·have E:Hid (false=hfB true true true (k7+k8+k9+k10+k11)):=Lh (by rw [(EE _ _ _ _).out,decide_eq_false hk];rfl);have q:decide ((0:Int)<(k7:Int)+(k8:Int)+(k9:Int)+(k10:Int)+(k11:Int))=false:=decide_eq_false (by omega)
     go_enter Tryz.func76,Tryz.ntmps76
     go_wp2_with (go_at_call 109;((with_reducible refine SC.out.mono ?_);rintro e w1 ⟨rfl,hb⟩;have HB1:=Lh (HB.out.then_ hb);have F1:=HF.out.stay hb;have d5:=F1.c 5 _ rfl;have d6:=F1.c 6 _ rfl;clear hb F1))
     go_ret;exact tBool_mk E.out HB1.out
theorem any_next {α:Type} {l:List α} {q:α→Bool} {j:Nat} {c:α} (h:l[j]? = some c) (hq:q c=false) (hp:(l.take j).any q=false):(l.take (j+1)).any q=false:=by
 obtain⟨hj,he⟩:=List.getElem?_eq_some_iff.1 h;rw [List.take_succ_eq_append_getElem hj,List.any_append,hp,he];simp [hq]
theorem any_at {α:Type} {l:List α} {q:α→Bool} {j:Nat} {c:α} (h:l[j]? = some c) (hq:q c=true):l.any q=true:=List.any_eq_true.2 ⟨c,List.mem_of_getElem? h,hq⟩
theorem noVar_ix (l:List ByteArray) (q:ByteArray→Bool) (v:Value) (N:Nat) (w:World) (ha:StA N w v l) (hN:N≤w.heap.size) (hq:∀ s∈l,∀ W,Below w.heap.size w W→s.size≤140737488351232→Calls Tryz.prog 112 #[.string s] W (tBool (q s) W)) :
  Calls Tryz.prog 92 #[v,.func (.func 112) #[] #[]] w fun e w'=>∃ r:Int,e=.returned (.int .i64 r)∧(-1≤r∧r≤140737488351232)∧decide (0≤r)=l.any q∧Below w.heap.size w w':=by
 obtain⟨p,cap,rfl,hl,hc0,hz,hp⟩:=ha;have HP:=Lh hp;have HZ:=Lh hz;clear hp hz;have HQ:=Lh hq;obtain⟨K,hK⟩:∃ K,l.length=K:=⟨_,rfl⟩;have HK:=Lh hK;rw [hK] at hl ⊢;have hk:K≤140737488351232:=(by omega);clear hK hl hq;have HB0:=Lh (Below.refl w.heap.size w)
 go_enter Tryz.func92,Tryz.ntmps92
 go_wp2;go_loopw [8] (fun i wr=>∃ j:Nat,j≤K∧i=.int .i64 j∧Hid ((l.take j).any q=false)∧Hid (Below w.heap.size w wr)) (fun i _=>K - (intOf i).toNat)
 case atStart=>exact⟨0,Nat.zero_le _,rfl,Lh rfl,HB0⟩
 case round =>
  obtain⟨j,hj,rfl,FN,BW⟩:=hrel;by_cases hlt:j<K
  ·obtain⟨c,hc⟩:∃ c,l[j]? = some c:=⟨_,List.getElem?_eq_getElem (by rw [HK.out];exact hlt)⟩;have hbw:Below N w wr:=BW.out.mono hN;obtain⟨b,off,rfl,hb,hcell⟩:=HP.out (by rw [HK.out];omega);have c0:=low_cells hbw _ _ hb _ (hcell j c hc);have CC:=Lh (HQ.out c (List.mem_of_getElem? hc) wr BW.out (HZ.out c (List.mem_of_getElem? hc)));clear hcell;have HC:=Lh hc;clear hc hbw;cases hs:q c
   ·have FN2:=Lh (any_next HC.out hs FN.out);rw [hs] at CC;clear hs;go_wp2_with (go_at_call 112;((with_reducible refine CC.out.mono ?_);rintro e w1 ⟨rfl,hb1⟩;have HB1:=Lh (BW.out.then_ hb1);clear hb1))
    go_roundw
    case rel=>exact⟨j+1,by omega,by go_num,FN2,HB1⟩
    case measure=>simp [intOf];omega
   ·have FS:=Lh (any_at HC.out hs);rw [hs] at CC;clear hs;go_wp2_with (go_at_call 112;((with_reducible refine CC.out.mono ?_);rintro e w1 ⟨rfl,hb1⟩;have HB1:=Lh (BW.out.then_ hb1);clear hb1))
    go_ret;exact⟨_,rfl,by omega,by rw [FS.out];exact decide_eq_true (by omega),HB1.out⟩
  ·have FN2:Hid (l.any q=false):=Lh (by have:=FN.out;rw [List.take_of_length_le (by rw [HK.out];omega)] at this;exact this);go_wp2;go_ret;exact⟨_,rfl,by omega,by rw [FN2.out];rfl,BW.out⟩
theorem noVar_has (l:List ByteArray) (q:ByteArray→Bool) (v:Value) (N:Nat) (w:World) (ha:StA N w v l) (hN:N≤w.heap.size) (hq:∀ s∈l,∀ W,Below w.heap.size w W→s.size≤140737488351232→Calls Tryz.prog 112 #[.string s] W (tBool (q s) W)) :
  Calls Tryz.prog 54 #[v,.func (.func 112) #[] #[]] w (tBool (l.any q) w):=by
 have IC:=Lh (noVar_ix l q v N w ha hN hq);have hcc:∃ p cap,v=.slice p l.length cap:=(by obtain⟨p,cap,e,_⟩:=ha;exact⟨p,cap,e⟩);obtain⟨p,cap,rfl⟩:=hcc;clear ha hq;generalize l.any q=c at *
 generalize l.length=K at *
 cases c
 ·go_enter Tryz.func54,Tryz.ntmps54
  go_wp2_with (go_at_call 92;((with_reducible refine IC.out.mono ?_);rintro e w1 ⟨r,rfl,⟨hr0,hr1⟩,hr,hb⟩;have HB:=Lh hb;clear hb))
  go_ret;exact⟨rfl,HB.out⟩
 ·go_enter Tryz.func54,Tryz.ntmps54
  go_wp2_with (go_at_call 92;((with_reducible refine IC.out.mono ?_);rintro e w1 ⟨r,rfl,⟨hr0,hr1⟩,hr,hb⟩;have HB:=Lh hb;clear hb))
  go_ret;exact⟨rfl,HB.out⟩
theorem wrong_ix (l:List Wt) (q:Wt→Bool) (v:Value) (N:Nat) (w:World) (ha:WtA N w v l) (hN:N≤w.heap.size) (hq:∀ t∈l,∀ W,Below w.heap.size w W→Calls Tryz.prog 111 #[.agg #[.int .i64 t.lo,.int .i64 t.hi,.int .i64 t.wt,.bool t.ea]] W (tBool (q t) W)) :
  Calls Tryz.prog 129 #[v,.func (.func 111) #[] #[]] w fun e w'=>∃ r:Int,e=.returned (.int .i64 r)∧(-1≤r∧r≤140737488351232)∧decide (0≤r)=l.any q∧Below w.heap.size w w':=by
 obtain⟨p,cap,rfl,hl,hc0,hp⟩:=ha;have HP:=Lh hp;clear hp;have HQ:=Lh hq;obtain⟨K,hK⟩:∃ K,l.length=K:=⟨_,rfl⟩;have HK:=Lh hK;rw [hK] at hl ⊢;have hk:K≤140737488351232:=(by omega);clear hK hl hq;have HB0:=Lh (Below.refl w.heap.size w)
 go_enter Tryz.func129,Tryz.ntmps129
 go_wp2;go_loopw [8] (fun i wr=>∃ j:Nat,j≤K∧i=.int .i64 j∧Hid ((l.take j).any q=false)∧Hid (Below w.heap.size w wr)) (fun i _=>K - (intOf i).toNat)
 case atStart=>exact⟨0,Nat.zero_le _,rfl,Lh rfl,HB0⟩
 case round =>
  obtain⟨j,hj,rfl,FN,BW⟩:=hrel;by_cases hlt:j<K
  ·obtain⟨c,hc⟩:∃ c,l[j]? = some c:=⟨_,List.getElem?_eq_getElem (by rw [HK.out];exact hlt)⟩;have hbw:Below N w wr:=BW.out.mono hN;obtain⟨b,off,rfl,hb,hcell⟩:=HP.out (by rw [HK.out];omega);obtain⟨q0,q1,q2,q3⟩:=hcell j c hc;have c0:=low_cells hbw _ _ hb _ q0;have c1:=low_cells hbw _ _ hb _ q1;have c2:=low_cells hbw _ _ hb _ q2;have c3:=low_cells hbw _ _ hb _ q3;have CC:=Lh (HQ.out c (List.mem_of_getElem? hc) wr BW.out);clear hcell q0 q1 q2 q3;have HC:=Lh hc;clear hc hbw;cases hs:q c
   ·have FN2:=Lh (any_next HC.out hs FN.out);rw [hs] at CC;clear hs;go_wp2_with (go_at_call 111;((with_reducible refine CC.out.mono ?_);rintro e w1 ⟨rfl,hb1⟩;have HB1:=Lh (BW.out.then_ hb1);clear hb1))
    go_roundw
    case rel=>exact⟨j+1,by omega,by go_num,FN2,HB1⟩
    case measure=>simp [intOf];omega
   ·have FS:=Lh (any_at HC.out hs);rw [hs] at CC;clear hs;go_wp2_with (go_at_call 111;((with_reducible refine CC.out.mono ?_);rintro e w1 ⟨rfl,hb1⟩;have HB1:=Lh (BW.out.then_ hb1);clear hb1))
    go_ret;exact⟨_,rfl,by omega,by rw [FS.out];exact decide_eq_true (by omega),HB1.out⟩
  ·have FN2:Hid (l.any q=false):=Lh (by have:=FN.out;rw [List.take_of_length_le (by rw [HK.out];omega)] at this;exact this);go_wp2;go_ret;exact⟨_,rfl,by omega,by rw [FN2.out];rfl,BW.out⟩
theorem wrong_has (l:List Wt) (q:Wt→Bool) (v:Value) (N:Nat) (w:World) (ha:WtA N w v l) (hN:N≤w.heap.size) (hq:∀ t∈l,∀ W,Below w.heap.size w W→Calls Tryz.prog 111 #[.agg #[.int .i64 t.lo,.int .i64 t.hi,.int .i64 t.wt,.bool t.ea]] W (tBool (q t) W)) :
  Calls Tryz.prog 110 #[v,.func (.func 111) #[] #[]] w (tBool (l.any q) w):=by
 have IC:=Lh (wrong_ix l q v N w ha hN hq);have hcc:∃ p cap,v=.slice p l.length cap:=(by obtain⟨p,cap,e,_⟩:=ha;exact⟨p,cap,e⟩);obtain⟨p,cap,rfl⟩:=hcc;clear ha hq;generalize l.any q=c at *
 generalize l.length=K at *
 cases c
 ·go_enter Tryz.func110,Tryz.ntmps110
  go_wp2_with (go_at_call 129;((with_reducible refine IC.out.mono ?_);rintro e w1 ⟨r,rfl,⟨hr0,hr1⟩,hr,hb⟩;have HB:=Lh hb;clear hb))
  go_ret;exact⟨rfl,HB.out⟩
 ·go_enter Tryz.func110,Tryz.ntmps110
  go_wp2_with (go_at_call 129;((with_reducible refine IC.out.mono ?_);rintro e w1 ⟨r,rfl,⟨hr0,hr1⟩,hr,hb⟩;have HB:=Lh hb;clear hb))
  go_ret;exact⟨rfl,HB.out⟩
end ItW
end Go.Proofs.YtihnejaopejbgaaGreatDoor
