/-
  Laws that the card uses; no conditions beside those that each states (ExOver ExSameR ClFind ClBase).
-/
import Derived.Test.YtihnejaopejbgaaGreatDoorP25
import Derived.Test.YtihnejaopejbgaaGreatDoorP38
set_option maxRecDepth 100000
set_option maxHeartbeats 16000000
namespace Go.Proofs.YtihnejaopejbgaaGreatDoor
namespace ExW
open Go Go.RowKit NumM LexW LexM ExM
section
variable {W:World} {g:Nat} {x0 x1 x2 x3 x4:Value}
theorem Five.frz (h:Five W g x0 x1 x2 x3 x4) (j:Nat):W.frozen? ⟨g,j,none⟩=false:=by simp [World.frozen?,show W.heap[g]? = _ from h]
theorem Five.set0 (h:Five W g x0 x1 x2 x3 x4) (u:Value):Five (W.setCell ⟨g,0,none⟩ u) g u x1 x2 x3 x4:=by unfold Five;rw [heap_setCell_same W g 0 _ _ u h];rfl
theorem Five.set1 (h:Five W g x0 x1 x2 x3 x4) (u:Value):Five (W.setCell ⟨g,1,none⟩ u) g x0 u x2 x3 x4:=by unfold Five;rw [heap_setCell_same W g 1 _ _ u h];rfl
theorem Five.set2 (h:Five W g x0 x1 x2 x3 x4) (u:Value):Five (W.setCell ⟨g,2,none⟩ u) g x0 x1 u x3 x4:=by unfold Five;rw [heap_setCell_same W g 2 _ _ u h];rfl
theorem Five.set3 (h:Five W g x0 x1 x2 x3 x4) (u:Value):Five (W.setCell ⟨g,3,none⟩ u) g x0 x1 x2 u x4:=by unfold Five;rw [heap_setCell_same W g 3 _ _ u h];rfl
theorem Five.set4 (h:Five W g x0 x1 x2 x3 x4) (u:Value):Five (W.setCell ⟨g,4,none⟩ u) g x0 x1 x2 x3 u:=by unfold Five;rw [heap_setCell_same W g 4 _ _ u h];rfl
end
theorem nms_not {g:Nat} {W:World} {v:Value} {l:List ByteArray} (h:Nms (g+1) W v l):∀ b,v.ownBlock=some b→some g≠some b:=fun b hb e=>by
 have:=(h.blk hb).1;cases e;omega
theorem Seen.set0 {g:Nat} {k m f:Int} {l1 l2:List ByteArray} {W:World} (h:Seen g k m f l1 l2 W) (u:Int):Seen g u m f l1 l2 (W.setCell ⟨g,0,none⟩ (.int .i64 u)):=by
 obtain⟨v1,v2,h1,h2,h3,h4⟩:=h;exact⟨v1,v2,h1.set0 _,h2.grown (grownBy_set _ _ _ _) (nms_not h2),h3.grown (grownBy_set _ _ _ _) (nms_not h3),h4⟩
theorem Seen.set1 {g:Nat} {k m f:Int} {l1 l2:List ByteArray} {W:World} (h:Seen g k m f l1 l2 W) (u:Int):Seen g k u f l1 l2 (W.setCell ⟨g,1,none⟩ (.int .i64 u)):=by
 obtain⟨v1,v2,h1,h2,h3,h4⟩:=h;exact⟨v1,v2,h1.set1 _,h2.grown (grownBy_set _ _ _ _) (nms_not h2),h3.grown (grownBy_set _ _ _ _) (nms_not h3),h4⟩
theorem Seen.set2 {g:Nat} {k m f:Int} {l1 l2:List ByteArray} {W:World} (h:Seen g k m f l1 l2 W) (u:Int):Seen g k m u l1 l2 (W.setCell ⟨g,2,none⟩ (.int .i64 u)):=by
 obtain⟨v1,v2,h1,h2,h3,h4⟩:=h;exact⟨v1,v2,h1.set2 _,h2.grown (grownBy_set _ _ _ _) (nms_not h2),h3.grown (grownBy_set _ _ _ _) (nms_not h3),h4⟩
theorem Seen.app1 {g:Nat} {k m f:Int} {l1 l2:List ByteArray} {W W':World} {v1 v2:Value} {s:ByteArray} {g' cap:Nat} (h1:Five W g (.int .i64 k) (.int .i64 m) (.int .i64 f) v1 v2) (h2:Nms (g+1) W v1 l1) (h3:Nms (g+1) W v2 l2) (h4:∀ b,v1.ownBlock=some b→v2.ownBlock≠some b)
  (hown:W'.ownsRow (g+1) 9 1 (.slice (some ⟨g',0,none⟩) (l1.length+1) cap) (l1.length+1) (l1.map Value.string++[.string s])) (hgr:W.grownBy W' v1.ownBlock) (hat:v1.ownBlock=some g'∨g'=W.heap.size) :
  Five W' g (.int .i64 k) (.int .i64 m) (.int .i64 f) v1 v2∧Seen g k m f (l1++[s]) l2 (W'.setCell ⟨g,3,none⟩ (.slice (some ⟨g',0,none⟩) (l1.length+1) cap))∧Turn g W W'∧(∀ b o n s x,g<b→Box4 W b o n s x→Box4 W' b o n s x):=by
 have hne:some g≠v1.ownBlock:=(fun e=>nms_not h2 _ e.symm rfl);have f1:=h1.grown hgr hne;have n2:Nms (g+1) W' v2 l2:=h3.grown hgr (fun b hb e=>h4 b e hb);have n1:Nms (g+1) W' (.slice (some ⟨g',0,none⟩) (l1.length+1) cap) (l1++[s]):=by
  show W'.ownsRow _ _ _ _ _ _;rw [List.length_append,List.map_append];exact hown
 have hk:Keep g (g+1) W W':=Keep.grown hgr fun b e cs t fr hv=>by
  obtain⟨q1,_,cs',q2⟩:=h2.blk e;rw [q2] at hv;cases hv;exact⟨by omega,.inr ⟨by decide,by decide⟩⟩
 refine⟨f1,⟨_,v2,f1.set3 _,n1.grown (grownBy_set _ _ _ _) (nms_not n1),n2.grown (grownBy_set _ _ _ _) (nms_not n2),fun b hb=>?_⟩,⟨(Below.refl _ _).grown hgr (by have:=h1.lt;omega) (fun b e=>by have:=(h2.blk e).1;omega),hk⟩,fun b o n s x hb hx=>hx.keep hk hb⟩;obtain rfl:g'=b:=(by simpa [Value.ownBlock] using hb);rcases hat with e | e
 ·exact h4 _ e
 ·intro e2;have:=(h3.blk e2).2.1;omega
theorem Seen.app2 {g:Nat} {k m f:Int} {l1 l2:List ByteArray} {W W':World} {v1 v2:Value} {s:ByteArray} {g' cap:Nat} (h1:Five W g (.int .i64 k) (.int .i64 m) (.int .i64 f) v1 v2) (h2:Nms (g+1) W v1 l1) (h3:Nms (g+1) W v2 l2) (h4:∀ b,v1.ownBlock=some b→v2.ownBlock≠some b)
  (hown:W'.ownsRow (g+1) 9 1 (.slice (some ⟨g',0,none⟩) (l2.length+1) cap) (l2.length+1) (l2.map Value.string++[.string s])) (hgr:W.grownBy W' v2.ownBlock) (hat:v2.ownBlock=some g'∨g'=W.heap.size) :
  Five W' g (.int .i64 k) (.int .i64 m) (.int .i64 f) v1 v2∧Seen g k m f l1 (l2++[s]) (W'.setCell ⟨g,4,none⟩ (.slice (some ⟨g',0,none⟩) (l2.length+1) cap))∧Turn g W W'∧(∀ b o n s x,g<b→Box4 W b o n s x→Box4 W' b o n s x):=by
 have hne:some g≠v2.ownBlock:=(fun e=>nms_not h3 _ e.symm rfl);have f1:=h1.grown hgr hne;have n1:Nms (g+1) W' v1 l1:=h2.grown hgr (fun b hb e=>h4 b hb e);have n2:Nms (g+1) W' (.slice (some ⟨g',0,none⟩) (l2.length+1) cap) (l2++[s]):=by
  show W'.ownsRow _ _ _ _ _ _;rw [List.length_append,List.map_append];exact hown
 have hk:Keep g (g+1) W W':=Keep.grown hgr fun b e cs t fr hv=>by
  obtain⟨q1,_,cs',q2⟩:=h3.blk e;rw [q2] at hv;cases hv;exact⟨by omega,.inr ⟨by decide,by decide⟩⟩
 refine⟨f1,⟨v1,_,f1.set4 _,n1.grown (grownBy_set _ _ _ _) (nms_not n1),n2.grown (grownBy_set _ _ _ _) (nms_not n2),fun b hb e2=>?_⟩,⟨(Below.refl _ _).grown hgr (by have:=h1.lt;omega) (fun b e=>by have:=(h3.blk e).1;omega),hk⟩,fun b o n s x hb hx=>hx.keep hk hb⟩;obtain rfl:g'=b:=(by simpa [Value.ownBlock] using e2);rcases hat with e | e
 ·exact h4 _ hb e
 ·have:=(h2.blk hb).2.1;omega
def fE (f:Int) (L:List In):Int:=L.foldl (fun f x=>if f=0 then fltS x else f) f
noncomputable def sN (p:Int→Bool) (l:List ByteArray) (L:List In):List ByteArray:=L.foldl (stepN p) l
theorem sN_len (p:Int→Bool) (L:List In):∀ l,(sN p l L).length≤l.length+L.length:=by
 induction L with
 | nil=>intro l;simp [sN]
 | cons y r ih =>
  intro l;have h1:=ih (stepN p l y);have h2:(stepN p l y).length≤l.length+1:=by
   unfold stepN addN;split
   ·split<;>simp
   ·omega
  show (sN p (stepN p l y) r).length≤_;simp only [List.length_cons];omega
noncomputable def SeenF (g k m:Nat) (f:Int) (l1 l2:List ByteArray) (L:List In) (W:World):Prop:=Seen g ((k+L.length:Nat):Int) ((max m (mxL L):Nat):Int) (fE f L) (sN isVr l1 L) (sN isAr l2 L) W
theorem SeenF.app {g k m:Nat} {f:Int} {l1 l2:List ByteArray} {A B:List In} {W:World} (h:SeenF g (k+A.length) (max m (mxL A)) (fE f A) (sN isVr l1 A) (sN isAr l2 A) B W):SeenF g k m f l1 l2 (A++B) W:=by
 unfold SeenF at *
 have e1:k+(A++B).length=k+A.length+B.length:=(by rw [List.length_append];omega);have e2:max m (mxL (A++B))=max (max m (mxL A)) (mxL B):=(by rw [mx_append];omega);have e3:fE f (A++B)=fE (fE f A) B:=(by unfold fE;rw [List.foldl_append]);have e4:∀ p l,sN p l (A++B)=sN p (sN p l A) B:=(fun p l=>by unfold sN;rw [List.foldl_append]);rw [e1,e2,e3,e4,e4];exact h
theorem SeenF.one {g k m:Nat} {f:Int} {l1 l2 L1 L2:List ByteArray} {F2 o n:Int} {s:ByteArray} {d K:Nat} {W:World} (hF:(if f=0 then fltS ⟨0,o,n,s,K⟩ else f)=F2) (h1:(if (isVr o&&!inL s l1)=true then l1++[s] else l1)=L1) (h2:(if (isAr o&&!inL s l2)=true then l2++[s] else l2)=L2)
  (h:Seen g ((k:Int)+1) ((max m d:Nat):Int) F2 L1 L2 W):SeenF g k m f l1 l2 [⟨d,o,n,s,K⟩] W:=by
 have st:∀ (p:Int→Bool) (l:List ByteArray),sN p l [⟨d,o,n,s,K⟩]=if (p o&&!inL s l)=true then l++[s] else l:=fun p l=>by
  show stepN p l ⟨d,o,n,s,K⟩=_;unfold stepN addN inL;by_cases hp:p o=true
  ·by_cases hm:s∈l
   ·rw [if_pos hp,if_pos hm,if_neg];simp [hp,hm]
   ·rw [if_pos hp,if_neg hm,if_pos];simp [hp,hm]
  ·rw [if_neg hp,if_neg];simp [hp]
 unfold SeenF;rw [st,st,h1,h2,mx_one];have:fE f [⟨d,o,n,s,K⟩]=F2:=hF;rw [this];exact h
end ExW
namespace ExW
open Go Go.RowKit NumM LexW LexM ExM
theorem drew_below (W:World) (n:Nat):Below W.heap.size W (W.drewN n):=drewB (Below.refl _ _)
theorem see_any (g:Nat) (e:Ex):∀ (k m:Nat) (f:Int) (l1 l2:List ByteArray) (W:World) (d:Nat) (v:Value),Seen g k m f l1 l2 W→ExAt g W v e→k+sz e≤2000000→d+sz e≤4000000→l1.length≤k→l2.length≤k →
  Calls Tryz.prog 153 #[.pointer (some ⟨g,0,none⟩),v,.int .i64 d] W fun e' w'=>e'=.returned (.tuple #[])∧SeenF g k m f l1 l2 (pre d e) w'∧Turn g W w':=by
 induction e using Ex.ind with
 | h o n s ks ih =>
  intro k m f l1 l2 W d v hS hx hk hd hl1 hl2;obtain⟨p,cap,pl,cl,rfl,hs,ha⟩:=hx.form;simp only [Ex.op,Ex.n,Ex.nm,Ex.args] at hs ha ⊢;rw [sz_mk] at hk hd;have hkl:ks.length≤140737488351232:=(by have:=ha.hl;omega);have hb1:Below W.heap.size W (W.alloc (.cells #[.int .i64 o,.int .i64 n,.string s,.slice p ks.length cap] 51)):=(Below.refl _ _).alloc (Nat.le_refl _) _;have hgl:g<W.heap.size:=(by obtain⟨_,_,h5,_⟩:=hS;exact h5.lt);have HM0:Hid (Mid g k m f l1 l2 W.heap.size o n s (.slice p ks.length cap) W (W.alloc (.cells #[.int .i64 o,.int .i64 n,.string s,.slice p ks.length cap] 51))):=Lh ⟨hS.later hb1,heap_alloc_new _ _,hgl,(Turn.refl g W).later (by omega) hb1⟩;have HM1:Hid (∀ wx,Mid g k m f l1 l2 W.heap.size o n s (.slice p ks.length cap) W wx→Mid g ((k:Int)+1) m f l1 l2 W.heap.size o n s (.slice p ks.length cap) W (wx.setCell ⟨g,0,none⟩ (.int .i64 ((k:Int)+1)))):=(Lh fun wx h=>⟨h.seen.set0 _,h.box.set (by omega) _,h.far,h.turn.set _⟩);have HM2:Hid (∀ wx (u:Int),Mid g ((k:Int)+1) m f l1 l2 W.heap.size o n s (.slice p ks.length cap) W wx→Mid g ((k:Int)+1) u f l1 l2 W.heap.size o n s (.slice p ks.length cap) W (wx.setCell ⟨g,1,none⟩ (.int .i64 u))):=(Lh fun wx u h=>⟨h.seen.set1 _,h.box.set (by omega) _,h.far,h.turn.set _⟩);have WC:Hid (∀ W',Calls Tryz.prog 167 #[xv o n s (.slice p ks.length cap)] W' (tInt (fltS ⟨0,o,n,s,ks.length⟩) W')):=(Lh fun W'=>wrong_any o n s p ks.length cap W' hs hkl);have HA:=Lh ha;have HS:=Lh hS;clear ha hx hS hb1;generalize hKe:ks.length=K at *
  have HK:=Lh hKe;clear hKe
  go_enter Tryz.func153,Tryz.ntmps153
  go_upto_region 1 with (fail)
  have HGL:=Lh hgl;clear hgl;generalize W.alloc (.cells #[.int .i64 o,.int .i64 n,.string s,.slice p K cap] 51)=W1 at *
  generalize hb4:W.heap.size=b4 at *
  obtain⟨_,_,h5,_⟩:=HM0.out.seen;have a0:=h5.c0;have z0:=h5.frz 0;obtain⟨_,_,h6,_⟩:=(HM1.out _ HM0.out).seen;have a1:=h6.c1;have z1:=h6.frz 1;clear h5 h6
  go_upto_if 20 with (fail)
  go_cut [] (fun wx=>Hid (Mid g ((k:Int)+1) ((max m d:Nat):Int) f l1 l2 b4 o n s (.slice p K cap) W wx))
  case first =>
   by_cases hdm:(m:Int)<(d:Int)
   ·go_wp2_with fail
    go_meet
    have:=HM2.out _ (d:Int) (HM1.out _ HM0.out);rw [show ((max m d:Nat):Int)=(d:Int) by omega];exact Lh this
   ·go_wp2_with fail
    go_meet
    rw [show ((max m d:Nat):Int)=(m:Int) by omega];exact Lh (HM1.out _ HM0.out)
  case rest =>
   clear a0 a1 z0 z1 HM0 HM1 HM2;obtain⟨M,hMd⟩:∃ M,((max m d:Nat):Int)=M:=⟨_,rfl⟩;rw [hMd] at hcut;have HMd:=Lh hMd;clear hMd;obtain⟨v1',v2',h5,_⟩:=hcut.out.seen;have a2:=h5.c2;have z2:=h5.frz 2;have hbx:=hcut.out.box;have b0:=hbx.c0;have b1:=hbx.c1;have b2:=hbx.c2;have b3:=hbx.c3;clear h5 hbx;obtain⟨F2,hF2⟩:∃ F2,(if f=0 then fltS ⟨0,o,n,s,K⟩ else f)=F2:=⟨_,rfl⟩;have HF2:=Lh hF2;clear hF2
   go_upto_if 29 with (fail)
   go_cut [] (fun wx=>Hid (Mid g ((k:Int)+1) M F2 l1 l2 b4 o n s (.slice p K cap) W wx))
   case first =>
    by_cases hf:f=0
    ·have hF:F2=fltS ⟨0,o,n,s,K⟩:=(by rw [←HF2.out,if_pos hf]);subst hf;go_wp2_with (go_at_call 167;((with_reducible refine (WC.out _).mono ?_);rintro e w5 ⟨rfl,hb⟩;have hM5:=hcut.out.later (by have:=HGL.out;omega) hb;obtain⟨_,_,h6,_⟩:=hM5.seen;have c2:=h6.c2;have z3:=h6.frz 2;have HM5:=Lh hM5;clear h6 hM5 hb))
     go_meet
     rw [hF];have h:=HM5.out;exact Lh ⟨h.seen.set2 _,h.box.set (by have:=h.far;omega) _,h.far,h.turn.set _⟩
    ·have hf2:(f == 0)=false:=(by rw [beq_eq_false_iff_ne];exact hf);have hF:F2=f:=(by rw [←HF2.out,if_neg hf]);clear hf;go_wp2_with fail
     go_meet
     rw [hF];exact hcut
   case rest =>
    clear a2 z2 b0 b1 b2 b3 WC;obtain⟨v3,v4,h7,n1,n2,ap⟩:=hcut.out.seen;have c3:=h7.c3;have b0:=hcut.out.box.c0;have b2:=hcut.out.box.c2;have HC:Hid (∀ i,Calls Tryz.prog 168 #[v3,.string s] (wc.drewN i) fun e w'=>e=.returned (.bool (inL s l1))∧wc.drewN i=w'):=(Lh fun i=>has_any l1 v3 s _ ((strs_own n1).later (drew_below _ _)) (by omega));have e2:(o == 2)=isVr o:=(by unfold isVr;rw [Bool.eq_iff_iff];simp);generalize hVe:isVr o=V at *
    generalize hIe:inL s l1=I1 at *
    have HVe:=Lh hVe;have HIe:=Lh hIe;clear hVe hIe
    go_upto_region 6 with (fail)
    go_cut [47] (fun s47 wx=>s47=.bool (V&&!I1)∧Hid (Mid g ((k:Int)+1) M F2 l1 l2 b4 o n s (.slice p K cap) W wx))
    case first =>
     cases V
     all_goals
      go_quiet ((go_at_call 168;first | exact quietL (HC.out _) | exact quietA (HC.out _)))
      go_wp2_with fail
      go_meet
      exact⟨rfl,Lh (hcut.out.later (by have:=HGL.out;omega) (drew_below _ _))⟩
    case rest =>
     obtain⟨rfl,hM⟩:=hcut;clear c3 b0 b2 h7 n1 n2 ap HC e2;obtain⟨v5,v6,h8,n3,n4,ap2⟩:=hM.out.seen;have c3:=h8.c3;have z3:=h8.frz 3;have b2:=hM.out.box.c2;have hbl:=hM.out.box.lt;have hgl2:=h8.lt;obtain⟨L1,hL1⟩:∃ L1,(if (V&&!I1)=true then l1++[s] else l1)=L1:=⟨_,rfl⟩;have HL1:=Lh hL1;have H8:=Lh h8;have N3:=Lh n3;have N4:=Lh n4;have AP2:=Lh ap2;clear hL1 h8 n3 n4 ap2
     go_upto_if 47 with (fail)
     go_cut [] (fun wx=>Hid (Mid g ((k:Int)+1) M F2 L1 l2 b4 o n s (.slice p K cap) W wx))
     case first =>
      cases hX:(V&&!I1)
      ·have hL:L1=l1:=(by rw [←HL1.out,hX];rfl);go_wp2_with fail
       go_meet
       rw [hL];exact hM
      ·have hL:L1=l1++[s]:=(by rw [←HL1.out,hX];rfl);obtain⟨i0,hi,hz0,hz1,hz2⟩:=info_parts infoS;go_wp2_with fail
       go_region_law (go_loud (refine step_append_lies _ rfl (.tmp 52) (.tmp 55) 43 rfl (g+1) 9 i0 (.string ⟨#[]⟩) 1 16 Tryz.underlying43 hi hz0 hz1 hz2 rfl (by decide) v5 l1.length (l1.map Value.string) (by simp [Act.eval]) (N3.out.later (by first | exact ((Below.refl _ _).alloc (Nat.le_refl _) _).drew | exact (Below.refl _ _).alloc (Nat.le_refl _) _)) ⟨wc.heap.size,0,none⟩ 1 1 [.string s] (by simp [Act.eval]) rfl (World.news_of_block (cs:=#[.string s]) (by first | exact heap_alloc_new _ _ | exact heap_alloc_new wc _)) (by simp [Value.oneCell']) (by decide) (by unfold maxLen;omega) (by omega) (Nat.le_trans hgl2 (by first | (rw [World.size_alloc];omega) | (show wc.heap.size≤(wc.alloc _).heap.size;rw [World.size_alloc];omega))) _ rfl ?_;intro g' cp w1 hown hgr hat hlt;obtain⟨f1,sn,tn,bx⟩:=Seen.app1 (H8.out.stay (by first | exact ((Below.refl _ _).alloc (Nat.le_refl _) _).drew | exact (Below.refl _ _).alloc (Nat.le_refl _) _)) (N3.out.later (by first | exact ((Below.refl _ _).alloc (Nat.le_refl _) _).drew | exact (Below.refl _ _).alloc (Nat.le_refl _) _)) (N4.out.later (by first | exact ((Below.refl _ _).alloc (Nat.le_refl _) _).drew | exact (Below.refl _ _).alloc (Nat.le_refl _) _)) AP2.out hown hgr hat;have q3:=f1.c3;have y3:=f1.frz 3;have SN:=Lh sn;have TN:=Lh tn;have BX:=Lh bx;clear f1 sn tn bx hown hgr hat hlt))
       all_goals
        go_wp2_with fail
        go_meet
        rw [hL];exact Lh ⟨SN.out,((BX.out _ _ _ _ _ hM.out.far (hM.out.box.stay (by first | exact ((Below.refl _ _).alloc (Nat.le_refl _) _).drew | exact (Below.refl _ _).alloc (Nat.le_refl _) _))).set (by have:=hM.out.far;omega) _),hM.out.far,((hM.out.turn.later (by have:=HGL.out;omega) (by first | exact ((Below.refl _ _).alloc (Nat.le_refl _) _).drew | exact (Below.refl _ _).alloc (Nat.le_refl _) _)).trans TN.out).set _⟩
     case rest =>
      clear c3 z3 b2 hbl hgl2 H8 N3 N4 AP2 hM;have hl1':L1.length≤k+1:=by
       rw [←HL1.out];split
       ·rw [List.length_append];simp;omega
       ·omega
      obtain⟨v7,v8,h7,n1,n2,ap⟩:=hcut.out.seen;have c4:=h7.c4;have b0:=hcut.out.box.c0;have b2:=hcut.out.box.c2;have HC:Hid (∀ i,Calls Tryz.prog 168 #[v8,.string s] (wc.drewN i) fun e w'=>e=.returned (.bool (inL s l2))∧wc.drewN i=w'):=(Lh fun i=>has_any l2 v8 s _ ((strs_own n2).later (drew_below _ _)) (by omega));have HA3:Hid (isAr o=((o == 3)||(o == 24))):=Lh (by unfold isAr;rw [Bool.eq_iff_iff];simp);obtain⟨A,hA⟩:∃ A,isAr o=A:=⟨_,rfl⟩;have HAr:=Lh hA;clear hA;generalize hI2:inL s l2=I2 at *
      have HI2:=Lh hI2;clear hI2
      go_upto_region 8 with (fail)
      go_cut [76] (fun s76 wx=>s76=.bool (A&&!I2)∧Hid (Mid g ((k:Int)+1) M F2 L1 l2 b4 o n s (.slice p K cap) W wx))
      case first =>
       have hA2:=HA3.out;rw [HAr.out] at hA2;cases h3:(o == 3)<;>cases h24:(o == 24)
       all_goals
        rw [h3,h24] at hA2;have hA3:A=_:=hA2;subst hA3;clear hA2;go_quiet ((go_at_call 168;first | exact quietL (HC.out _) | exact quietA (HC.out _)))
        go_wp2_with fail
        go_meet
        exact⟨rfl,Lh (hcut.out.later (by have:=HGL.out;omega) (drew_below _ _))⟩
      case rest =>
       obtain⟨rfl,hM3⟩:=hcut;clear c4 b0 b2 h7 n1 n2 ap HC;obtain⟨v9,v10,h9,n5,n6,ap3⟩:=hM3.out.seen;have c4:=h9.c4;have z4:=h9.frz 4;have b2:=hM3.out.box.c2;have hbl3:=hM3.out.box.lt;have hgl3:=h9.lt;obtain⟨L2,hL2⟩:∃ L2,(if (A&&!I2)=true then l2++[s] else l2)=L2:=⟨_,rfl⟩;have HL2:=Lh hL2;have H9:=Lh h9;have N5:=Lh n5;have N6:=Lh n6;have AP3:=Lh ap3;clear hL2 h9 n5 n6 ap3
       go_upto_if 76 with (fail)
       go_cut [] (fun wx=>Hid (Mid g ((k:Int)+1) M F2 L1 L2 b4 o n s (.slice p K cap) W wx))
       case first =>
        cases hX:(A&&!I2)
        ·have hL2:L2=l2:=(by rw [←HL2.out,hX];rfl);go_wp2_with fail
         go_meet
         rw [hL2];exact hM3
        ·have hL2:L2=l2++[s]:=(by rw [←HL2.out,hX];rfl);obtain⟨i0,hi,hz0,hz1,hz2⟩:=info_parts infoS;go_wp2_with fail
         go_region_law (go_loud (refine step_append_lies _ rfl (.tmp 81) (.tmp 84) 43 rfl (g+1) 9 i0 (.string ⟨#[]⟩) 1 16 Tryz.underlying43 hi hz0 hz1 hz2 rfl (by decide) v10 l2.length (l2.map Value.string) (by simp [Act.eval]) (N6.out.later (by first | exact ((Below.refl _ _).alloc (Nat.le_refl _) _).drew | exact (Below.refl _ _).alloc (Nat.le_refl _) _)) ⟨wc.heap.size,0,none⟩ 1 1 [.string s] (by simp [Act.eval]) rfl (World.news_of_block (cs:=#[.string s]) (by first | exact heap_alloc_new _ _ | exact heap_alloc_new wc _)) (by simp [Value.oneCell']) (by decide) (by unfold maxLen;omega) (by omega) (Nat.le_trans hgl3 (by first | (rw [World.size_alloc];omega) | (show wc.heap.size≤(wc.alloc _).heap.size;rw [World.size_alloc];omega))) _ rfl ?_;intro g' cp w1 hown hgr hat hlt;obtain⟨f1,sn,tn,bx⟩:=Seen.app2 (H9.out.stay (by first | exact ((Below.refl _ _).alloc (Nat.le_refl _) _).drew | exact (Below.refl _ _).alloc (Nat.le_refl _) _)) (N5.out.later (by first | exact ((Below.refl _ _).alloc (Nat.le_refl _) _).drew | exact (Below.refl _ _).alloc (Nat.le_refl _) _)) (N6.out.later (by first | exact ((Below.refl _ _).alloc (Nat.le_refl _) _).drew | exact (Below.refl _ _).alloc (Nat.le_refl _) _)) AP3.out hown hgr hat;have q3:=f1.c4;have y3:=f1.frz 4;have SN:=Lh sn;have TN:=Lh tn;have BX:=Lh bx;clear f1 sn tn bx hown hgr hat hlt))
         all_goals
          go_wp2_with fail
          go_meet
          rw [hL2];exact Lh ⟨SN.out,((BX.out _ _ _ _ _ hM3.out.far (hM3.out.box.stay (by first | exact ((Below.refl _ _).alloc (Nat.le_refl _) _).drew | exact (Below.refl _ _).alloc (Nat.le_refl _) _))).set (by have:=hM3.out.far;omega) _),hM3.out.far,((hM3.out.turn.later (by have:=HGL.out;omega) (by first | exact ((Below.refl _ _).alloc (Nat.le_refl _) _).drew | exact (Below.refl _ _).alloc (Nat.le_refl _) _)).trans TN.out).set _⟩
       case rest =>
        clear c4 z4 b2 hbl3 hgl3 H9 N5 N6 AP3 hM3;have h0:SeenF g k m f l1 l2 [⟨d,o,n,s,K⟩] wc:=SeenF.one (L1:=L1) (L2:=L2) HF2.out (by rw [HVe.out,HIe.out];exact HL1.out) (by rw [HAr.out,HI2.out];exact HL2.out) (by rw [HMd.out];exact hcut.out.seen);have b3:=hcut.out.box.c3;have HS0:=Lh h0;have HB0:=Lh hcut.out.box;have HT0:=Lh hcut.out.turn;have HFAR:=Lh hcut.out.far;have HIH:=Lh ih;clear h0 hcut HL1 HL2 HF2 HMd HVe HIe HAr HI2 HA3 hl1' ih;go_wp2_with fail
        go_loopw [6] (fun i wr=>∃ j:Nat,j≤K∧i=.int .i64 j∧Hid (SeenF g k m f l1 l2 (⟨d,o,n,s,K⟩::pres (d+1) (ks.take j)) wr)∧Hid (Box4 wr b4 o n s (.slice p K cap))∧Hid (Turn g W wr)) (fun i _=>K - (intOf i).toNat)
        case atStart=>exact⟨0,Nat.zero_le _,rfl,Lh (by rw [List.take_zero,pres_nil];exact HS0.out),HB0,HT0⟩
        case round =>
         obtain⟨j,hj,rfl,SS,BX,TT⟩:=hrel;clear b3;have b3:=BX.out.c3;by_cases hlt:j<K
         ·obtain⟨b,off,rfl,hbs,hcell⟩:=HA.out.hp (by rw [HK.out];omega);obtain⟨a,hak⟩:∃ a,ks[j]? = some a:=⟨_,List.getElem?_eq_getElem (by rw [HK.out];exact hlt)⟩;obtain⟨q0,q1,q2,q3⟩:=hcell j a hak;have hbw:Below g W wr:=TT.out.low;have ca0:wr.cell? ⟨b,off+j*4,none⟩=some (.int .i64 a.op):=(by rw [hbw.cell hbs];exact q0);have ca1:wr.cell? ⟨b,off+j*4+1,none⟩=some (.int .i64 a.n):=(by rw [hbw.cell hbs];exact q1);have ca2:wr.cell? ⟨b,off+j*4+2,none⟩=some (.string a.nm):=(by rw [hbw.cell hbs];exact q2);have ca3:wr.cell? ⟨b,off+j*4+3,none⟩=some (.slice (pl j) a.args.length (cl j)):=(by rw [hbw.cell hbs];exact q3);have hxa:=HA.out.hx j a hak;have hln:(pres (d+1) (ks.take j)).length=szs (ks.take j):=pres_len (fun a _=>pre_len a _);have ht1:=szs_take hak;have ht2:=szs_take_le (j+1) ks;have s1:=sN_len isVr (⟨d,o,n,s,K⟩::pres (d+1) (ks.take j)) l1;have s2:=sN_len isAr (⟨d,o,n,s,K⟩::pres (d+1) (ks.take j)) l2;simp only [List.length_cons] at s1 s2;have IC:=HIH.out a (List.mem_of_getElem? hak) _ _ _ _ _ wr (d+1) _ SS.out (hxa.under hbw) (by simp only [List.length_cons];omega) (by have:=szs_take_le j ks;omega) (by simp only [List.length_cons];omega) (by simp only [List.length_cons];omega);rw [show ((d+1:Nat):Int)=(d:Int)+1 by omega] at IC;have NX:Hid (∀ w',SeenF g (k+(⟨d,o,n,s,K⟩::pres (d+1) (ks.take j)).length) (max m (mxL (⟨d,o,n,s,K⟩::pres (d+1) (ks.take j)))) (fE f (⟨d,o,n,s,K⟩::pres (d+1) (ks.take j))) (sN isVr l1 (⟨d,o,n,s,K⟩::pres (d+1) (ks.take j))) (sN isAr l2 (⟨d,o,n,s,K⟩::pres (d+1) (ks.take j))) (pre (d+1) a) w'→SeenF g k m f l1 l2 (⟨d,o,n,s,K⟩::pres (d+1) (ks.take (j+1))) w'):=Lh fun w' h=>by
           have:=SeenF.app h;rw [pres_take hak];exact this
          obtain⟨ao,hao⟩:∃ x,a.op=x:=⟨_,rfl⟩;obtain⟨an,han⟩:∃ x,a.n=x:=⟨_,rfl⟩;obtain⟨am,ham⟩:∃ x,a.nm=x:=⟨_,rfl⟩;obtain⟨ak,hka⟩:∃ x,a.args.length=x:=⟨_,rfl⟩;obtain⟨ap,hap⟩:∃ x,pl j=x:=⟨_,rfl⟩;obtain⟨ac,hac⟩:∃ x,cl j=x:=⟨_,rfl⟩;rw [hao] at ca0 IC;rw [han] at ca1 IC;rw [ham] at ca2 IC;rw [hka,hap,hac] at ca3 IC;have IC:=Lh IC;clear hcell q0 q1 q2 q3 hbw hxa hak hao han ham hka hap hac hln ht1 ht2 s1 s2;go_wp2_with (go_at_call 153;((with_reducible refine IC.out.mono ?_);rintro e w5 ⟨rfl,hs5,ht5⟩;have SS5:=Lh (NX.out _ hs5);have BX5:=Lh (BX.out.keep ht5.keep HFAR.out);have TT5:=Lh (TT.out.trans ht5);clear hs5 ht5))
          go_roundw
          case rel=>exact⟨j+1,by omega,by go_num,SS5,BX5,TT5⟩
          case measure=>simp [intOf];omega
         ·have hjK:ks.take j=ks:=List.take_of_length_le (by rw [HK.out];omega);have FIN:Hid (SeenF g k m f l1 l2 (pre d (.mk o n s ks)) wr):=Lh (by rw [pre_mk,HK.out,←hjK];have:=SS.out;rw [hjK] at this ⊢;exact this);go_wp2
          go_end0
          exact⟨rfl,FIN.out,TT.out⟩
end ExW
namespace ExW
open Go Go.RowKit NumM LexW LexM ExM
def SeenE (g:Nat) (e:Ex) (W:World):Prop:=Seen g (sz e) (dep e) (fstE (pre 1 e)) (namesL isVr (pre 1 e)) (namesL isAr (pre 1 e)) W
theorem SeenE.of {g:Nat} {e:Ex} {W:World} (h:SeenF g 0 0 0 [] [] (pre 1 e) W):SeenE g e W:=by
 unfold SeenF at h;have h1:=pre_mx e 1;have h2:=pre_len e 1;rw [show 0+(pre 1 e).length=sz e by omega,show max 0 (mxL (pre 1 e))=dep e by omega] at h;exact h
theorem over_any (e:Ex) (v:Value) (w:World) (hx:ExAt w.heap.size w v e) (hsz:sz e≤2000000) :
  Calls Tryz.prog 126 #[v] w fun x w'=>x=.returned (.pointer (some ⟨w.heap.size+1,0,none⟩))∧SeenE (w.heap.size+1) e w'∧Below w.heap.size w w':=by
 obtain⟨p,cap,pl,cl,rfl,hs,_⟩:=hx.form;have hb2:Below w.heap.size w ((w.alloc (.cells #[.int .i64 e.op,.int .i64 e.n,.string e.nm,.slice p e.args.length cap] 51)).alloc (.cells #[.int .i64 0,.int .i64 0,.int .i64 0,.slice none 0 0,.slice none 0 0] 145)):=((Below.refl _ _).alloc (Nat.le_refl _) _).alloc (by simp) _;have five:=Five.new (w.alloc (.cells #[.int .i64 e.op,.int .i64 e.n,.string e.nm,.slice p e.args.length cap] 51)) (.int .i64 0) (.int .i64 0) (.int .i64 0) (.slice none 0 0) (.slice none 0 0);rw [World.size_alloc] at five;have SC0:=(see_any (w.heap.size+1) e 0 0 0 [] [] _ 1 _ ⟨_,_,five,World.ownsRow_nil _ _ _ _,World.ownsRow_nil _ _ _ _,fun b hb=>by simp [Value.ownBlock] at hb⟩ ((hx.under hb2).wide (by omega)) (by omega) (by omega) (by simp) (by simp));rw [show ((1:Nat):Int)=1 from rfl] at SC0;have SC:=Lh SC0;clear SC0;have four:=(Four.new w (.int .i64 e.op) (.int .i64 e.n) (.string e.nm) (.slice p e.args.length cap) 51).alloc (.cells #[.int .i64 0,.int .i64 0,.int .i64 0,.slice none 0 0,.slice none 0 0] 145);have c0:=four.c0;have c1:=four.c1;have c2:=four.c2;have c3:=four.c3;have HB2:=Lh hb2;have HSE:Hid (∀ w',SeenF (w.heap.size+1) 0 0 0 [] [] (pre 1 e) w'→SeenE (w.heap.size+1) e w'):=(Lh fun w' h=>SeenE.of h);clear hx hs hb2 five four;generalize SeenE (w.heap.size+1) e=P at *
 generalize SeenF (w.heap.size+1) 0 0 0 [] [] (pre 1 e)=Q at *
 generalize e.op=o at *
 generalize e.n=n at *
 generalize e.nm=s at *
 generalize e.args.length=K at *
 go_enter Tryz.func126,Tryz.ntmps126
 go_wp2_with (go_at_call 153;((with_reducible refine SC.out.mono ?_);rintro e w5 ⟨rfl,hs5,ht5⟩;have S5:=Lh (HSE.out _ hs5);have B5:=Lh (HB2.out.trans (ht5.low.mono (by omega)));clear hs5 ht5))
 go_ret;exact⟨rfl,S5.out,B5.out⟩
theorem dep_sz (e:Ex):dep e≤sz e:=by
 induction e using Ex.ind with
 | h o n s ks ih =>
  rw [dep_mk,sz_mk];have:deps ks≤szs ks:=by
   induction ks with
   | nil=>rw [deps_nil];omega
   | cons a r ih2 =>
    rw [deps_cons,szs_cons];have h1:=ih a (by simp);have h2:=ih2 (fun b hb=>ih b (by simp [hb]));omega
  omega
theorem vld_eq (e:Ex):vld e=if fstE (pre 1 e)=0 then (if 24<dep e∨400<sz e then 2 else 0) else fstE (pre 1 e):=by
 have h1:=pre_mx e 1;have h2:=pre_len e 1;unfold vld vldL;rw [h2,show mxL (pre 1 e)=dep e by omega]
theorem validR_any (e:Ex) (v:Value) (w:World) (hx:ExAt w.heap.size w v e) (hsz:sz e≤2000000) :
  Calls Tryz.prog 104 #[v] w (tInt (vld e) w):=by
 obtain⟨p,cap,pl,cl,rfl,hs,_⟩:=hx.form;have hb1:Below w.heap.size w (w.alloc (.cells #[.int .i64 e.op,.int .i64 e.n,.string e.nm,.slice p e.args.length cap] 51)):=(Below.refl _ _).alloc (Nat.le_refl _) _;have OC:=over_any e _ _ (hx.later hb1) hsz;rw [World.size_alloc] at OC;have OC:=Lh OC;have four:=Four.new w (.int .i64 e.op) (.int .i64 e.n) (.string e.nm) (.slice p e.args.length cap) 51;have c0:=four.c0;have c1:=four.c1;have c2:=four.c2;have c3:=four.c3;have HB1:=Lh hb1;have VE:=Lh (vld_eq e);have hd:=dep_sz e;have HFV:Hid (∀ W,SeenE (w.heap.size+1+1) e W→W.cell? ⟨w.heap.size+1+1,0,none⟩=some (.int .i64 (sz e))∧W.cell? ⟨w.heap.size+1+1,1,none⟩=some (.int .i64 (dep e))∧W.cell? ⟨w.heap.size+1+1,2,none⟩=some (.int .i64 (fstE (pre 1 e)))):=Lh fun W h=>by
  obtain⟨_,_,h5,_⟩:=h;exact⟨h5.c0,h5.c1,h5.c2⟩
 clear hx hs hb1 four;generalize fstE (pre 1 e)=f at *
 generalize vld e=vv at *
 generalize SeenE (w.heap.size+1+1) e=P at *
 generalize dep e=D at *
 generalize sz e=Z at *
 generalize e.op=o at *
 generalize e.n=n at *
 generalize e.nm=s at *
 generalize e.args.length=K at *
 have cs:(f≠0∧vv=f)∨(f=0∧24<D∧vv=2)∨(f=0∧¬ 24<D∧400<Z∧vv=2)∨(f=0∧¬ 24<D∧¬ 400<Z∧vv=0):=by
  have:=VE.out;by_cases h0:f=0
  ·rw [if_pos h0] at this;by_cases h1:24<D
   ·rw [if_pos (.inl h1)] at this;exact .inr (.inl ⟨h0,h1,this⟩)
   ·by_cases h2:400<Z
    ·rw [if_pos (.inr h2)] at this;exact .inr (.inr (.inl ⟨h0,h1,h2,this⟩))
    ·rw [if_neg (by omega)] at this;exact .inr (.inr (.inr ⟨h0,h1,h2,this⟩))
  ·rw [if_neg h0] at this;exact .inl ⟨h0,this⟩
 clear VE;rcases cs with ⟨h0,hv⟩ | ⟨h0,h1,hv⟩ | ⟨h0,h1,h2,hv⟩ | ⟨h0,h1,h2,hv⟩
 ·have h0':(f == 0)=false:=(by rw [beq_eq_false_iff_ne];exact h0);clear h0
  go_enter Tryz.func104,Tryz.ntmps104
  go_wp2_with (go_at_call 126;((with_reducible refine OC.out.mono ?_);rintro e w5 ⟨rfl,hse,hb⟩;obtain⟨k0,k1,k2⟩:=HFV.out _ hse;have B5:=Lh (HB1.out.then_ (by rw [World.size_alloc];exact hb));clear hse hb))
  go_ret;exact tInt_mk hv.symm B5.out
 all_goals
  subst h0
  go_enter Tryz.func104,Tryz.ntmps104
  go_wp2_with (go_at_call 126;((with_reducible refine OC.out.mono ?_);rintro e w5 ⟨rfl,hse,hb⟩;obtain⟨k0,k1,k2⟩:=HFV.out _ hse;have B5:=Lh (HB1.out.then_ (by rw [World.size_alloc];exact hb));clear hse hb))
  go_ret;first
   | exact tInt_mk hv.symm B5.out
   | exact tInt_mk rfl B5.out
end ExW
namespace ExW
open Go Go.RowKit NumM LexW LexM ExM
open Go.«Sort»
theorem ne_of_beq {a b:Int} {x:Bool} (h:(a == b)=x):(a != b) = !x:=by rw [bne,h]
theorem sameR_any (a:Ex):∀ (b:Ex) (N:Nat) (w:World) (va vb:Value),ExAt N w va a→ExAt N w vb b→N≤w.heap.size→sz a≤2000000→Calls Tryz.prog 99 #[va,vb] w (tBool (eqB a b) w):=by
 induction a using Ex.ind with
 | h o n s ks ih =>
  intro b N w va vb hx hy hN hsz;obtain⟨o',n',s',ks'⟩:=b;obtain⟨p,cap,pl,cl,rfl,hs,ha⟩:=hx.form;obtain⟨p',cap',pl',cl',rfl,hs',hb⟩:=hy.form;simp only [Ex.op,Ex.n,Ex.nm,Ex.args] at hs ha hs' hb ⊢;rw [sz_mk] at hsz;have hl:=len_szs ks;have hk:ks.length≤2000000:=(by omega);have hk':=hb.hl;have EE:=Lh (eqB_mk o n s ks o' n' s' ks');have hb1:Below w.heap.size w ((w.alloc (.cells #[.int .i64 o,.int .i64 n,.string s,.slice p ks.length cap] 51)).alloc (.cells #[.int .i64 o',.int .i64 n',.string s',.slice p' ks'.length cap'] 51)):=((Below.refl _ _).alloc (Nat.le_refl _) _).alloc (by simp) _;have FA:=(Four.new w (.int .i64 o) (.int .i64 n) (.string s) (.slice p ks.length cap) 51).alloc (.cells #[.int .i64 o',.int .i64 n',.string s',.slice p' ks'.length cap'] 51);have FB:=Four.new (w.alloc (.cells #[.int .i64 o,.int .i64 n,.string s,.slice p ks.length cap] 51)) (.int .i64 o') (.int .i64 n') (.string s') (.slice p' ks'.length cap') 51;rw [World.size_alloc] at FB;have HB1:=Lh hb1;have HIH:Hid (∀ a∈ks,∀ b∈ks',∀ W va vb,Below w.heap.size w W→ExAt N W va a→ExAt N W vb b→Calls Tryz.prog 99 #[va,vb] W (tBool (eqB a b) W)):=(Lh fun a ha' b hb' W va vb hW hxa hxb=>ih a ha' b N W va vb hxa hxb (by have:=hW.size;omega) (by have:=sz_mem ha';omega));have HA:=Lh ha;have HB:=Lh hb;clear ha hb hx hy ih hb1 hs hs' hsz hl;obtain⟨K,hK⟩:∃ K,ks.length=K:=⟨_,rfl⟩;obtain⟨K',hK'⟩:∃ K',ks'.length=K':=⟨_,rfl⟩;have HK:=Lh hK;have HK':=Lh hK';rw [hK] at HB1 FA FB hk ⊢;rw [hK'] at HB1 FA FB hk' ⊢;clear hK hK';have e0:=FA.c0;have e1:=FA.c1;have e2:=FA.c2;have e3:=FA.c3;have g0:=FB.c0;have g1:=FB.c1;have g2:=FB.c2;have g3:=FB.c3;have HFA:=Lh FA;have HFB:=Lh FB;clear FA FB;by_cases hall:(o == o')=true∧(n == n')=true∧(s.toList == s'.toList)=true∧K=K'
  ·obtain⟨h1,h2,h3,rfl⟩:=hall;have HL:Hid (eqB (.mk o n s ks) (.mk o' n' s' ks')=eqL ks ks'):=Lh (by rw [EE.out,h1,h2,h3];rfl);have i1:=ne_of_beq h1;have i2:=ne_of_beq h2;clear EE
   go_enter Tryz.func99,Tryz.ntmps99
   go_wp2;go_loopw [5] (fun i wr=>∃ j:Nat,j≤K∧i=.int .i64 j∧Hid (∀ (i:Nat) (x y:Ex),i<j→ks[i]? = some x→ks'[i]? = some y→eqB x y=true)∧Hid (Below w.heap.size w wr)∧Hid (Four wr w.heap.size (.int .i64 o) (.int .i64 n) (.string s) (.slice p K cap))∧Hid (Four wr (w.heap.size+1) (.int .i64 o') (.int .i64 n') (.string s') (.slice p' K cap'))) (fun i _=>K - (intOf i).toNat)
   case atStart=>exact⟨0,Nat.zero_le _,rfl,Lh (fun i _ _ h=>by omega),HB1,HFA,HFB⟩
   case round =>
    obtain⟨j,hj,rfl,AL,BW,FA,FB⟩:=hrel;clear e0 e1 e2 e3 g0 g1 g2 g3;have e3:=FA.out.c3;have g3:=FB.out.c3;by_cases hlt:j<K
    ·obtain⟨b,off,rfl,hbs,hcell⟩:=HA.out.hp (by rw [HK.out];omega);obtain⟨b',off',rfl,hbs',hcell'⟩:=HB.out.hp (by rw [HK'.out];omega);obtain⟨a,hak⟩:∃ a,ks[j]? = some a:=⟨_,List.getElem?_eq_getElem (by rw [HK.out];exact hlt)⟩;obtain⟨d,hdk⟩:∃ d,ks'[j]? = some d:=⟨_,List.getElem?_eq_getElem (by rw [HK'.out];exact hlt)⟩;obtain⟨q0,q1,q2,q3⟩:=hcell j a hak;obtain⟨r0,r1,r2,r3⟩:=hcell' j d hdk;have hbw:Below N w wr:=BW.out.mono hN;have ca0:wr.cell? ⟨b,off+j*4,none⟩=some (.int .i64 a.op):=(by rw [hbw.cell hbs];exact q0);have ca1:wr.cell? ⟨b,off+j*4+1,none⟩=some (.int .i64 a.n):=(by rw [hbw.cell hbs];exact q1);have ca2:wr.cell? ⟨b,off+j*4+2,none⟩=some (.string a.nm):=(by rw [hbw.cell hbs];exact q2);have ca3:wr.cell? ⟨b,off+j*4+3,none⟩=some (.slice (pl j) a.args.length (cl j)):=(by rw [hbw.cell hbs];exact q3);have cb0:wr.cell? ⟨b',off'+j*4,none⟩=some (.int .i64 d.op):=(by rw [hbw.cell hbs'];exact r0);have cb1:wr.cell? ⟨b',off'+j*4+1,none⟩=some (.int .i64 d.n):=(by rw [hbw.cell hbs'];exact r1);have cb2:wr.cell? ⟨b',off'+j*4+2,none⟩=some (.string d.nm):=(by rw [hbw.cell hbs'];exact r2);have cb3:wr.cell? ⟨b',off'+j*4+3,none⟩=some (.slice (pl' j) d.args.length (cl' j)):=(by rw [hbw.cell hbs'];exact r3);have hxa:=HA.out.hx j a hak;have hxb:=HB.out.hx j d hdk;have HCA:∀ W,Below wr.heap.size wr W→Calls Tryz.prog 99 #[xv a.op a.n a.nm (.slice (pl j) a.args.length (cl j)),xv d.op d.n d.nm (.slice (pl' j) d.args.length (cl' j))] W (tBool (eqB a d) W):=(fun W hb=>HIH.out a (List.mem_of_getElem? hak) d (List.mem_of_getElem? hdk) W _ _ (BW.out.then_ hb) ((hxa.under hbw).under (hb.mono (by have:=BW.out.size;omega))) ((hxb.under hbw).under (hb.mono (by have:=BW.out.size;omega))));have HAK:=Lh hak;have HDK:=Lh hdk;obtain⟨v,hv⟩:∃ v,eqB a d=v:=⟨_,rfl⟩;have HV:=Lh hv;rw [hv] at HCA;obtain⟨ao,hao⟩:∃ x,a.op=x:=⟨_,rfl⟩;obtain⟨an,han⟩:∃ x,a.n=x:=⟨_,rfl⟩;obtain⟨am,ham⟩:∃ x,a.nm=x:=⟨_,rfl⟩;obtain⟨ak,hka⟩:∃ x,a.args.length=x:=⟨_,rfl⟩;obtain⟨ap,hap⟩:∃ x,pl j=x:=⟨_,rfl⟩;obtain⟨ac,hac⟩:∃ x,cl j=x:=⟨_,rfl⟩;obtain⟨bo,hbo⟩:∃ x,d.op=x:=⟨_,rfl⟩;obtain⟨bn,hbn⟩:∃ x,d.n=x:=⟨_,rfl⟩;obtain⟨bm,hbm⟩:∃ x,d.nm=x:=⟨_,rfl⟩;obtain⟨bk,hbk⟩:∃ x,d.args.length=x:=⟨_,rfl⟩;obtain⟨bp,hbp⟩:∃ x,pl' j=x:=⟨_,rfl⟩;obtain⟨bc,hbc⟩:∃ x,cl' j=x:=⟨_,rfl⟩;rw [hao] at ca0 HCA;rw [han] at ca1 HCA;rw [ham] at ca2 HCA;rw [hka,hap,hac] at ca3 HCA;rw [hbo] at cb0 HCA;rw [hbn] at cb1 HCA;rw [hbm] at cb2 HCA;rw [hbk,hbp,hbc] at cb3 HCA;have EC:=reB (v:=.bool v) HCA;have m1:=cell_regrown e3;have m2:=cell_regrown g3;have m3:=cell_regrown ca0;have m4:=cell_regrown ca1;have m5:=cell_regrown ca2;have m6:=cell_regrown ca3;have m7:=cell_regrown cb0;have m8:=cell_regrown cb1;have m9:=cell_regrown cb2;have m10:=cell_regrown cb3;clear hcell q0 q1 q2 q3 hcell' r0 r1 r2 r3 hbw hak hdk hao han ham hka hap hac hbo hbn hbm hbk hbp hbc hxa hxb hv HCA;go_wp2;refine wp_region_quiet_below (by kernel_rfl) (by kernel_rfl) ?_;repeat (first | go_big_quiet_step (exact EC _ _) | quiet_step (exact EC _ _))
     refine wpQuiet_nil ?_;intro w4 hw';obtain⟨pq,hw''⟩:=hw';have HX:Hid (Below wr.heap.size wr w4):=Lh (by rw [hw''];exact below_regrown _ _ _);clear hw'' m1 m2 m3 m4 m5 m6 m7 m8 m9 m10 EC e3 g3 ca0 ca1 ca2 ca3 cb0 cb1 cb2 cb3;cases v
     ·go_wp2;go_ret;exact tBool_mk (by rw [HL.out];exact (eqL_no HAK.out HDK.out HV.out).symm) (BW.out.then_ HX.out)
     ·go_wp2;go_roundw
      case rel=>exact⟨j+1,by omega,by go_num,Lh (fun i x y hi hx hy=>by
       rcases Nat.lt_or_ge i j with h | h
       ·exact AL.out i x y h hx hy
       ·obtain rfl:i=j:=(by omega);rw [HAK.out] at hx;rw [HDK.out] at hy;cases hx;cases hy;exact HV.out),Lh (BW.out.then_ HX.out),Lh (FA.out.stay HX.out),Lh (FB.out.stay HX.out)⟩
      case measure=>simp [intOf];omega
    ·have AL2:=Lh (eqL_yes (a:=ks) (b:=ks') (by rw [HK.out,HK'.out]) (fun i x y hi=>AL.out i x y (by rw [HK.out] at hi;omega)));go_wp2;go_ret;exact tBool_mk (by rw [HL.out];exact AL2.out.symm) BW.out
  ·have HL:Hid (false=eqB (.mk o n s ks) (.mk o' n' s' ks')):=Lh (by
    rw [EE.out];cases h1:(o == o')
    ·rfl
    ·cases h2:(n == n')
     ·rfl
     ·cases h3:(s.toList == s'.toList)
      ·rfl
      ·rw [eqL_len (by rw [HK.out,HK'.out];intro h4;exact hall ⟨h1,h2,h3,h4⟩)];rfl)
   have h5:(o == o')=false∨((o == o')=true∧(n == n')=false)∨((o == o')=true∧(n == n')=true∧(s.toList == s'.toList)=false)∨((o == o')=true∧(n == n')=true∧(s.toList == s'.toList)=true∧((K:Int) == (K':Int))=false):=by
    cases h1:(o == o')
    ·exact .inl rfl
    ·cases h2:(n == n')
     ·exact .inr (.inl ⟨rfl,rfl⟩)
     ·cases h3:(s.toList == s'.toList)
      ·exact .inr (.inr (.inl ⟨rfl,rfl,rfl⟩))
      ·exact .inr (.inr (.inr ⟨rfl,rfl,rfl,by rw [beq_eq_false_iff_ne];intro h4;exact hall ⟨h1,h2,h3,by omega⟩⟩))
   clear hall EE;rcases h5 with h1 | ⟨h1,h2⟩ | ⟨h1,h2,h3⟩ | ⟨h1,h2,h3,h4⟩
   all_goals
    have i1:=ne_of_beq h1;try have i2:=ne_of_beq h2
    try have i4:=ne_of_beq h4
    go_enter Tryz.func99,Tryz.ntmps99
    go_wp2;go_ret;exact tBool_mk HL.out HB1.out
end ExW
namespace ClW
open Go Go.RowKit NumM LexW LexM ClM
theorem plc_at {l:List Bk} {x:ByteArray} {k:Nat} {c:Bk} (h:l[k]? = some c) (hq:same c.nm x=true) (hn:plc (l.take k) x=none):plc l x=some k:=idx_at (q:=fun a:Bk=>same a.nm x) h hq hn
theorem plc_next {l:List Bk} {x:ByteArray} {k:Nat} {c:Bk} (h:l[k]? = some c) (hq:same c.nm x=false) (hn:plc (l.take k) x=none):plc (l.take (k+1)) x=none:=idx_next (q:=fun a:Bk=>same a.nm x) h hq hn
theorem fany_at {l:List Fld} {x:ByteArray} {k:Nat} {c:Fld} (h:l[k]? = some c) (hq:same c.nm x=true):l.any (fun f=>same f.nm x)=true:=any_at (q:=fun f:Fld=>same f.nm x) h hq
theorem fany_next {l:List Fld} {x:ByteArray} {k:Nat} {c:Fld} (h:l[k]? = some c) (hq:same c.nm x=false) (hn:(l.take k).any (fun f=>same f.nm x)=false):(l.take (k+1)).any (fun f=>same f.nm x)=false:=any_next (q:=fun f:Fld=>same f.nm x) h hq hn
theorem field_any (l:List Fld) (x:ByteArray) (p:Option Addr) (cap:Nat) (G:Nat→Nat→Value) (N:Nat) (w:World) (ha:RowA (Lo N) w .fields p cap G (l.map Fld.lf)) :
  Calls Tryz.prog 65 #[.slice p l.length cap,.string x] w fun e w'=>e=.returned (.bool (l.any (fun f=>same f.nm x)))∧w=w':=by
 have HA:=Lh ha;have hl:=ha.hl;rw [List.length_map] at hl;simp only [byt] at hl;obtain⟨K,hK⟩:∃ K,l.length=K:=⟨_,rfl⟩;have HK:=Lh hK;rw [hK] at hl ⊢;have hk:K≤140737488351232:=(by omega);clear hK ha hl
 go_enter Tryz.func65,Tryz.ntmps65
 go_wp2;go_loop [5] (fun i=>∃ j:Nat,j≤K∧i=.int .i64 j∧Hid ((l.take j).any (fun f=>same f.nm x)=false)) (fun i=>K - (intOf i).toNat)
 case atStart=>exact⟨0,Nat.zero_le _,rfl,Lh rfl⟩
 case round =>
  obtain⟨j,hj,rfl,FN⟩:=hrel;by_cases hlt:j<K
  ·obtain⟨c,hc⟩:∃ c,l[j]? = some c:=⟨_,List.getElem?_eq_getElem (by rw [HK.out];exact hlt)⟩;have hrow:=HA.out.fd hc;obtain⟨b,off,rfl,hb,c0,_⟩:=hrow;have HC:=Lh hc;clear hc;cases hs:same c.nm x
   ·have e1:=same_walk hs;have FN2:=Lh (fany_next HC.out hs FN.out);clear hs;go_wp2;go_round
    case rel=>exact⟨j+1,by omega,by go_num,FN2⟩
    case measure=>simp [intOf];omega
   ·have e1:=same_walk hs;have FS:Hid (l.any (fun f=>same f.nm x)=true):=Lh (fany_at HC.out hs);clear hs;go_wp2;go_ret;rw [FS.out];exact⟨rfl,rfl⟩
  ·have FN2:Hid (l.any (fun f=>same f.nm x)=false):=Lh (by have:=FN.out;rw [List.take_of_length_le (by rw [HK.out];omega)] at this;exact this);go_wp2;go_ret;rw [FN2.out];exact⟨rfl,rfl⟩
theorem block_any (l:List Bk) (x:ByteArray) (p:Option Addr) (cap:Nat) (G:Nat→Nat→Value) (N:Nat) (w:World) (ha:RowA (Lo N) w .blocks p cap G (l.map Bk.lf)) :
  Calls Tryz.prog 66 #[.slice p l.length cap,.string x] w fun e w'=>e=.returned (.int .i64 (idxI (plc l x)))∧w=w':=by
 have HA:=Lh ha;have hl:=ha.hl;rw [List.length_map] at hl;simp only [byt] at hl;obtain⟨K,hK⟩:∃ K,l.length=K:=⟨_,rfl⟩;have HK:=Lh hK;rw [hK] at hl ⊢;have hk:K≤140737488351232:=(by omega);clear hK ha hl
 go_enter Tryz.func66,Tryz.ntmps66
 go_wp2;go_loop [5] (fun i=>∃ j:Nat,j≤K∧i=.int .i64 j∧Hid (plc (l.take j) x=none)) (fun i=>K - (intOf i).toNat)
 case atStart=>exact⟨0,Nat.zero_le _,rfl,Lh rfl⟩
 case round =>
  obtain⟨j,hj,rfl,FN⟩:=hrel;by_cases hlt:j<K
  ·obtain⟨c,hc⟩:∃ c,l[j]? = some c:=⟨_,List.getElem?_eq_getElem (by rw [HK.out];exact hlt)⟩;have hrow:=HA.out.bk hc;obtain⟨b,off,pi,ci,rfl,hb,c0,_⟩:=hrow;have HC:=Lh hc;clear hc;cases hs:same c.nm x
   ·have e1:=same_walk hs;have FN2:=Lh (plc_next HC.out hs FN.out);clear hs;go_wp2;go_round
    case rel=>exact⟨j+1,by omega,by go_num,FN2⟩
    case measure=>simp [intOf];omega
   ·have e1:=same_walk hs;have FS:Hid (plc l x=some j):=Lh (plc_at HC.out hs FN.out);clear hs;go_wp2;go_ret;rw [FS.out];exact⟨rfl,rfl⟩
  ·have FN2:Hid (plc l x=none):=Lh (by have:=FN.out;rw [List.take_of_length_le (by rw [HK.out];omega)] at this;exact this);go_wp2;go_ret;rw [FN2.out];exact⟨rfl,rfl⟩
end ClW
namespace ClW
open Go Go.RowKit NumM LexW LexM ClM
open Go.«Sort»
theorem isNmR_any (s:ByteArray) (w:World) (hs:s.size≤140737488351232):Calls Tryz.prog 63 #[.string s] w (tBool (!bad s) w):=by
 have:=nameR_any s w hs;unfold bad;rw [Bool.not_not];exact this
end ClW
end Go.Proofs.YtihnejaopejbgaaGreatDoor
