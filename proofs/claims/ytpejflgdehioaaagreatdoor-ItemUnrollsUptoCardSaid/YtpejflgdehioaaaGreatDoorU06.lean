/-
  Laws that the card uses; no conditions beside those that each states (ExIter ExShape ExRefA).
-/
import Derived.RangeFuncBound
import Derived.Laws.EntriesVeiled
import Derived.RangeFuncLeaves
import Derived.Shelf.Abstract
import Derived.OwnWalkIn
import Derived.TacticsInMore
import Derived.LoopNIn
import Derived.LoopIn
import Derived.Test.YtpejflgdehioaaaGreatDoorU02
set_option maxRecDepth 100000
set_option maxHeartbeats 16000000
namespace Go.Proofs.YtpejflgdehioaaaGreatDoor
namespace ExW
open Go Go.RowKit Go.Shelf LexW LexM ExM
attribute [local go_sem] Oper.semAt_some
theorem roomNone {F:Fence} (hd:F.depth=none) (k:Nat):F.room k:=fun d h=>by rw [hd] at h;cases h
theorem roundFree {F:Fence} (hd:F.depth=none) {m m':Nat} {P:Program} {l:Nat} {f:FuncId} {tmps:Array Value} {assign body:Code} {w:World} {R:Ending→World→Prop}
  (h:RoundIn F m P l f tmps assign body w R):RoundIn F m' P l f tmps assign body w R:=⟨h.1,fun c cs _=>h.2 c cs (roomNone hd _)⟩
theorem yieldFree {F:Fence} (hd:F.depth=none) {m:Nat} (m':Nat) {P:Program} {l:Nat} {args:Array Value} {W:World} {R:Ending→World→Prop} (h:YieldAt F m P l args W R):YieldAt F m' P l args W R:=by
 obtain⟨fn,tmps,assign,body,hy,hR⟩:=h;exact⟨fn,tmps,assign,body,hy,roundFree hd hR⟩
def Came (J Jx:List Nd→World→Prop) (n₀ n₁:Nat) (L:List In) (bef:List Nd) (W:World) (e:Ending) (W':World):Prop :=
 (e=.returned (.bool true)∧(∃ ys:List Nd,ys.map Nd.info=L∧J (bef++ys) W')∧Keep n₀ n₁ W W') ∨
 (e=.returned (.bool false)∧∃ q:List Nd,q.map Nd.info <+: L∧Jx (bef++q) W')
theorem walk_nodes_in (F:Fence) (hd:F.depth=none) (h60:F.fn 141) (hro:F.round=none) (l n₀ n₁ NN yb wb:Nat) (J Jx:List Nd→World→Prop) (hn:n₀≤n₁)
  (hJ:∀ s A B,J s A→A.grownBy B none→J s B) (hyb:n₁≤yb) (hwb:n₁≤wb)
  (hY:∀ m bef (x:Nd) W,J bef W→bef.length<NN→YieldAt F m Tryz.prog l x.enc W fun e W' =>
   (e=.returned (.bool true)∧J (bef++[x]) W'∧Keep n₀ n₁ W W')∨(e=.returned (.bool false)∧Jx (bef++[x]) W')) (e:Ex) :
  ∀ (n lv:Nat) (v:Value) (bef:List Nd) (W:World),ExAt n₀ W v e→J bef W→n₁≤W.heap.size→bef.length+sz e≤NN→lv+sz e≤100000 →
   Boxed W yb 168 (.func (.yield l) #[] #[])→Boxed W wb 168 (.func (.func 141) #[] #[.pointer (some ⟨yb,0,none⟩),.pointer (some ⟨wb,0,none⟩)]) →
   CallsIn F n Tryz.prog 141 #[.int .i64 lv,v,.pointer (some ⟨yb,0,none⟩),.pointer (some ⟨wb,0,none⟩)] W (Came J Jx n₀ n₁ (pre lv e) bef W):=by
 have hdd:∀ k:Nat,(F.depth.isSome=true→1≤k):=(fun k h=>by rw [hd] at h;cases h);induction e using Ex.ind with
 | h o num s ks ih =>
  intro n lv v bef W hx hJ0 hsz hNN hlv cy cw;obtain⟨p,cap,pl,cl,rfl,hs,ha⟩:=hx.form;simp only [Ex.op,Ex.n,Ex.nm,Ex.args] at hs ha ⊢;have hks:ks.length≤140737488351232:=ha.hl;rw [sz_mk] at hNN hlv;rw [pre_mk];obtain⟨K,hK⟩:∃ K,ks.length=K:=⟨_,rfl⟩;have HK:=Lh hK;rw [hK] at hks ⊢;clear hK;obtain⟨x,hxd⟩:∃ x:Nd,x=⟨lv,o,num,s,p,K,cap,by omega,hs,hks⟩:=⟨_,rfl⟩;have hxe:x.enc=#[.int .i64 lv,xv o num s (.slice p K cap)]:=(by rw [hxd]);have hxi:x.info=⟨lv,o,num,s,K⟩:=(by rw [hxd];rfl);have four:=Four.new W (.int .i64 o) (.int .i64 num) (.string s) (.slice p K cap) 43;have hb1:Below W.heap.size W (W.alloc (.cells #[.int .i64 o,.int .i64 num,.string s,.slice p K cap] 43)):=(Below.refl _ _).alloc (Nat.le_refl _) _;have hy1:=hY (n - 1) bef x _ (hJ _ _ _ hJ0 (grown_of_below hb1)) (by omega);rw [hxe] at hy1;obtain⟨fn,tmps,assign,body,hy,hR⟩:=hy1;have by1:=cy.alloc (.cells #[.int .i64 o,.int .i64 num,.string s,.slice p K cap] 43);have bw1:=cw.alloc (.cells #[.int .i64 o,.int .i64 num,.string s,.slice p K cap] 43);have be1:(W.alloc (.cells #[.int .i64 o,.int .i64 num,.string s,.slice p K cap] 43)).heap[W.heap.size]? = some (.cells #[.int .i64 o,.int .i64 num,.string s,.slice p K cap] 43):=heap_alloc_new _ _;have HBE:=Lh be1;have HBY:=Lh by1;have HBW:=Lh bw1;have cy1:=by1.cell;have cw1:=bw1.cell;have HY:=Lh hY;have HIH:=Lh ih;have HXI:=Lh hxi;have HJ:=Lh hJ;have HA:=Lh ha;clear hY ih hxi hJ ha hxd hxe hJ0 be1 by1 bw1;have four0:=four.c0;have four1:=four.c1;have four2:=four.c2;have four3:=four.c3;refine callsIn_of_wp Tryz.func141 rfl h60 ?_ hro;simp only [Tryz.ntmps141,List.size_toArray,List.length_cons,List.length_nil,Nat.reduceAdd,Nat.reduceSub,Array.replicate_succ,Array.replicate_zero,List.push_toArray,List.append_toArray,List.nil_append,List.cons_append]
  gi_wp2
  refine hR.mono ?_;rintro e W2 (⟨rfl,hJ2,hk2⟩ | ⟨rfl,hJx2⟩)
  ·have c3:W2.cell? ⟨W.heap.size,3,none⟩=some (.slice p K cap):=by
    have:=hk2.blk _ _ _ _ HBE.out (.inr ⟨hsz,.inl rfl⟩);simp [World.cell?,this]
   have HCY:=Lh cy;have HCW:=Lh cw;have HKW:Hid (Keep n₀ n₁ W W2):=Lh ((Keep.of_below hb1).trans hk2);have HJ2:=Lh hJ2;clear four four0 four1 four2 four3 cw1 cy1 cw cy hJ2 hk2 hb1
   gi_wp2
   gi_loopw [17] (fun i wr=>∃ (k:Nat) (ys:List Nd),k≤K∧i=.int .i64 k∧Hid (ys.map Nd.info=pres (lv+1) (ks.take k))∧Hid (J (bef++[x]++ys) wr)∧Hid (Keep n₀ n₁ W wr)) (fun i _=>K - (intOf i).toNat)
   case atStart=>exact⟨0,[],Nat.zero_le _,rfl,Lh (by rw [List.take_zero,pres_nil];rfl),Lh (by rw [List.append_nil];exact HJ2.out),HKW⟩
   case round =>
    obtain⟨k,ys,hk,rfl,YS,JW,KW⟩:=hrel;clear c3;by_cases hlt:k<K
    ·obtain⟨b,off,rfl,hbs,hcell⟩:=HA.out.hp (by rw [HK.out];omega);obtain⟨a,hak⟩:∃ a,ks[k]? = some a:=⟨_,List.getElem?_eq_getElem (by rw [HK.out];exact hlt)⟩;obtain⟨q0,q1,q2,q3⟩:=hcell k a hak;have ca0:=KW.out.tree hbs q0;have ca1:=KW.out.tree hbs q1;have ca2:=KW.out.tree hbs q2;have ca3:=KW.out.tree hbs q3;have b1:Boxed wr yb 168 (.func (.yield l) #[] #[]):=KW.out.blk _ _ _ _ HCY.out (.inr ⟨hyb,.inr rfl⟩);have b2:Boxed wr wb 168 (.func (.func 141) #[] #[.pointer (some ⟨yb,0,none⟩),.pointer (some ⟨wb,0,none⟩)]):=KW.out.blk _ _ _ _ HCW.out (.inr ⟨hwb,.inr rfl⟩);have c1:=b1.cell;have c2:=b2.cell;have hwl:=cell_lt c2;have hyl':=cell_lt c1;have HB1:=Lh hbs;have hblt:=cell_lt ca0;obtain⟨pa,hpa⟩:∃ pa,pl k=pa:=⟨_,rfl⟩;obtain⟨ka,hka⟩:∃ ka,a.args.length=ka:=⟨_,rfl⟩;obtain⟨ca,hca⟩:∃ ca,cl k=ca:=⟨_,rfl⟩;have hxa:=(HA.out.hx k a hak).keep KW.out;rw [hpa,hka,hca] at ca3 hxa;have HC:Hid (∀ Wx,Below wr.heap.size wr Wx→CallsIn F (n - 1) Tryz.prog 141 #[.int .i64 ((lv:Int)+1),xv a.op a.n a.nm (.slice pa ka ca),.pointer (some ⟨yb,0,none⟩),.pointer (some ⟨wb,0,none⟩)] Wx (Came J Jx n₀ n₁ (pre (lv+1) a) (bef++[x]++ys) Wx)):=Lh fun Wx hbx=>by
      have hsa:=szs_take hak;have hsb:=szs_take_le (k+1) ks;have hyl:ys.length=szs (ks.take k):=by rw [←pres_len (l:=lv+1) (fun a _=>pre_len a _),←YS.out,List.length_map]
      have q:=HIH.out a (List.mem_of_getElem? hak) (n - 1) (lv+1) _ _ Wx (hxa.under (hbx.mono (by omega))) (HJ.out _ _ _ JW.out (grown_of_below hbx)) (by have:=hbx.size;have:=KW.out.size;omega) (by simp;omega) (by omega)
       ((hbx.block yb hyl').trans b1) ((hbx.block wb hwl).trans b2)
      have e1:((lv+1:Nat):Int)=(lv:Int)+1:=(by omega);rw [e1] at q;exact q
     clear hcell q0 q1 q2 q3 hpa hka hca hxa b1 b2;have hb2:Below wr.heap.size wr (wr.alloc (.cells #[.int .i64 a.op,.int .i64 a.n,.string a.nm,.slice pa ka ca] 43)):=(Below.refl _ _).alloc (Nat.le_refl _) _;have HB2:=Lh hb2;have HTK:=Lh (pres_take (l:=lv+1) hak);have HPR:Hid (pres (lv+1) (ks.take (k+1)) <+: pres (lv+1) ks):=Lh (by
      have:=pres_append (lv+1) (ks.take (k+1)) (ks.drop (k+1));rw [List.take_append_drop] at this;exact⟨_,this.symm⟩)
     clear hb2 hak
     gi_wp2_with ((try refine⟨hdd _,?_⟩);gi_at_call 141;refine (HC.out _ HB2.out).mono ?_;clear HC;rintro e W5 (⟨rfl,hys,hk5⟩ | ⟨rfl,hq⟩))
     ·have H5:=Lh hys;have KW5:Hid (Keep n₀ n₁ W W5):=Lh ((KW.out.trans (Keep.of_below HB2.out)).trans hk5);clear hys hk5;go_roundw
      case rel =>
       obtain⟨zs,hz,hj⟩:=H5.out;exact⟨k+1,ys++zs,by omega,by go_num,Lh (by rw [HTK.out,List.map_append,YS.out,hz]),Lh (by rw [←List.append_assoc];exact hj),KW5⟩
      case measure=>simp [intOf];omega
     ·have H5:=Lh hq;clear hq;go_ret;obtain⟨q,hq1,hq2⟩:=H5.out;refine .inr ⟨rfl,x::(ys++q),?_,by simpa [List.append_assoc] using hq2⟩;rw [List.map_cons,HXI.out,List.map_append,YS.out];refine (List.prefix_cons_inj _ |>.2 (List.IsPrefix.trans ?_ HPR.out));rw [HTK.out];exact (List.prefix_append_right_inj _).2 hq1
    ·have hkK:k=K:=(by omega);have YS2:Hid (ys.map Nd.info=pres (lv+1) ks):=Lh (by rw [YS.out,hkK,←HK.out,List.take_length]);clear hkK
     gi_wp2
     go_ret;exact .inl ⟨rfl,⟨x::ys,by rw [List.map_cons,HXI.out,YS2.out],by simpa [List.append_assoc] using JW.out⟩,KW.out⟩
  ·gi_wp2
   go_ret;exact .inr ⟨rfl,[x],by rw [List.map_cons,HXI.out];exact⟨_,rfl⟩,hJx2⟩
theorem iter_in (F:Fence) (hd:F.depth=none) (n:Nat) (h59:F.fn 140) (h60:F.fn 141) (hro:F.round=none) (l n₀ n₁ eb:Nat) (hn:n₀≤n₁) (e:Ex) (hsz:sz e≤10000)
  (o num:Int) (s:ByteArray) (a3:Value) (J Jx:List Nd→World→Prop) (hJ:∀ s A B,J s A→A.grownBy B none→J s B)
  (hY:∀ bef (x:Nd) W,J bef W→bef.length<sz e→YieldAt F (n - 1) Tryz.prog l x.enc W fun e W' =>
   (e=.returned (.bool true)∧J (bef++[x]) W'∧Keep n₀ n₁ W W')∨(e=.returned (.bool false)∧Jx (bef++[x]) W'))
  (W:World) (h1:n₁≤W.heap.size) (hb:Four W eb (.int .i64 o) (.int .i64 num) (.string s) a3) (hx:ExAt n₀ W (xv o num s a3) e) (h0:J [] W) :
  CallsIn F n Tryz.prog 140 #[.func (.yield l) #[] #[],.pointer (some ⟨eb,0,none⟩)] W fun x W'=>(∃ v,x=.returned v) ∧
   ((∃ ys:List Nd,ys.map Nd.info=pre 1 e∧J ys W')∨(∃ q:List Nd,q.map Nd.info <+: pre 1 e∧Jx q W')):=by
 have hdd:∀ k:Nat,(F.depth.isSome=true→1≤k):=(fun k h=>by rw [hd] at h;cases h);have HW:Hid (∀ W2,Below W.heap.size W W2→Boxed W2 W.heap.size 168 (.func (.yield l) #[] #[])→Boxed W2 (W.heap.size+1) 168 (.func (.func 141) #[] #[.pointer (some ⟨W.heap.size,0,none⟩),.pointer (some ⟨W.heap.size+1,0,none⟩)]) →
   CallsIn F (n - 1) Tryz.prog 141 #[.int .i64 1,xv o num s a3,.pointer (some ⟨W.heap.size,0,none⟩),.pointer (some ⟨W.heap.size+1,0,none⟩)] W2 (Came J Jx n₀ n₁ (pre 1 e) [] W2)):=Lh fun W2 hb2 c1 c2 =>
  walk_nodes_in F hd h60 hro l n₀ n₁ (sz e) W.heap.size (W.heap.size+1) J Jx hn hJ (by omega) (by omega) (fun m bef x W hj hl=>yieldFree hd m (hY bef x W hj hl)) e (n - 1) 1 _ [] W2 (hx.under (hb2.mono (by omega))) (hJ _ _ _ h0 (grown_of_below hb2)) (by have:=hb2.size;omega) (by simp) (by omega) c1 c2
 have a0:=hb.alloc (.cells #[.func (.yield l) #[] #[]] 168);have a1:=a0.alloc (.cells #[.func (.func 141) #[] #[.pointer (some ⟨W.heap.size,0,none⟩),.pointer (some ⟨W.heap.size+1,0,none⟩)]] 168);have d0:=a1.c0;have d1:=a1.c1;have d2:=a1.c2;have d3:=a1.c3;clear a0 a1 hb hY hJ hx h0;refine callsIn_of_wp Tryz.func140 rfl h59 ?_ hro;simp only [Tryz.ntmps140,List.size_toArray,List.length_cons,List.length_nil,Nat.reduceAdd,Nat.reduceSub,Array.replicate_succ,Array.replicate_zero,List.push_toArray,List.append_toArray,List.nil_append,List.cons_append];have BX1:=Lh ((Boxed.new W 168 (.func (.yield l) #[] #[])).alloc (.cells #[.func (.func 141) #[] #[.pointer (some ⟨W.heap.size,0,none⟩),.pointer (some ⟨W.heap.size+1,0,none⟩)]] 168));have bx2:=Boxed.new (W.alloc (.cells #[.func (.yield l) #[] #[]] 168)) 168 (.func (.func 141) #[] #[.pointer (some ⟨W.heap.size,0,none⟩),.pointer (some ⟨W.heap.size+1,0,none⟩)]);rw [World.size_alloc] at bx2;have BX2:=Lh bx2;clear bx2;have HB1:Hid (Below W.heap.size W ((W.alloc (.cells #[.func (.yield l) #[] #[]] 168)).alloc (.cells #[.func (.func 141) #[] #[.pointer (some ⟨W.heap.size,0,none⟩),.pointer (some ⟨W.heap.size+1,0,none⟩)]] 168))):=Lh (((Below.refl _ _).alloc (Nat.le_refl _) _).alloc (by simp) _)
 gi_wp2_with ((try refine⟨hdd _,?_⟩);gi_at_call 141;refine (HW.out _ HB1.out BX1.out BX2.out).mono ?_;clear HW;rintro e W5 (⟨rfl,hys,_⟩ | ⟨rfl,hq⟩))
 ·have H5:=Lh hys;clear hys
  go_end0
  obtain⟨ys,h1,h2⟩:=H5.out;exact⟨⟨_,rfl⟩,.inl ⟨ys,h1,by simpa using h2⟩⟩
 ·have H5:=Lh hq;clear hq
  go_end0
  obtain⟨q,h1,h2⟩:=H5.out;exact⟨⟨_,rfl⟩,.inr ⟨q,h1,by simpa using h2⟩⟩
theorem nodes_in (F:Fence) (n:Nat) (h40:F.fn 94) (hro:F.round=none) (o num:Int) (s:ByteArray) (a3:Value) (w:World) :
  CallsIn F n Tryz.prog 94 #[xv o num s a3] w fun e w'=>e=.returned (.func (.func 140) #[] #[.pointer (some ⟨w.heap.size,0,none⟩)])∧w'=w.alloc (.cells #[.int .i64 o,.int .i64 num,.string s,a3] 43):=by
 refine callsIn_of_wp Tryz.func94 rfl h40 ?_ hro;simp only [Tryz.ntmps94,List.size_toArray,List.length_cons,List.length_nil,Nat.reduceAdd,Nat.reduceSub,Array.replicate_succ,Array.replicate_zero,List.push_toArray,List.append_toArray,List.nil_append,List.cons_append]
 gi_wp2
 go_ret;exact⟨rfl,rfl⟩
theorem nodes_stops (F:Fence) (hd:F.depth=none) (n:Nat) (h59:F.fn 140) (h60:F.fn 141) (hro:F.round=none) (n₀ n₁ eb:Nat) (hn:n₀≤n₁) (e:Ex) (hsz:sz e≤10000)
  (o num:Int) (s:ByteArray) (a3:Value) (w:World) (h1:n₁≤w.heap.size) (hb:Four w eb (.int .i64 o) (.int .i64 num) (.string s) a3) (hx:ExAt n₀ w (xv o num s a3) e) :
  SeqStopsK F n Tryz.prog 140 #[.pointer (some ⟨eb,0,none⟩)] (fun x:Nd=>#[Value.int .i64 x.lv,xv x.op x.n x.nm (.slice x.p x.k x.cap)]) (Keep n₀ n₁) (fun ys=>ys.map Nd.info=pre 1 e) (fun q=>q.map Nd.info <+: pre 1 e) (sz e) w:=fun l J Jx W hW hJ _ hY h0 =>
 iter_in F hd n h59 h60 hro l n₀ n₁ eb hn e hsz o num s a3 J Jx (fun s A B hs hg=>hJ s A B none hs hg (fun r e=>by cases e)) hY W (Nat.le_trans h1 hW.size) (hb.stay hW) (hx.under (hW.mono (by omega))) h0
end ExW
namespace ExW
open Go Go.RowKit Go.Shelf LexW LexM ExM
attribute [local go_sem] Oper.semAt_some
theorem keep_t {n₀ n₁:Nat} {A B C:World} (h:Keep n₀ n₁ A B) (k:Keep n₀ n₁ B C):Keep n₀ n₁ A C:=h.trans k
theorem keep_b {n₀ n₁:Nat} {w:World} (W:World) (l:Nat) (o o':Obj) (_:w.heap.size≤l) (h:W.heap[l]? = some o) (hc:o.isCells=false) (_:o.isWalk=false):Keep n₀ n₁ W (W.putObj l o'):=Keep.putObj W l o o' h hc
theorem zip2 (a b:Nat) (u v:Value) (t:Array Value):Array.foldl (fun t (x:Tmp × Value)=>t.setIfInBounds x.1 x.2) t ((#[a,b]:Array Tmp).zip #[u,v])=(t.setIfInBounds a u).setIfInBounds b v:=by
 simp [Array.zip,Array.zipWith,Array.zipWithMAux]
end ExW
namespace ExW
open Go Go.RowKit NumM LexW LexM ExM
theorem named_any (o:Int) (w:World):Calls Tryz.prog 157 #[.int .i64 o] w fun e w'=>e=.returned (.bool (isVr o||isAr o))∧w=w':=by
 by_cases h2:o=2
 ·subst h2
  go_enter Tryz.func157,Tryz.ntmps157
  go_wp2;go_ret;exact⟨rfl,rfl⟩
 ·by_cases h3:o=3
  ·subst h3
   go_enter Tryz.func157,Tryz.ntmps157
   go_wp2;go_ret;exact⟨rfl,rfl⟩
  ·have e2:(o == 2)=false:=(by rw [beq_eq_false_iff_ne];exact h2);have e3:(o == 3)=false:=(by rw [beq_eq_false_iff_ne];exact h3);have EE:Hid ((isVr o||isAr o)=(o == 24)):=Lh (by unfold isVr isAr;rw [decide_eq_false h2,decide_eq_false h3,Bool.eq_iff_iff];simp);clear h2 h3
   go_enter Tryz.func157,Tryz.ntmps157
   go_wp2;go_ret;exact⟨retb (by rw [EE.out]),rfl⟩
def StrsA (w:World) (v:Value) (l:List ByteArray):Prop :=
 ∃ p cap,v=.slice p l.length cap∧l.length≤cap∧(0<l.length→∃ b off,p=some ⟨b,off,none⟩∧∀ i s,l[i]? = some s→w.cell? ⟨b,off+i,none⟩=some (.string s))
open Classical in
noncomputable def inL (s:ByteArray) (l:List ByteArray):Bool:=decide (s∈l)
open Classical in
theorem inL_yes {s:ByteArray} {l:List ByteArray} {i:Nat} {t:ByteArray} (h:l[i]? = some t) (e:t.data.toList=s.data.toList):inL s l=true:=by
 unfold inL;obtain rfl:=bs_inj e;exact decide_eq_true (List.mem_of_getElem? h)
open Classical in
theorem inL_no {s:ByteArray} {l:List ByteArray} (h:∀ (i:Nat) t,i<l.length→l[i]? = some t→t.data.toList≠s.data.toList):inL s l=false:=by
 unfold inL;refine (decide_eq_false fun hm=>?_);obtain⟨i,hi,e⟩:=List.mem_iff_getElem.1 hm;exact h i s hi (by rw [List.getElem?_eq_getElem hi,e]) rfl
theorem has_any (l:List ByteArray) (v:Value) (s:ByteArray) (w:World) (h:StrsA w v l) (hl:l.length≤100000) :
  Calls Tryz.prog 156 #[v,.string s] w fun e w'=>e=.returned (.bool (inL s l))∧w=w':=by
 obtain⟨p,cap,rfl,hcap,hx⟩:=h;have HX:=Lh hx;clear hx hcap;obtain⟨n,hnn⟩:∃ n,l.length=n:=⟨_,rfl⟩;have HN:=Lh hnn;rw [hnn] at hl ⊢;clear hnn
 go_enter Tryz.func156,Tryz.ntmps156
 go_wp2;go_loop [5] (fun i=>∃ k:Nat,k≤n∧i=.int .i64 k∧Hid (∀ (j:Nat) t,j<k→l[j]? = some t→t.data.toList≠s.data.toList)) (fun i=>n - (intOf i).toNat)
 case atStart=>exact⟨0,Nat.zero_le _,rfl,Lh fun j _ h=>by omega⟩
 case round =>
  obtain⟨k,hk,rfl,NO⟩:=hrel;by_cases hlt:k<n
  ·obtain⟨b,off,rfl,hcell⟩:=HX.out (by rw [HN.out];omega);obtain⟨y,hyk⟩:∃ y,l[k]? = some y:=⟨_,List.getElem?_eq_getElem (by rw [HN.out];exact hlt)⟩;have ca0:=hcell k y hyk;have HY:=Lh hyk;clear hcell hyk;by_cases e:y.data.toList=s.data.toList
   ·have e1:(y.toList == s.toList)=true:=(by rw [Lib.toList_data,Lib.toList_data,e];simp);have EE:=Lh (inL_yes HY.out e);clear e;go_wp2;go_ret;exact⟨retb EE.out.symm,rfl⟩
   ·have e1:(y.toList == s.toList)=false:=(by rw [Lib.toList_data,Lib.toList_data];simpa using e);have NO2:Hid (∀ (j:Nat) t,j<k+1→l[j]? = some t→t.data.toList≠s.data.toList):=Lh fun j t hj ht=>by
     rcases Nat.lt_or_ge j k with h | h
     ·exact NO.out j t h ht
     ·obtain rfl:j=k:=(by omega);rw [HY.out] at ht;cases ht;exact e
    clear e;go_wp2;go_round
    case rel=>exact⟨k+1,by omega,by go_num,NO2⟩
    case measure=>simp [intOf];omega
  ·have EE:=Lh (inL_no (s:=s) (l:=l) (fun i t hi ht=>NO.out i t (by rw [HN.out] at hi;omega) ht));go_wp2;go_ret;exact⟨retb EE.out.symm,rfl⟩
end ExW
end Go.Proofs.YtpejflgdehioaaaGreatDoor
