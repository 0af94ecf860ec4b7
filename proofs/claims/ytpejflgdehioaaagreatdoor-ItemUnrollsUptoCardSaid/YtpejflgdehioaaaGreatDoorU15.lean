/-
  Laws that the card uses; no conditions beside those that each states (ItCntM ItNodes ItSpl ItScM ItLChk ItRWt ItScW ItScN ItKeepM ItHoM ItRExM).
-/
import Derived.Deep.AppendLies
import Derived.Deep.RegionLaw
import Derived.LoopN
import Derived.Lib.AppendZerosOnto
import Derived.Laws.OwnMore
import Derived.Deep.DrawnRows
import Derived.Test.YtpejflgdehioaaaGreatDoorU12
import Derived.Test.YtpejflgdehioaaaGreatDoorU14
set_option maxRecDepth 100000
set_option maxHeartbeats 16000000
namespace Go.Proofs.YtpejflgdehioaaaGreatDoor
namespace ItM
open Go WordM LexM ExM
def okB (x:It):Bool:=decide (sz x.e≤60)&&(decide (x.ws.length≤20)&&(decide (x.bf.length≤20)&&(decide (x.af.length≤20)&&(decide (x.nm.size≤40)&&decide (x.ix.size≤40)))))
mutual
/-- What a constraint's own lists add. -/
def lcI:It→Int→Int
 | .mk _ _ _ _ _ it el _ _,m=>lcL it m it.length+lcL el m el.length
/-- What count returns,k being counted. -/
def lcL:List It→Int→Int→Int
 | [],_,k=>k
 | a::r,n,k=>if k≤n then (if okB a=true then lcL r n (k+lcI a (n - k)) else n+1) else k
end
theorem lcI_eq (x:It) (m:Int):lcI x m=lcL x.it m x.it.length+lcL x.el m x.el.length:=by cases x;rw [lcI];rfl
theorem lcL_nil (n k:Int):lcL [] n k=k:=by rw [lcL]
theorem lcL_cons (a:It) (r:List It) (n k:Int):lcL (a::r) n k=if k≤n then (if okB a=true then lcL r n (k+lcI a (n - k)) else n+1) else k:=by rw [lcL]
mutual
def FwI:It→Prop
 | .mk kd e nm ix ws it el bf af=>okB (.mk kd e nm ix ws it el bf af)=true∧FwL it∧FwL el
/-- All constraints,at any depth,are played. -/
def FwL:List It→Prop
 | []=>True
 | a::r=>FwI a∧FwL r
end
theorem fwI_eq (x:It):FwI x↔okB x=true∧FwL x.it∧FwL x.el:=by cases x;rw [FwI];rfl
theorem fwL_nil:FwL []:=by rw [FwL];trivial
theorem fwL_cons (a:It) (r:List It):FwL (a::r)↔FwI a∧FwL r:=by rw [FwL]
theorem okB_iff {x:It}:okB x=true↔sz x.e≤60∧x.ws.length≤20∧x.bf.length≤20∧x.af.length≤20∧x.nm.size≤40∧x.ix.size≤40:=by
 unfold okB;simp only [Bool.and_eq_true,decide_eq_true_eq]
theorem fw_rs (l:List It):FwL l→RsL l:=by
 induction l using its_rec with
 | h0=>intro _;exact rsL_nil
 | h1 x r h1 h2 h3 =>
  intro h;rw [fwL_cons,fwI_eq,okB_iff] at h;rw [rsL_cons,rsI_eq];refine⟨⟨⟨?_,?_,?_,?_⟩,h1 h.1.2.1,h2 h.1.2.2⟩,h3 h.2⟩<;>omega
theorem lc_ge (l:List It):∀ n k:Int,(0≤k→k≤lcL l n k)∧(n≤70→0≤k→lcL l n k≤k+73*(iszs l:Int) - (l.length:Int)):=by
 induction l using its_rec with
 | h0=>intro n k;rw [lcL_nil,iszs_nil,List.length_nil];omega
 | h1 x r h1 h2 h3 =>
  intro n k;rw [lcL_cons,iszs_cons,isz_eq,List.length_cons];have l0:=len_iszs r;have a1:=h1 (n - k) x.it.length;have a2:=h2 (n - k) x.el.length;have l1:=len_iszs x.it;have l2:=len_iszs x.el;split
  ·split
   ·have e:=lcI_eq x (n - k);have a3:=h3 n (k+lcI x (n - k));have b1:=a1.1 (by omega);have b2:=a2.1 (by omega);refine⟨fun hk=>?_,fun hn hk=>?_⟩
    ·have:=a3.1 (by omega);omega
    ·have c1:=a1.2 (by omega) (by omega);have c2:=a2.2 (by omega) (by omega);have:=a3.2 hn (by omega);omega
   ·omega
  ·omega
theorem lc_true (l:List It):∀ n k:Int,0≤k→lcL l n k≤n→FwL l∧lcL l n k=k+(iszs l:Int) - (l.length:Int):=by
 induction l using its_rec with
 | h0=>intro n k _ _;rw [lcL_nil,iszs_nil];exact⟨fwL_nil,by simp⟩
 | h1 x r h1 h2 h3 =>
  intro n k hk h;rw [lcL_cons] at h ⊢;rw [iszs_cons,isz_eq,fwL_cons,fwI_eq,List.length_cons];split at h
  ·rename_i hkn;rw [if_pos hkn];split at h
   ·rename_i hok;rw [if_pos hok];have e:=lcI_eq x (n - k);have a1:=(lc_ge x.it (n - k) x.it.length).1 (by omega);have a2:=(lc_ge x.el (n - k) x.el.length).1 (by omega);have a3:=(lc_ge r n (k+lcI x (n - k))).1 (by omega);obtain⟨f1,g1⟩:=h1 (n - k) x.it.length (by omega) (by omega);obtain⟨f2,g2⟩:=h2 (n - k) x.el.length (by omega) (by omega);obtain⟨f3,g3⟩:=h3 n (k+lcI x (n - k)) (by omega) h;refine⟨⟨⟨hok,f1,f2⟩,f3⟩,?_⟩;rw [g3];omega
   ·omega
  ·omega
def fewB (l:List It):Bool:=decide (lcL l 70 (l.length:Int)≤70)
theorem few_true {l:List It} (h:fewB l=true):FwL l∧iszs l≤70:=by
 obtain⟨h1,h2⟩:=lc_true l 70 l.length (by omega) (of_decide_eq_true h);have:=of_decide_eq_true h;exact⟨h1,by omega⟩
end ItM
namespace ItW
open Go Go.RowKit Go.Shelf LexW LexM ExM ExW ItM
attribute [local go_sem] Oper.semAt_some
abbrev enc1 (x:Nd):Array Value:=#[xv x.op x.n x.nm (.slice x.p x.k x.cap)]
def CameN (J Jx:List Nd→World→Prop) (n₀ n₁:Nat) (L:List In) (bef:List Nd) (W:World) (e:Ending) (W':World):Prop :=
 (e=.returned (.bool true)∧(∃ ys:List Nd,ys.map Nd.info=L∧J (bef++ys) W')∧KeepC n₀ n₁ W W') ∨
 (e=.returned (.bool false)∧∃ q:List Nd,q.map Nd.info <+: L∧Jx (bef++q) W')
theorem walkN_in (F:Fence) (hd:F.depth=none) (h60:F.fn 148) (hro:F.round=none) (l n₀ n₁ NN yb wb:Nat) (J Jx:List Nd→World→Prop) (hn:n₀≤n₁)
  (hJ:∀ s A B,J s A→A.grownBy B none→J s B) (hyb:n₁≤yb) (hwb:n₁≤wb)
  (G:In→Prop) (hY:∀ m bef (x:Nd) W,J bef W→G x.info→bef.length<NN→YieldAt F m Tryz.prog l (enc1 x) W fun e W' =>
   (e=.returned (.bool true)∧J (bef++[x]) W'∧KeepC n₀ n₁ W W')∨(e=.returned (.bool false)∧Jx (bef++[x]) W')) (e:Ex) :
  ∀ (n lv:Nat) (v:Value) (bef:List Nd) (W:World),ExAt n₀ W v e→J bef W→n₁≤W.heap.size→bef.length+sz e≤NN→lv+sz e≤100000→(∀ y∈pre lv e,G y) →
   Boxed W yb 171 (.func (.yield l) #[] #[])→Boxed W wb 171 (.func (.func 148) #[] #[.pointer (some ⟨yb,0,none⟩),.pointer (some ⟨wb,0,none⟩)]) →
   CallsIn F n Tryz.prog 148 #[v,.pointer (some ⟨yb,0,none⟩),.pointer (some ⟨wb,0,none⟩)] W (CameN J Jx n₀ n₁ (pre lv e) bef W):=by
 have hdd:∀ k:Nat,(F.depth.isSome=true→1≤k):=(fun k h=>by rw [hd] at h;cases h);induction e using Ex.ind with
 | h o num s ks ih =>
  intro n lv v bef W hx hJ0 hsz hNN hlv hG cy cw;obtain⟨p,cap,pl,cl,rfl,hs,ha⟩:=hx.form;simp only [Ex.op,Ex.n,Ex.nm,Ex.args] at hs ha ⊢;have hks:ks.length≤140737488351232:=ha.hl;rw [sz_mk] at hNN hlv;rw [pre_mk] at hG ⊢;obtain⟨K,hK⟩:∃ K,ks.length=K:=⟨_,rfl⟩;have HK:=Lh hK;rw [hK] at hks hG ⊢;clear hK;obtain⟨x,hxd⟩:∃ x:Nd,x=⟨lv,o,num,s,p,K,cap,by omega,hs,hks⟩:=⟨_,rfl⟩;have hxe:enc1 x=#[xv o num s (.slice p K cap)]:=(by rw [hxd]);have hxi:x.info=⟨lv,o,num,s,K⟩:=(by rw [hxd];rfl);have four:=Four.new W (.int .i64 o) (.int .i64 num) (.string s) (.slice p K cap) 43;have hb1:Below W.heap.size W (W.alloc (.cells #[.int .i64 o,.int .i64 num,.string s,.slice p K cap] 43)):=(Below.refl _ _).alloc (Nat.le_refl _) _;have hy1:=hY (n - 1) bef x _ (hJ _ _ _ hJ0 (grown_of_below hb1)) (by rw [hxi];exact hG _ List.mem_cons_self) (by omega);rw [hxe] at hy1;obtain⟨fn,tmps,assign,body,hy,hR⟩:=hy1;have by1:=cy.alloc (.cells #[.int .i64 o,.int .i64 num,.string s,.slice p K cap] 43);have bw1:=cw.alloc (.cells #[.int .i64 o,.int .i64 num,.string s,.slice p K cap] 43);have be1:(W.alloc (.cells #[.int .i64 o,.int .i64 num,.string s,.slice p K cap] 43)).heap[W.heap.size]? = some (.cells #[.int .i64 o,.int .i64 num,.string s,.slice p K cap] 43):=heap_alloc_new _ _;have HBE:=Lh be1;have HBY:=Lh by1;have HBW:=Lh bw1;have cy1:=by1.cell;have cw1:=bw1.cell;have HY:=Lh hY;have HG:=Lh hG;have HIH:=Lh ih;have HXI:=Lh hxi;have HJ:=Lh hJ;have HA:=Lh ha;clear hY hG ih hxi hJ ha hxd hxe hJ0 be1 by1 bw1;have four0:=four.c0;have four1:=four.c1;have four2:=four.c2;have four3:=four.c3;refine callsIn_of_wp Tryz.func148 rfl h60 ?_ hro;simp only [Tryz.ntmps148,List.size_toArray,List.length_cons,List.length_nil,Nat.reduceAdd,Nat.reduceSub,Array.replicate_succ,Array.replicate_zero,List.push_toArray,List.append_toArray,List.nil_append,List.cons_append]
  gi_wp2
  refine hR.mono ?_;rintro e W2 (⟨rfl,hJ2,hk2⟩ | ⟨rfl,hJx2⟩)
  ·have c3:W2.cell? ⟨W.heap.size,3,none⟩=some (.slice p K cap):=by
    have:=hk2.high _ _ hsz (okC (by decide)) HBE.out;simp [World.cell?,this]
   have HCY:=Lh cy;have HCW:=Lh cw;have HKW:Hid (KeepC n₀ n₁ W W2):=Lh ((KeepC.of_below hb1).trans hk2);have HJ2:=Lh hJ2;clear four four0 four1 four2 four3 cw1 cy1 cw cy hJ2 hk2 hb1
   gi_wp2
   gi_loopw [14] (fun i wr=>∃ (k:Nat) (ys:List Nd),k≤K∧i=.int .i64 k∧Hid (ys.map Nd.info=pres (lv+1) (ks.take k))∧Hid (J (bef++[x]++ys) wr)∧Hid (KeepC n₀ n₁ W wr)) (fun i _=>K - (intOf i).toNat)
   case atStart=>exact⟨0,[],Nat.zero_le _,rfl,Lh (by rw [List.take_zero,pres_nil];rfl),Lh (by rw [List.append_nil];exact HJ2.out),HKW⟩
   case round =>
    obtain⟨k,ys,hk,rfl,YS,JW,KW⟩:=hrel;clear c3;by_cases hlt:k<K
    ·obtain⟨b,off,rfl,hbs,hcell⟩:=HA.out.hp (by rw [HK.out];omega);obtain⟨a,hak⟩:∃ a,ks[k]? = some a:=⟨_,List.getElem?_eq_getElem (by rw [HK.out];exact hlt)⟩;obtain⟨q0,q1,q2,q3⟩:=hcell k a hak;have ca0:=KW.out.tree hbs q0;have ca1:=KW.out.tree hbs q1;have ca2:=KW.out.tree hbs q2;have ca3:=KW.out.tree hbs q3;have b1:Boxed wr yb 171 (.func (.yield l) #[] #[]):=KW.out.high _ _ hyb (okC (by decide)) HCY.out;have b2:Boxed wr wb 171 (.func (.func 148) #[] #[.pointer (some ⟨yb,0,none⟩),.pointer (some ⟨wb,0,none⟩)]):=KW.out.high _ _ hwb (okC (by decide)) HCW.out;have c1:=b1.cell;have c2:=b2.cell;have hwl:=cell_lt c2;have hyl':=cell_lt c1;have HB1:=Lh hbs;have hblt:=cell_lt ca0;obtain⟨pa,hpa⟩:∃ pa,pl k=pa:=⟨_,rfl⟩;obtain⟨ka,hka⟩:∃ ka,a.args.length=ka:=⟨_,rfl⟩;obtain⟨ca,hca⟩:∃ ca,cl k=ca:=⟨_,rfl⟩;have hxa:=(HA.out.hx k a hak).kept (fun _ _ hb _ hv=>KW.out.tree hb hv) (Nat.le_refl _);rw [hpa,hka,hca] at ca3 hxa;have HC:Hid (∀ Wx,Below wr.heap.size wr Wx→CallsIn F (n - 1) Tryz.prog 148 #[xv a.op a.n a.nm (.slice pa ka ca),.pointer (some ⟨yb,0,none⟩),.pointer (some ⟨wb,0,none⟩)] Wx (CameN J Jx n₀ n₁ (pre (lv+1) a) (bef++[x]++ys) Wx)):=Lh fun Wx hbx=>by
      have hsa:=szs_take hak;have hsb:=szs_take_le (k+1) ks;have hyl:ys.length=szs (ks.take k):=by rw [←pres_len (l:=lv+1) (fun a _=>pre_len a _),←YS.out,List.length_map]
      have q:=HIH.out a (List.mem_of_getElem? hak) (n - 1) (lv+1) _ _ Wx (hxa.under (hbx.mono (by omega))) (HJ.out _ _ _ JW.out (grown_of_below hbx)) (by have:=hbx.size;have:=KW.out.size;omega) (by simp;omega) (by omega) (fun y hy=>HG.out y (List.mem_cons_of_mem _ (mem_pres.2 ⟨a,List.mem_of_getElem? hak,hy⟩)))
       ((hbx.block yb hyl').trans b1) ((hbx.block wb hwl).trans b2)
      exact q
     clear hcell q0 q1 q2 q3 hpa hka hca hxa b1 b2;have hb2:Below wr.heap.size wr (wr.alloc (.cells #[.int .i64 a.op,.int .i64 a.n,.string a.nm,.slice pa ka ca] 43)):=(Below.refl _ _).alloc (Nat.le_refl _) _;have HB2:=Lh hb2;have HTK:=Lh (pres_take (l:=lv+1) hak);have HPR:Hid (pres (lv+1) (ks.take (k+1)) <+: pres (lv+1) ks):=Lh (by
      have:=pres_append (lv+1) (ks.take (k+1)) (ks.drop (k+1));rw [List.take_append_drop] at this;exact⟨_,this.symm⟩)
     clear hb2 hak
     gi_wp2_with ((try refine⟨hdd _,?_⟩);gi_at_call 148;refine (HC.out _ HB2.out).mono ?_;clear HC;rintro e W5 (⟨rfl,hys,hk5⟩ | ⟨rfl,hq⟩))
     ·have H5:=Lh hys;have KW5:Hid (KeepC n₀ n₁ W W5):=Lh ((KW.out.trans (KeepC.of_below HB2.out)).trans hk5);clear hys hk5;go_roundw
      case rel =>
       obtain⟨zs,hz,hj⟩:=H5.out;exact⟨k+1,ys++zs,by omega,by go_num,Lh (by rw [HTK.out,List.map_append,YS.out,hz]),Lh (by rw [←List.append_assoc];exact hj),KW5⟩
      case measure=>simp [intOf];omega
     ·have H5:=Lh hq;clear hq;go_ret;obtain⟨q,hq1,hq2⟩:=H5.out;refine .inr ⟨rfl,x::(ys++q),?_,by simpa [List.append_assoc] using hq2⟩;rw [List.map_cons,HXI.out,List.map_append,YS.out];refine (List.prefix_cons_inj _ |>.2 (List.IsPrefix.trans ?_ HPR.out));rw [HTK.out];exact (List.prefix_append_right_inj _).2 hq1
    ·have hkK:k=K:=(by omega);have YS2:Hid (ys.map Nd.info=pres (lv+1) ks):=Lh (by rw [YS.out,hkK,←HK.out,List.take_length]);clear hkK
     gi_wp2
     go_ret;exact .inl ⟨rfl,⟨x::ys,by rw [List.map_cons,HXI.out,YS2.out],by simpa [List.append_assoc] using JW.out⟩,KW.out⟩
  ·gi_wp2
   go_ret;exact .inr ⟨rfl,[x],by rw [List.map_cons,HXI.out];exact⟨_,rfl⟩,hJx2⟩
theorem iterN_in (F:Fence) (hd:F.depth=none) (n:Nat) (h59:F.fn 147) (h60:F.fn 148) (hro:F.round=none) (l n₀ n₁ eb:Nat) (hn:n₀≤n₁) (e:Ex) (hsz:sz e≤10000)
  (o num:Int) (s:ByteArray) (a3:Value) (J Jx:List Nd→World→Prop) (hJ:∀ s A B,J s A→A.grownBy B none→J s B)
  (G:In→Prop) (hG:∀ y∈pre 1 e,G y) (hY:∀ bef (x:Nd) W,J bef W→G x.info→bef.length<sz e→YieldAt F (n - 1) Tryz.prog l (enc1 x) W fun e W' =>
   (e=.returned (.bool true)∧J (bef++[x]) W'∧KeepC n₀ n₁ W W')∨(e=.returned (.bool false)∧Jx (bef++[x]) W'))
  (W:World) (h1:n₁≤W.heap.size) (hb:Four W eb (.int .i64 o) (.int .i64 num) (.string s) a3) (hx:ExAt n₀ W (xv o num s a3) e) (h0:J [] W) :
  CallsIn F n Tryz.prog 147 #[.func (.yield l) #[] #[],.pointer (some ⟨eb,0,none⟩)] W fun x W'=>(∃ v,x=.returned v) ∧
   ((∃ ys:List Nd,ys.map Nd.info=pre 1 e∧J ys W')∨(∃ q:List Nd,q.map Nd.info <+: pre 1 e∧Jx q W')):=by
 have hdd:∀ k:Nat,(F.depth.isSome=true→1≤k):=(fun k h=>by rw [hd] at h;cases h);have HW:Hid (∀ W2,Below W.heap.size W W2→Boxed W2 W.heap.size 171 (.func (.yield l) #[] #[])→Boxed W2 (W.heap.size+1) 171 (.func (.func 148) #[] #[.pointer (some ⟨W.heap.size,0,none⟩),.pointer (some ⟨W.heap.size+1,0,none⟩)]) →
   CallsIn F (n - 1) Tryz.prog 148 #[xv o num s a3,.pointer (some ⟨W.heap.size,0,none⟩),.pointer (some ⟨W.heap.size+1,0,none⟩)] W2 (CameN J Jx n₀ n₁ (pre 1 e) [] W2)):=Lh fun W2 hb2 c1 c2 =>
  walkN_in F hd h60 hro l n₀ n₁ (sz e) W.heap.size (W.heap.size+1) J Jx hn hJ (by omega) (by omega) G (fun m bef x W hj hg hl=>yieldFree hd m (hY bef x W hj hg hl)) e (n - 1) 1 _ [] W2 (hx.under (hb2.mono (by omega))) (hJ _ _ _ h0 (grown_of_below hb2)) (by have:=hb2.size;omega) (by simp) (by omega) hG c1 c2
 have a0:=hb.alloc (.cells #[.func (.yield l) #[] #[]] 171);have a1:=a0.alloc (.cells #[.func (.func 148) #[] #[.pointer (some ⟨W.heap.size,0,none⟩),.pointer (some ⟨W.heap.size+1,0,none⟩)]] 171);have d0:=a1.c0;have d1:=a1.c1;have d2:=a1.c2;have d3:=a1.c3;clear a0 a1 hb hY hJ hx h0;refine callsIn_of_wp Tryz.func147 rfl h59 ?_ hro;simp only [Tryz.ntmps147,List.size_toArray,List.length_cons,List.length_nil,Nat.reduceAdd,Nat.reduceSub,Array.replicate_succ,Array.replicate_zero,List.push_toArray,List.append_toArray,List.nil_append,List.cons_append];have BX1:=Lh ((Boxed.new W 171 (.func (.yield l) #[] #[])).alloc (.cells #[.func (.func 148) #[] #[.pointer (some ⟨W.heap.size,0,none⟩),.pointer (some ⟨W.heap.size+1,0,none⟩)]] 171));have bx2:=Boxed.new (W.alloc (.cells #[.func (.yield l) #[] #[]] 171)) 171 (.func (.func 148) #[] #[.pointer (some ⟨W.heap.size,0,none⟩),.pointer (some ⟨W.heap.size+1,0,none⟩)]);rw [World.size_alloc] at bx2;have BX2:=Lh bx2;clear bx2;have HB1:Hid (Below W.heap.size W ((W.alloc (.cells #[.func (.yield l) #[] #[]] 171)).alloc (.cells #[.func (.func 148) #[] #[.pointer (some ⟨W.heap.size,0,none⟩),.pointer (some ⟨W.heap.size+1,0,none⟩)]] 171))):=Lh (((Below.refl _ _).alloc (Nat.le_refl _) _).alloc (by simp) _)
 gi_wp2_with ((try refine⟨hdd _,?_⟩);gi_at_call 148;refine (HW.out _ HB1.out BX1.out BX2.out).mono ?_;clear HW;rintro e W5 (⟨rfl,hys,_⟩ | ⟨rfl,hq⟩))
 ·have H5:=Lh hys;clear hys
  go_end0
  obtain⟨ys,h1,h2⟩:=H5.out;exact⟨⟨_,rfl⟩,.inl ⟨ys,h1,by simpa using h2⟩⟩
 ·have H5:=Lh hq;clear hq
  go_end0
  obtain⟨q,h1,h2⟩:=H5.out;exact⟨⟨_,rfl⟩,.inr ⟨q,h1,by simpa using h2⟩⟩
theorem nodesN_in (F:Fence) (n:Nat) (h40:F.fn 96) (hro:F.round=none) (o num:Int) (s:ByteArray) (a3:Value) (w:World) :
  CallsIn F n Tryz.prog 96 #[xv o num s a3] w fun e w'=>e=.returned (.func (.func 147) #[] #[.pointer (some ⟨w.heap.size,0,none⟩)])∧w'=w.alloc (.cells #[.int .i64 o,.int .i64 num,.string s,a3] 43):=by
 refine callsIn_of_wp Tryz.func96 rfl h40 ?_ hro;simp only [Tryz.ntmps96,List.size_toArray,List.length_cons,List.length_nil,Nat.reduceAdd,Nat.reduceSub,Array.replicate_succ,Array.replicate_zero,List.push_toArray,List.append_toArray,List.nil_append,List.cons_append]
 gi_wp2
 go_ret;exact⟨rfl,rfl⟩
theorem nodesN_tells (F:Fence) (hd:F.depth=none) (n:Nat) (h59:F.fn 147) (h60:F.fn 148) (hro:F.round=none) (n₀ n₁ eb:Nat) (hn:n₀≤n₁) (e:Ex) (hsz:sz e≤10000) (G:In→Prop) (hG:∀ y∈pre 1 e,G y)
  (o num:Int) (s:ByteArray) (a3:Value) (w:World) (h1:n₁≤w.heap.size) (hb:Four w eb (.int .i64 o) (.int .i64 num) (.string s) a3) (hx:ExAt n₀ w (xv o num s a3) e) :
  Tells F n Tryz.prog 147 #[.pointer (some ⟨eb,0,none⟩)] (fun x:Nd=>#[xv x.op x.n x.nm (.slice x.p x.k x.cap)]) (KeepC n₀ n₁) (fun ys=>ys.map Nd.info=pre 1 e) (fun q=>q.map Nd.info <+: pre 1 e) (sz e) (fun x _=>G x.info) w:=fun l J Jx W hW hJ _ hY h0 =>
 iterN_in F hd n h59 h60 hro l n₀ n₁ eb hn e hsz o num s a3 J Jx (fun s A B hs hg=>hJ s A B none hs hg (fun r e=>by cases e)) G hG (fun bef x W hj hg hl=>by
  obtain⟨fn,tmps,assign,body,hy,hR⟩:=hY bef x W hj hg hl;exact⟨fn,tmps,assign,body,hy,hR.mono fun e B hp=>hp.imp (fun q=>q) (fun q=>⟨q.1,q.2.1⟩)⟩) W (Nat.le_trans h1 hW.size) (hb.stay hW) (hx.under (hW.mono (by omega))) h0
end ItW
namespace ItW
open Go Go.RowKit NumM LexW LexM ExM ExW ItM
def tSplitV (s:ByteArray) (x:Bool) (w:World) (e:Ending) (w':World):Prop :=
 ∃ t i,e=.returned (.tuple #[.string t,.int .i64 i,.bool x])∧Below w.heap.size w w'∧(x=true→∃ d:UInt8,s.data.toList=t.data.toList++[91,d,93]∧i=(d.toNat:Int) - 48)
theorem tSplitV_no {s:ByteArray} {y:Bool} {t:ByteArray} {i:Int} {w w':World} (h:false=y) (hb:Below w.heap.size w w'):tSplitV s y w (.returned (.tuple #[.string t,.int .i64 i,.bool false])) w':=by
 subst h;exact⟨t,i,rfl,hb,fun h=>by cases h⟩
theorem splitV_any (s:ByteArray) (w:World) (hs:s.size≤140737488351232):Calls Tryz.prog 154 #[.string s] w (tSplitV s (elmB s.data.toList) w):=by
 have HB0:=Lh (Below.refl w.heap.size w);by_cases h4:s.size<4
 ·have EE:Hid (false=elmB s.data.toList):=Lh (by
   rw [eq_comm,Bool.eq_false_iff];intro h;obtain⟨r,d,e,_,hn⟩:=elm_iff.1 h;have:=congrArg List.length e;rw [len_data] at this;have:r=[]:=List.length_eq_zero_iff.1 (by simp at this;omega);subst this;simp [nmB] at hn)
  have h4':(s.size:Int)<4:=by omega
  go_enter Tryz.func154,Tryz.ntmps154
  go_wp2;refine bodyPost_ret (v:=.tuple #[.string ⟨#[]⟩,.int .i64 0,.bool false]) (by simp [results,Tryz.results154,go_sem]) rfl ?_;exact tSplitV_no EE.out HB0.out
 ·obtain⟨m,hm⟩:∃ m,s.size=m+3:=⟨s.size - 3,by omega⟩;have hL:=last3 s m hm (by omega) (by omega) (by omega);obtain⟨t,ht⟩:∃ t,s.extract 0 m=t:=⟨_,rfl⟩;have hts:t.size≤140737488351232:=(by rw [←ht];simp;omega);have hm0:m<s.size:=(by omega);have hm1:m+1<s.size:=(by omega);have hm2:m+2<s.size:=(by omega);have EV:Hid (elmB s.data.toList=(decide (s[m+2]=93)&&(decide (s[m]=91)&&(decide (48≤s[m+1].toNat∧s[m+1].toNat≤55)&&nmB t.data.toList)))):=Lh (by rw [hL,elm_last,ht]);have NC:Hid (∀ W,Calls Tryz.prog 42 #[.string t] W (tBool (nmB t.data.toList) W)):=(Lh fun W=>nameR_any t W hts);have i1:((s.size:Int) - 1).toNat=m+2:=(by omega);have i2:((s.size:Int) - 2).toNat=m+1:=(by omega);have i3:((s.size:Int) - 3).toNat=m:=(by omega);have j1:(s.size:Int) - 1<(s.size:Int):=(by omega);have j2:(s.size:Int) - 2<(s.size:Int):=(by omega);have j3:(s.size:Int) - 3<(s.size:Int):=(by omega);have h4':¬ (s.size:Int)<4:=(by omega);have HLL:=Lh hL;clear hL;by_cases g1:(s[m+2].toNat:Int)=93
  ·by_cases g2:(s[m].toNat:Int)=91
   ·have s1:s[m+2]=93:=UInt8.toNat_inj.1 (by show s[m+2].toNat=93;omega);have s2:s[m]=91:=UInt8.toNat_inj.1 (by show s[m].toNat=91;omega);have EV2:Hid (elmB s.data.toList=(decide (48≤s[m+1].toNat∧s[m+1].toNat≤55)&&nmB t.data.toList)):=Lh (by rw [EV.out,decide_eq_true s1,decide_eq_true s2];rfl);have DEC0:∃ d':UInt8,s.data.toList=t.data.toList++[91,d',93]∧((s[m+1].toNat:Nat):Int) - 48=(d'.toNat:Int) - 48:=⟨s[m+1],by rw [HLL.out,ht,s1,s2],rfl⟩;clear s1 s2 EV;obtain⟨d,hd⟩:∃ d:Nat,s[m+1].toNat=d:=⟨_,rfl⟩;rw [hd] at DEC0;have DEC:=Lh DEC0;clear DEC0;have hd2:(d:Int)≤255:=(by have:=s[m+1].toNat_lt;omega);rw [hd] at EV2;by_cases g3:(48:Int)≤d
    ·by_cases g4:(d:Int)≤55
     ·have EV3:Hid (elmB s.data.toList=nmB t.data.toList):=Lh (by rw [EV2.out,decide_eq_true ⟨by omega,by omega⟩];rfl);clear EV2;generalize nmB t.data.toList=q at *
      cases q
      ·go_enter Tryz.func154,Tryz.ntmps154
       go_wp2_with (go_at_call 42;((with_reducible refine (NC.out _).mono ?_);rintro e w1 ⟨rfl,hb⟩;have HB1:=Lh hb;clear hb))
       refine bodyPost_ret (v:=.tuple #[.string ⟨#[]⟩,.int .i64 0,.bool false]) (by simp [results,Tryz.results154,go_sem]) rfl ?_;exact tSplitV_no EV3.out.symm HB1.out
      ·go_enter Tryz.func154,Tryz.ntmps154
       go_wp2_with (go_at_call 42;((with_reducible refine (NC.out _).mono ?_);rintro e w1 ⟨rfl,hb⟩;have HB1:=Lh hb;clear hb))
       refine bodyPost_ret (v:=.tuple #[.string t,.int .i64 ((d:Int) - 48),.bool true]) (by simp [results,Tryz.results154,go_sem]) rfl ?_;exact⟨t,(d:Int) - 48,by rw [←EV3.out],HB1.out,fun _=>DEC.out⟩
     ·have EE:Hid (false=elmB s.data.toList):=Lh (by rw [EV2.out,decide_eq_false (by omega)];rfl);clear EV2 NC
      go_enter Tryz.func154,Tryz.ntmps154
      go_wp2;refine bodyPost_ret (v:=.tuple #[.string ⟨#[]⟩,.int .i64 0,.bool false]) (by simp [results,Tryz.results154,go_sem]) rfl ?_;exact tSplitV_no EE.out HB0.out
    ·have EE:Hid (false=elmB s.data.toList):=Lh (by rw [EV2.out,decide_eq_false (by omega)];rfl);clear EV2 NC
     go_enter Tryz.func154,Tryz.ntmps154
     go_wp2;refine bodyPost_ret (v:=.tuple #[.string ⟨#[]⟩,.int .i64 0,.bool false]) (by simp [results,Tryz.results154,go_sem]) rfl ?_;exact tSplitV_no EE.out HB0.out
   ·have g2':((s[m].toNat:Int) != 91)=true:=(by rw [bne_iff_ne];exact g2);have EE:Hid (false=elmB s.data.toList):=Lh (by
     rw [EV.out,decide_eq_false (fun h:s[m]=91=>by rw [h] at g2;exact g2 rfl)];simp)
    clear g2 EV NC
    go_enter Tryz.func154,Tryz.ntmps154
    go_wp2;refine bodyPost_ret (v:=.tuple #[.string ⟨#[]⟩,.int .i64 0,.bool false]) (by simp [results,Tryz.results154,go_sem]) rfl ?_;exact tSplitV_no EE.out HB0.out
  ·have g1':((s[m+2].toNat:Int) != 93)=true:=(by rw [bne_iff_ne];exact g1);have EE:Hid (false=elmB s.data.toList):=Lh (by
    rw [EV.out,decide_eq_false (by intro h;rw [h] at g1;exact g1 rfl)];rfl)
   clear g1 EV NC
   go_enter Tryz.func154,Tryz.ntmps154
   go_wp2;refine bodyPost_ret (v:=.tuple #[.string ⟨#[]⟩,.int .i64 0,.bool false]) (by simp [results,Tryz.results154,go_sem]) rfl ?_;exact tSplitV_no EE.out HB0.out
theorem split_parts {s t:ByteArray} {i:Int} (h:isE s=true) (hd:∃ d:UInt8,s.data.toList=t.data.toList++[91,d,93]∧i=(d.toNat:Int) - 48):t=cutA s∧i=cutK s:=by
 obtain⟨d,e1,e2⟩:=hd;obtain⟨d',e3,h48,_,e4⟩:=elm_parts h;rw [e1] at e3;obtain⟨e5,e6⟩:=List.append_inj' e3 rfl;have e7:d=d':=(by simpa using e6);subst e7;exact⟨bs_inj e5,by rw [e2,e4];omega⟩
end ItW
namespace ItM
open Go WordM LexM ExM
open ClM (Fld)
def GE (fs:List Fld) (e:Ex):Prop:=∃ l,∀ y∈pre l e,fltS y=0∧nodE fs [] y=0
theorem GE.kid {fs:List Fld} {o n:Int} {s:ByteArray} {ks:List Ex} (h:GE fs (.mk o n s ks)) {a:Ex} (ha:a∈ks):GE fs a:=by
 obtain⟨l,h⟩:=h;exact⟨l+1,fun y hy=>h y (by rw [pre_mk];exact List.mem_cons_of_mem _ (mem_pres.2 ⟨a,ha,hy⟩))⟩
theorem GE.top {fs:List Fld} {o n:Int} {s:ByteArray} {ks:List Ex} (h:GE fs (.mk o n s ks)):fltS ⟨0,o,n,s,ks.length⟩=0∧nodE fs [] ⟨0,o,n,s,ks.length⟩=0:=by
 obtain⟨l,h⟩:=h;exact h ⟨l,o,n,s,ks.length⟩ (by rw [pre_mk];simp)
theorem flt_facts {l:Nat} {o n:Int} {s:ByteArray} {k:Nat} (h:fltS ⟨l,o,n,s,k⟩=0):takesS o k=true∧0≤n∧(isAr o=true→nmB s.data.toList=true):=by
 unfold fltS at h;cases hA:badA ⟨l,o,n,s,k⟩ with
 | true=>rw [hA,if_pos rfl] at h;cases h
 | false =>
  rw [hA,if_neg (by decide)] at h;cases hB:badN ⟨l,o,n,s,k⟩ with
  | true=>rw [hB,if_pos rfl] at h;cases h
  | false =>
   simp only [badA,Bool.or_eq_false_iff,Bool.not_eq_false',decide_eq_false_iff_not] at hA;simp only [badN,Bool.or_eq_false_iff,Bool.and_eq_false_iff,Bool.not_eq_false'] at hB;refine⟨hA.1,by omega,fun ha=>?_⟩;rcases hB.2 with e | e
   ·rw [ha] at e;cases e
   ·exact e
theorem takes3 {k:Nat} (h:takesS 3 k=true):k=1:=by simp [takesS,arS] at h;omega
theorem takes24 {k:Nat} (h:takesS 24 k=true):k=0:=by simp [takesS,arS] at h;omega
theorem nm_len {s:ByteArray} (h:nmB s.data.toList=true):s.size≤16:=by
 have e:s.size=s.data.toList.length:=rfl;rw [e];generalize s.data.toList=l at *
 cases l with
 | nil=>simp
 | cons c r =>
  unfold nmB at h;simp only [Bool.and_eq_true,decide_eq_true_eq] at h
  simpa using h.1
theorem GE.arr {fs:List Fld} {o n:Int} {s:ByteArray} {ks:List Ex} (h:GE fs (.mk o n s ks)) (ha:isAr o=true):s.size≤16∧0<szI fs s:=by
 obtain⟨h1,h2⟩:=h.top;refine⟨nm_len ((flt_facts h1).2.2 ha),?_⟩;unfold nodE at h2;rw [if_pos ha] at h2;unfold arrE at h2;split at h2
 ·cases h2
 ·split at h2
  ·rename_i hh;exact of_decide_eq_true hh
  ·cases h2
theorem sz_cst (k:Int):sz (cst k)=1:=by unfold cst;rw [sz_mk,szs_nil]
theorem sz_elV (a:ByteArray) (k:Nat):sz (elV a k)=1:=by unfold elV;rw [sz_mk,szs_nil]
theorem sz_sumE (a:ByteArray):∀ k,sz (sumE a k)=2*k+1
 | 0=>sz_elV a 0
 | k+1=>by
  show sz (.mk 7 0 ⟨#[]⟩ [sumE a k,elV a (k+1)])=_;rw [sz_mk,szs_cons,szs_cons,szs_nil,sz_sumE a k,sz_elV];omega
theorem sz_choE (a:ByteArray) (i:Ex):∀ m k,sz (choE a i k m)=m*(sz i+4)+1
 | 0,k=>by show sz (cst 0)=_;rw [sz_cst];omega
 | m+1,k=>by
  show sz (.mk 22 0 ⟨#[]⟩ [.mk 15 0 ⟨#[]⟩ [i,cst k],elV a k,choE a i (k+1) m])=_;rw [sz_mk,szs_cons,szs_cons,szs_cons,szs_nil,sz_mk,szs_cons,szs_cons,szs_nil,sz_cst,sz_elV,sz_choE a i m (k+1),Nat.succ_mul];omega
theorem sz_pos (e:Ex):1≤sz e:=by cases e;rw [sz_mk];omega
theorem sz_elmE (a:ByteArray) (n:Nat) (hn:n≤8) (i:Ex):sz (elmE a n i)≤8*(sz i+4)+1:=by
 have:=sz_pos i;unfold elmE;split
 ·split
  ·rw [sz_elV];omega
  ·rw [sz_cst];omega
 ·rw [sz_choE];have:n*(sz i+4)≤8*(sz i+4):=Nat.mul_le_mul_right _ hn;omega
theorem szI_le (fs:List Fld) (hS:∀ f∈fs,0≤f.sz∧f.sz≤8) (s:ByteArray):0≤szI fs s∧szI fs s≤8:=by
 unfold szI szO;cases h:fs.find? (fun f=>ClM.same f.nm s) with
 | none=>exact⟨by decide,by decide⟩
 | some f=>exact hS f (List.mem_of_find?_eq_some h)
theorem leaf_sz {fs:List Fld} (hS:∀ f∈fs,0≤f.sz∧f.sz≤8) {e:Ex} (hg:GE fs e) (h1:sz e=1):sz (scM fs e)≤15:=by
 obtain⟨o,n,s,ks⟩:=e;rw [sz_mk] at h1;have hk:ks=[]:=by
  cases ks with
  | nil=>rfl
  | cons a r=>rw [szs_cons] at h1;have:=sz_pos a;omega
 subst hk;rw [scM_mk];have h8:=szI_le fs hS s;split
 ·rw [sz_sumE];omega
 ·split
  ·rename_i h3;subst h3;have:=takes3 (flt_facts hg.top.1).1;simp at this
  ·rw [sz_mk];simp [szs_nil]
theorem szs_map_le {f:Ex→Ex} {c:Nat}:∀ (ks:List Ex),(∀ a∈ks,sz (f a)≤c*sz a)→szs (ks.map f)≤c*szs ks
 | [],_=>by simp [szs_nil]
 | a::r,h=>by
  rw [List.map_cons,szs_cons,szs_cons,Nat.mul_add];have h1:=h a (by simp);have h2:=szs_map_le r (fun b hb=>h b (by simp [hb]));omega
theorem scM_sz {fs:List Fld} (hS:∀ f∈fs,0≤f.sz∧f.sz≤8) {e:Ex} (hg:GE fs e) (hb:scB fs e=true):sz (scM fs e)≤160*sz e∧sz (scM fs e)≤400:=by
 obtain⟨o,n,s,ks⟩:=e;have hb2:=hb;rw [scB_mk,Bool.and_eq_true] at hb2;have hv:=((vld_zero _).1 (of_decide_eq_true hb2.2)).2.2;refine⟨?_,hv⟩;by_cases h3:3≤sz (.mk o n s ks)
 ·omega
 ·rw [sz_mk] at h3;cases ks with
  | nil=>have:=leaf_sz hS hg (by rw [sz_mk,szs_nil]);rw [sz_mk];omega
  | cons a r =>
   rw [szs_cons] at h3;have ha:=sz_pos a;have hr:r=[]:=by
    cases r with
    | nil=>rfl
    | cons b q=>rw [szs_cons] at h3;have:=sz_pos b;omega
   subst hr;rw [szs_nil] at h3;have hl:=leaf_sz hS (hg.kid (a:=a) (by simp)) (by omega);rw [scM_mk,sz_mk,szs_cons,szs_nil];have h8:=szI_le fs hS s;split
   ·rw [sz_sumE];omega
   ·split
    ·have:=sz_elmE s (szI fs s).toNat (by omega) (hdE ([a].map (scM fs)));have e:hdE ([a].map (scM fs))=scM fs a:=rfl;rw [e] at this ⊢;omega
    ·rw [sz_mk,List.map_cons,List.map_nil,szs_cons,szs_nil];omega
theorem scM_top {fs:List Fld} (hS:∀ f∈fs,0≤f.sz∧f.sz≤8) {o n:Int} {s:ByteArray} {ks:List Ex} (hg:GE fs (.mk o n s ks)) (hb:∀ a∈ks,scB fs a=true) (h60:sz (.mk o n s ks)≤60):sz (scM fs (.mk o n s ks))≤10000:=by
 have h8:=szI_le fs hS s;rw [sz_mk] at h60;rw [scM_mk];split
 ·rw [sz_sumE];omega
 ·split
  ·have h1:=sz_elmE s (szI fs s).toNat (by omega) (hdE (ks.map (scM fs)));have h2:sz (hdE (ks.map (scM fs)))≤400:=by
    cases ks with
    | nil=>show sz zE≤400;unfold zE;rw [sz_mk,szs_nil];omega
    | cons a r=>exact (scM_sz hS (hg.kid (a:=a) (by simp)) (hb a (by simp))).2
   omega
  ·rw [sz_mk];have:=szs_map_le (f:=scM fs) (c:=160) ks (fun a ha=>(scM_sz hS (hg.kid ha) (hb a ha)).1);omega
def scR (fs:List Fld) (e:Ex):Ex × Int:=if scB fs e=true then (scM fs e,0) else (zE,2)
end ItM
namespace ItW
open Go Go.RowKit Go.Shelf Go.«Sort» NumM LexW LexM ExM ExW ItM
open ClM (Fld)
theorem fin_yes {w W:World} (hb:Below w.heap.size w W):Ending.returned (.bool true)=.returned (.bool true)∧Below w.heap.size w W:=⟨rfl,hb⟩
end ItW
namespace ItM
open Go WordM LexM ExM
open ClM (Fld)
mutual
/-- The nodes that the result has at most. -/
def wt (fs:List Fld):Ex→Nat
 | .mk o _ s ks=>if o=24 then 2*(szI fs s).toNat - 1 else if o=3 then (if (hdE ks).op=1 then 1 else (szI fs s).toNat*(wts fs ks+4)+1) else wts fs ks+1
def wts (fs:List Fld):List Ex→Nat
 | []=>0
 | a::r=>wt fs a+wts fs r
end
theorem GE.ok {fs:List Fld} {e:Ex} (h:GE fs e):Ok e:=by
 obtain⟨l,h⟩:=h;exact (ok_at e l).2 fun x hx=>(h x hx).1
def NA (e:Ex):Prop:=∀ l,∀ y∈pre l e,isAr y.op=false
def Dst (fs:List Fld) (j:Nat):Prop:=∀ i k f g,i<j→k<i→fs[i]? = some f→fs[k]? = some g→g.nm.data.toList≠f.nm.data.toList
theorem Dst.zero (fs:List Fld):Dst fs 0:=fun _ _ _ _ h=>absurd h (Nat.not_lt_zero _)
def Dif (fs:List Fld) (s:ByteArray) (k:Nat):Prop:=∀ i g,i<k→fs[i]? = some g→g.nm.data.toList≠s.data.toList
theorem Dif.zero (fs:List Fld) (s:ByteArray):Dif fs s 0:=fun _ _ h=>absurd h (Nat.not_lt_zero _)
end ItM
namespace ItM
open Go WordM LexM ExM
open ClM (Fld firstE_zero)
def EqE (E1 E2:Env):Prop:=∀ s,findS E1 s=findS E2 s
theorem EqE.cons {E1 E2:Env} (h:EqE E1 E2) (p:ByteArray × Int):EqE (p::E1) (p::E2):=fun s=>by
 obtain⟨a,v⟩:=p;show (if a.data.toList=s.data.toList then some (v % 65536) else findS E1 s)=(if a.data.toList=s.data.toList then some (v % 65536) else findS E2 s);rw [h s]
theorem EqE.el {E1 E2:Env} (h:EqE E1 E2) (a:ByteArray) (i:Int):elS E1 a i=elS E2 a i:=by unfold elS fnd;rw [h]
theorem EqE.sum {E1 E2:Env} (h:EqE E1 E2) (a:ByteArray):∀ k,sumK E1 a k=sumK E2 a k
 | 0=>rfl
 | k+1=>by unfold sumK;rw [h.sum a k,h.el]
theorem EqE.ev {E1 E2:Env} (h:EqE E1 E2) (e:Ex):ExM.ev E1 e=ExM.ev E2 e∧kn E1 e=kn E2 e:=by
 induction e using Ex.ind with
 | h o n s ks ih =>
  rw [ev_mk,ev_mk,kn_mk,kn_mk];have e1:evs E1 ks=evs E2 ks:=by
   rw [evs_map,evs_map];exact List.map_congr_left fun a ha=>(ih a ha).1
  have e2:kns E1 ks=kns E2 ks:=by
   rw [kns_all,kns_all,Bool.eq_iff_iff,List.all_eq_true,List.all_eq_true];exact⟨fun g x hx=>by rw [←(ih x hx).2];exact g x hx,fun g x hx=>by rw [(ih x hx).2];exact g x hx⟩
  rw [e1,e2];have e3:∀ l,valS E1 o n s l=valS E2 o n s l:=(fun l=>by unfold valS fnd;rw [h,h.el,h.sum]);have e4:knwS E1 o s=knwS E2 o s:=(by unfold knwS hasN;rw [h,h]);rw [e3,e4];exact⟨rfl,rfl⟩
theorem EqE.eval {E1 E2:Env} (h:EqE E1 E2) (e:Ex):evalS E1 e=evalS E2 e:=by
 unfold evalS;rw [(h.ev e).1,(h.ev e).2]
end ItM
namespace ItM
open Go WordM LexM ExM
open ClM (Fld)
mutual
/-- A change of the expressions that are asked. -/
def smI (σ:Ex→Ex):It→It
 | .mk kd e nm ix ws it el bf af=>.mk kd (if kd=1∨kd=2∨kd=4 then σ e else e) nm ix ws (smL σ it) (smL σ el) bf af
def smL (σ:Ex→Ex):List It→List It
 | []=>[]
 | a::r=>smI σ a::smL σ r
end
theorem smI_eq (σ:Ex→Ex) (x:It):smI σ x=.mk x.kd (if x.kd=1∨x.kd=2∨x.kd=4 then σ x.e else x.e) x.nm x.ix x.ws (smL σ x.it) (smL σ x.el) x.bf x.af:=by cases x;rw [smI];rfl
theorem smL_nil (σ:Ex→Ex):smL σ []=[]:=by rw [smL]
theorem smL_cons (σ:Ex→Ex) (a:It) (r:List It):smL σ (a::r)=smI σ a::smL σ r:=by rw [smL]
theorem smL_map (σ:Ex→Ex) (l:List It):smL σ l=l.map (smI σ):=by
 induction l with
 | nil=>rw [smL_nil];rfl
 | cons a r ih=>rw [smL_cons,ih];rfl
theorem smL_len (σ:Ex→Ex) (l:List It):(smL σ l).length=l.length:=by rw [smL_map,List.length_map]
theorem smL_comp (τ σ:Ex→Ex) (l:List It):smL τ (smL σ l)=smL (fun a=>τ (σ a)) l:=by
 induction l using its_rec with
 | h0=>rw [smL_nil,smL_nil,smL_nil]
 | h1 x r h1 h2 h3 =>
  rw [smL_cons,smL_cons,smL_cons,h3]
  congr 1
  rw [smI_eq σ x,smI_eq,smI_eq];show It.mk x.kd (if x.kd=1∨x.kd=2∨x.kd=4 then τ (if x.kd=1∨x.kd=2∨x.kd=4 then σ x.e else x.e) else (if x.kd=1∨x.kd=2∨x.kd=4 then σ x.e else x.e)) x.nm x.ix x.ws (smL τ (smL σ x.it)) (smL τ (smL σ x.el)) x.bf x.af=_;rw [h1,h2];split<;>rfl
theorem smL_id (l:List It):smL (fun a=>a) l=l:=by
 induction l using its_rec with
 | h0=>rw [smL_nil]
 | h1 x r h1 h2 h3 =>
  rw [smL_cons,h3,smI_eq,h1,h2]
  congr 1
  rw [ite_self];exact (It.eta x).symm
mutual
def rxI (fs:List Fld) (q:Option Ex) (σ:Ex→Ex):It→List It
 | .mk kd e nm ix ws it el bf af =>
  if kd=4 then rxA fs (some (und q 19 (σ e))) σ 0 it++rxA fs (some (und q 19 (notE (σ e)))) σ 0 el
  else if kd=5 then (List.range (szI fs nm).toNat).flatMap (fun (k:Nat)=>rxA fs q (fun a=>su ix (cst (k:Int)) (σ a)) 0 it)
  else if kd=1∨kd=2 then [hardI kd (und q 21 (σ e))]
  else [.mk kd e nm ix ws (smL σ it) (smL σ el) bf af]
/-- m: what came ahead. -/
def rxA (fs:List Fld) (q:Option Ex) (σ:Ex→Ex) (m:Nat):List It→List It
 | []=>[]
 | a::r=>if 400<m then [] else rxI fs q σ a++rxA fs q σ (m+(rxI fs q σ a).length) r
end
theorem rxI_eq (fs:List Fld) (q:Option Ex) (σ:Ex→Ex) (x:It):rxI fs q σ x =
  if x.kd=4 then rxA fs (some (und q 19 (σ x.e))) σ 0 x.it++rxA fs (some (und q 19 (notE (σ x.e)))) σ 0 x.el
  else if x.kd=5 then (List.range (szI fs x.nm).toNat).flatMap (fun (k:Nat)=>rxA fs q (fun a=>su x.ix (cst (k:Int)) (σ a)) 0 x.it)
  else if x.kd=1∨x.kd=2 then [hardI x.kd (und q 21 (σ x.e))]
  else [.mk x.kd x.e x.nm x.ix x.ws (smL σ x.it) (smL σ x.el) x.bf x.af]:=by cases x;rw [rxI];rfl
theorem rxA_nil (fs:List Fld) (q:Option Ex) (σ:Ex→Ex) (m:Nat):rxA fs q σ m []=[]:=by rw [rxA]
theorem rxA_cons (fs:List Fld) (q:Option Ex) (σ:Ex→Ex) (m:Nat) (a:It) (r:List It):rxA fs q σ m (a::r)=if 400<m then [] else rxI fs q σ a++rxA fs q σ (m+(rxI fs q σ a).length) r:=by rw [rxA]
theorem zB_eq {e:Ex} (h:zB e=true):e=zE:=by
 unfold zB at h;simp only [Bool.and_eq_true,decide_eq_true_eq,List.isEmpty_iff] at h;obtain⟨h1,h2,h3,h4⟩:=h;cases e with
 | mk o n s ks =>
  have e3:s=⟨#[]⟩:=by
   have:s.size=0:=(by unfold isEmp at h3;simpa [Ex.nm] using h3);exact ByteArray.ext (Array.eq_empty_of_size_eq_zero this)
  have e1:o=0:=h1;have e2:n=0:=h2;have e4:ks=[]:=h4;rw [e1,e2,e3,e4];rfl
theorem isEmp_eq {s:ByteArray} (h:isEmp s=true):s=⟨#[]⟩:=by
 have:s.size=0:=(by unfold isEmp at h;simpa using h);exact ByteArray.ext (Array.eq_empty_of_size_eq_zero this)
theorem out_of_flt {d:Nat} {x:It} (h:fltI d x=0) (h1:x.kd≠1) (h2:x.kd≠2) (h4:x.kd≠4) (h5:x.kd≠5):x=outI x∧x.it=[]∧x.el=[]:=by
 unfold fltI at h;split at h
 ·cases h
 ·rename_i hc;rw [Bool.or_eq_true,Bool.or_eq_true,not_or,not_or] at hc;obtain⟨hk,hf,_⟩:=hc;simp only [Bool.not_eq_true',Bool.not_eq_false] at hk hf;unfold kindB at hk;simp only [Bool.and_eq_true,decide_eq_true_eq] at hk;unfold freeB at hf;rw [if_neg (by omega)] at hf;by_cases k3:x.kd=3
  ·rw [if_pos k3] at hf;simp only [Bool.and_eq_true,List.isEmpty_iff] at hf;obtain⟨a,b,c,e,f,g⟩:=hf;refine⟨?_,c,e⟩;unfold outI;rw [f,g];have:=It.eta x;rw [zB_eq a,isEmp_eq b,c,e,f,g] at this;exact this
  ·rw [if_neg k3,if_neg h4,if_neg h5] at hf;simp only [Bool.and_eq_true,List.isEmpty_iff] at hf;obtain⟨a,b,c,e,f,g⟩:=hf;refine⟨?_,f,g⟩;unfold outI;rw [isEmp_eq b,e];have:=It.eta x;rw [zB_eq a,isEmp_eq b,isEmp_eq c,e,f,g] at this;exact this
theorem flat_cut {α:Type} (L:List Nat) (f g:Nat→List α) (h:∀ k∈L,((f k).length≤400→g k=f k)∧(400<(f k).length→400<(g k).length)) :
  ((L.flatMap f).length≤400→L.flatMap g=L.flatMap f)∧(400<(L.flatMap f).length→400<(L.flatMap g).length):=by
 induction L with
 | nil=>exact⟨fun _=>rfl,fun h=>by simp at h⟩
 | cons a r ih =>
  obtain⟨i1,i2⟩:=(ih fun k hk=>h k (List.mem_cons_of_mem _ hk));obtain⟨h1,h2⟩:=h a List.mem_cons_self;rw [List.flatMap_cons,List.flatMap_cons,List.length_append,List.length_append];constructor
  ·intro hl;rw [h1 (by omega),i1 (by omega)]
  ·intro hl;rcases Nat.lt_or_ge 400 (f a).length with hf | hf
   ·have:=h2 hf;omega
   ·rw [h1 hf];rcases Nat.lt_or_ge 400 (r.flatMap f).length with hr | hr
    ·have:=i2 hr;omega
    ·rw [i1 hr];omega
theorem rx_eq (fs:List Fld) (l:List It):∀ (q:Option Ex) (σ:Ex→Ex) (m d:Nat) (B:List ByteArray),(∀ p∈wks d B l,fltP p=0)→m≤400 →
  (m+(exL fs q σ l).length≤400→rxA fs q σ m l=exL fs q σ l)∧(400<m+(exL fs q σ l).length→400<m+(rxA fs q σ m l).length):=by
 induction l using its_rec with
 | h0=>intro q σ m d B _ hm;rw [exL_nil,rxA_nil];exact⟨fun _=>rfl,fun h=>h⟩
 | h1 x r h1 h2 h3 =>
  intro q σ m d B hp hm;rw [wks_cons,wk_eq] at hp;have hpx:=hp _ (List.mem_append_left _ List.mem_cons_self);have hpi:∀ p∈wks (d+1) (inn x.kd x.ix B) x.it,fltP p=0:=(fun p h=>hp p (List.mem_append_left _ (List.mem_cons_of_mem _ (List.mem_append_left _ h))));have hpe:∀ p∈wks (d+1) B x.el,fltP p=0:=(fun p h=>hp p (List.mem_append_left _ (List.mem_cons_of_mem _ (List.mem_append_right _ h))));have hpr:∀ p∈wks d B r,fltP p=0:=(fun p h=>hp p (List.mem_append_right _ h));have hX:((exI fs q σ x).length≤400→rxI fs q σ x=exI fs q σ x)∧(400<(exI fs q σ x).length→400<(rxI fs q σ x).length):=by
   rw [exI_eq,rxI_eq];by_cases k4:x.kd=4
   ·rw [if_pos k4,if_pos k4];obtain⟨a1,a2⟩:=h1 (some (und q 19 (σ x.e))) σ 0 (d+1) _ hpi (Nat.zero_le _);obtain⟨b1,b2⟩:=h2 (some (und q 19 (notE (σ x.e)))) σ 0 (d+1) _ hpe (Nat.zero_le _);rw [Nat.zero_add] at a1 a2 b1 b2;rw [Nat.zero_add] at a2 b2;rw [List.length_append,List.length_append];constructor
    ·intro h;rw [a1 (by omega),b1 (by omega)]
    ·intro h;rcases Nat.lt_or_ge 400 (exL fs (some (und q 19 (σ x.e))) σ x.it).length with ha | ha
     ·have:=a2 ha;omega
     ·rw [a1 ha];rcases Nat.lt_or_ge 400 (exL fs (some (und q 19 (notE (σ x.e)))) σ x.el).length with hb | hb
      ·have:=b2 hb;omega
      ·rw [b1 hb];omega
   ·rw [if_neg k4,if_neg k4];by_cases k5:x.kd=5
    ·rw [if_pos k5,if_pos k5];refine (flat_cut _ _ _ fun k _=>?_);have:=h1 q (fun a=>su x.ix (cst (k:Int)) (σ a)) 0 (d+1) _ hpi (Nat.zero_le _);rw [Nat.zero_add,Nat.zero_add] at this;exact this
    ·rw [if_neg k5,if_neg k5];by_cases k12:x.kd=1∨x.kd=2
     ·rw [if_pos k12,if_pos k12];exact⟨fun _=>rfl,fun h=>h⟩
     ·rw [if_neg k12,if_neg k12];obtain⟨e1,e2,e3⟩:=out_of_flt (x:=x) (d:=d) hpx (fun h=>k12 (.inl h)) (fun h=>k12 (.inr h)) k4 k5;have:It.mk x.kd x.e x.nm x.ix x.ws (smL σ x.it) (smL σ x.el) x.bf x.af=outI x:=by
       rw [e2,e3,smL_nil];have h9:=It.eta x;rw [e2,e3] at h9;rw [←h9];exact e1
      rw [this];exact⟨fun _=>rfl,fun h=>h⟩
  rw [exL_cons,rxA_cons,if_neg (by omega),List.length_append,List.length_append];obtain⟨x1,x2⟩:=hX;constructor
  ·intro h;rw [x1 (by omega),(h3 q σ _ d B hpr (by omega)).1 (by omega)]
  ·intro h;rcases Nat.lt_or_ge 400 (exI fs q σ x).length with ha | ha
   ·have:=x2 ha;omega
   ·rw [x1 ha];rcases Nat.lt_or_ge 400 (m+(exI fs q σ x).length) with hb | hb
    ·omega
    ·have:=(h3 q σ (m+(exI fs q σ x).length) d B hpr hb).2 (by omega);omega
end ItM
end Go.Proofs.YtpejflgdehioaaaGreatDoor
