/-
  Laws that the card uses; no conditions beside those that each states (ItFields ItChk).
-/
import Derived.Test.YtpejflgdehioaaaGreatDoorU12
import Derived.Test.YtpejflgdehioaaaGreatDoorU13
set_option maxRecDepth 100000
set_option maxHeartbeats 16000000
namespace Go.Proofs.YtpejflgdehioaaaGreatDoor
namespace ItW
open Go Go.RowKit Go.Shelf NumM LexW LexM ExM ExW ItM
open ClM (Fld)
attribute [local go_sem] Oper.semAt_some
abbrev fdv (f:Fld):Value:=.agg #[.string f.nm,.int .i64 f.wd,.int .i64 f.sz,.int .i64 f.md,.int .i64 f.ini]
def FdsA (N:Nat) (w:World) (v:Value) (l:List Fld):Prop :=
 ∃ p cap,v=.slice p l.length cap∧l.length*48≤140737488351232∧l.length≤cap∧(∀ f∈l,f.nm.size≤140737488351232) ∧
  (0<l.length→∃ b off,p=some ⟨b,off,none⟩∧b<N∧∀ (i:Nat) (f:Fld),l[i]? = some f→w.cell? ⟨b,off+i*5,none⟩=some (.string f.nm)∧w.cell? ⟨b,off+i*5+1,none⟩=some (.int .i64 f.wd) ∧
   w.cell? ⟨b,off+i*5+2,none⟩=some (.int .i64 f.sz)∧w.cell? ⟨b,off+i*5+3,none⟩=some (.int .i64 f.md)∧w.cell? ⟨b,off+i*5+4,none⟩=some (.int .i64 f.ini))
theorem FdsA.kept {N N':Nat} {w w':World} (hk:∀ b o,b<N→∀ v,w.cell? ⟨b,o,none⟩=some v→w'.cell? ⟨b,o,none⟩=some v) (hN:N≤N') {v:Value} {l:List Fld} (h:FdsA N w v l):FdsA N' w' v l:=by
 obtain⟨p,cap,e,h1,h2,h3,h4⟩:=h;exact⟨p,cap,e,h1,h2,h3,fun h0=>by obtain⟨b,off,e,hb,hc⟩:=h4 h0;exact⟨b,off,e,by omega,fun i f hi=>by obtain⟨a0,a1,a2,a3,a4⟩:=hc i f hi;exact⟨hk _ _ hb _ a0,hk _ _ hb _ a1,hk _ _ hb _ a2,hk _ _ hb _ a3,hk _ _ hb _ a4⟩⟩⟩
theorem FdsA.under {N:Nat} {w w':World} (hb:Below N w w') {v:Value} {l:List Fld} (h:FdsA N w v l):FdsA N w' v l:=h.kept (low_cells hb) (Nat.le_refl _)
theorem FdsA.wide {N N':Nat} {w:World} (hN:N≤N') {v:Value} {l:List Fld} (h:FdsA N w v l):FdsA N' w v l:=h.kept (fun _ _ _ _ hv=>hv) hN
def ClA (N:Nat) (w:World) (v:Value) (fs:List Fld):Prop :=
 ∃ (nm par:ByteArray) (vf:Value) (pb:Option Addr) (kb cb:Nat),v=.agg #[.string nm,.string par,vf,.slice pb kb cb]∧FdsA N w vf fs
theorem ClA.under {N:Nat} {w w':World} (hb:Below N w w') {v:Value} {l:List Fld} (h:ClA N w v l):ClA N w' v l:=by
 obtain⟨nm,par,vf,pb,kb,cb,e,h⟩:=h;exact⟨nm,par,vf,pb,kb,cb,e,h.under hb⟩
theorem ClA.wide {N N':Nat} {w:World} (hN:N≤N') {v:Value} {l:List Fld} (h:ClA N w v l):ClA N' w v l:=by
 obtain⟨nm,par,vf,pb,kb,cb,e,h⟩:=h;exact⟨nm,par,vf,pb,kb,cb,e,h.wide hN⟩
def FMap (W:World) (fb n:Nat) (fs:List Fld):Prop :=
 ∃ D:DataW Unit,W.ownsMap Tryz.prog 9 (plainElem (H:=Unit) Tryz.prog 3) fb n D∧(∀ t:ByteArray,D.atKey (.string t.data.toList) (.lit (.int .i64 0))=.lit (.int .i64 (szI fs t)))∧∀ t:ByteArray,Maps.has D (.string t.data.toList)=(szO fs t).isSome
theorem FMap.made (w:World):FMap (w.alloc (.map #[] 0)) w.heap.size 0 []:=⟨_,World.ownsMap_made w _ _ _,fun t=>by simp [DataW.atKey,szI,szO],fun t=>rfl⟩
theorem FMap.obj {W:World} {fb n:Nat} {fs:List Fld} (h:FMap W fb n fs):∃ es ck,W.heap[fb]? = some (.map es ck):=by
 obtain⟨D,⟨es,ck,hb,_⟩,_⟩:=h;exact⟨es,ck,hb⟩
theorem FMap.lt {W:World} {fb n:Nat} {fs:List Fld} (h:FMap W fb n fs):fb<W.heap.size:=by
 obtain⟨es,ck,hb⟩:=h.obj;exact (Array.getElem?_eq_some_iff.1 hb).1
theorem FMap.stay {W W':World} {fb n:Nat} {fs:List Fld} (h:FMap W fb n fs) (hk:∀ o,W.heap[fb]? = some o→okO o→W'.heap[fb]? = some o):FMap W' fb n fs:=by
 obtain⟨D,⟨es,ck,hb,r⟩,h2⟩:=h;exact⟨D,⟨es,ck,hk _ hb trivial,r⟩,h2⟩
theorem FMap.below {W W':World} {fb n:Nat} {fs:List Fld} (h:FMap W fb n fs) (hb:Below W.heap.size W W'):FMap W' fb n fs:=h.stay fun _ ho _=>(hb.block fb h.lt).trans ho
theorem FMap.kept {W W':World} {fb n:Nat} {fs:List Fld} {row:Option Nat} (h:FMap W fb n fs) (hg:W.grownBy W' row) (hr:some fb≠row):FMap W' fb n fs:=h.stay fun _ ho _=>(hg.block fb h.lt hr).trans ho
theorem FMap.look {W:World} {fb n:Nat} {fs:List Fld} (h:FMap W fb n fs) (t:ByteArray) (ht:t.size≤140737488351232) :
  (Instr.lookup 79 (.map (some fb)) (.string t) false).run Tryz.prog W=.ok (.int .i64 (szI fs t)) W:=by
 obtain⟨D,h1,h2,_⟩:=h;exact IntMap.look (f:=szI fs) Tryz.underlying79 ⟨D,h1,h2⟩ t ht
theorem FMap.lookOk {W:World} {fb n:Nat} {fs:List Fld} (h:FMap W fb n fs) (t:ByteArray) (ht:t.size≤140737488351232) :
  (Instr.lookup 79 (.map (some fb)) (.string t) true).run Tryz.prog W=.ok (.tuple #[.int .i64 (szI fs t),.bool (szO fs t).isSome]) W:=by
 obtain⟨D,h1,h2,h3⟩:=h;obtain⟨v,ps,hr,hv⟩:=h1.look_ok (Maps.string_keyed Tryz.underlying9) Tryz.underlying79 (Tryz.zeroValue3 W) (plainElem_int Tryz.underlying3 (a:=0) (hwf 0 (by decide) (by decide))) (Go.WideMaps.keyOf_string_mk Tryz.underlying9 (Nat.le_trans ht (by decide)));obtain⟨c,rfl,hc,_⟩:=plainElem_int_inv Tryz.underlying3 hv;simp only [Prod.mk.injEq] at hc;have h4:=hc.1;rw [h2] at h4;simp only [DataW.lit.injEq,Lit.int.injEq,true_and] at h4;rw [hr,h3,h4]
theorem szO_cons (f:Fld) (fs:List Fld) (t:ByteArray):szO (f::fs) t=if ClM.same f.nm t=true then some f.sz else szO fs t:=by
 unfold szO;rw [List.find?_cons];cases ClM.same f.nm t<;>rfl
theorem szI_cons (f:Fld) (fs:List Fld) (t:ByteArray):szI (f::fs) t=if ClM.same f.nm t=true then f.sz else szI fs t:=by
 unfold szI;rw [szO_cons];split<;>rfl
theorem FMap.put {W:World} {fb n:Nat} {fs:List Fld} (h:FMap W fb n fs) (hn:n≤1000000) (f:Fld) (hs:f.nm.size≤140737488351232) (h0:-9223372036854775808≤f.sz) (h1:f.sz≤9223372036854775807) :
  ∃ W',(Instr.mapUpdate 79 (.map (some fb)) (.string f.nm) (.int .i64 f.sz)).run Tryz.prog W=.ok () W'∧FMap W' fb (n+1) (f::fs)∧W.grownBy W' (some fb):=by
 obtain⟨D,g1,g2,g3⟩:=h;obtain⟨W',hr,ho,hg⟩:=g1.update (Maps.string_keyed Tryz.underlying9) Tryz.underlying79 (Nat.lt_of_le_of_lt hn (by decide)) (Go.WideMaps.keyOf_string_mk Tryz.underlying9 (Nat.le_trans hs (by decide))) (plainElem_int Tryz.underlying3 (a:=f.sz) (hwf f.sz h0 h1));have hm:=g1.isMap;refine⟨W',hr,⟨D.put (.string f.nm.data.toList) (.lit (.int .i64 f.sz)),ho,fun t=>?_,fun t=>?_⟩,hg⟩
 ·rw [szI_cons];by_cases e:ClM.same f.nm t=true
  ·rw [if_pos e,←(show f.nm.data.toList=t.data.toList by simpa [ClM.same] using e),Maps.atKey_put_same hm (by simp [WideAt.IsKeyLit])]
  ·rw [if_neg e,Maps.atKey_put_other (by
    intro x;simp only [Lit.string.injEq] at x;exact e (by simpa [ClM.same] using x.symm)),g2]
 ·rw [szO_cons];by_cases e:ClM.same f.nm t=true
  ·rw [if_pos e,←(show f.nm.data.toList=t.data.toList by simpa [ClM.same] using e),Maps.has_put_same hm (by simp [WideAt.IsKeyLit])];rfl
  ·rw [if_neg e,Maps.has_put_other (by
    intro x;simp only [Lit.string.injEq] at x;exact e (by simpa [ClM.same] using x.symm)),g3]
theorem tells_of {α:Type} {F:Fence} {n:Nat} {P:Program} {g:Nat} {lb:Array Value} {encs:α→Array Value} {Kp:World→World→Prop} {S Sp:List α→Prop} {N:Nat} {w:World} (h:SeqStopsK F n P g lb encs Kp S Sp N w) :
  Tells F n P g lb encs Kp S Sp N (fun _ _=>True) w:=fun l J Jx W hW hJ hJx hY h0 =>
 h l J Jx W hW hJ hJx (fun bef x A hj hl=>by
  obtain⟨fn,tmps,assign,body,hy,hR⟩:=hY bef x A hj trivial hl;exact⟨fn,tmps,assign,body,hy,hR.mono fun e B hp=>hp.imp (fun q=>q) (fun q=>⟨q.1,q.2.1⟩)⟩) h0
structure Fe where
 i:Int
 f:Fld
 hs:f.nm.size≤140737488351232
 hz:0≤f.sz∧f.sz≤100
abbrev encF (x:Fe):Array Value:=#[.int .i64 x.i,fdv x.f]
theorem back_stops (F:Fence) (hd:F.depth=none) (n:Nat) (h125:F.fn 125) (hro:F.round=none) (n₀ n₁ sb:Nat) (hn:n₀≤n₁) (fs:List Fld) (hS:∀ f∈fs,0≤f.sz∧f.sz≤100) (v:Value)
  (w:World) (h1:n₁≤w.heap.size) (hsb:n₁≤sb) (hb:Boxed w sb 31 v) (hx:FdsA n₀ w v fs) :
  SeqStopsK F n Tryz.prog 125 #[.pointer (some ⟨sb,0,none⟩)] encF (KeepC n₀ n₁) (fun ys=>ys.map Fe.f=fs.reverse) (fun q=>q.map Fe.f <+: fs.reverse) fs.length w:=by
 intro l J Jx W hW hJ hJx hY h0;have hdd:∀ k:Nat,(F.depth.isSome=true→1≤k):=(fun k h=>by rw [hd] at h;cases h);have hws:=hW.size;have hbW:Boxed W sb 31 v:=(hW.block sb hb.lt).trans hb;have hxW:=hx.under (hW.mono (by omega));obtain⟨p,cap,rfl,hl1,hl2,hz,hp⟩:=hxW;obtain⟨K,hK⟩:∃ K,fs.length=K:=⟨_,rfl⟩;have HK:=Lh hK;rw [hK] at hl1 hl2 hbW hY;have hk47:K≤140737488351232:=(by omega);have cB:=hbW.cell;have HB:=Lh hbW;have HP:=Lh hp;have HZ:=Lh hz;have HY:=Lh hY;have HJ0:=Lh h0;have HS:=Lh hS;clear hb hx hW hbW hp hz hY h0 hJ hJx hS hK;refine callsIn_of_wp Tryz.func125 rfl h125 ?_ hro;simp only [Tryz.ntmps125,List.size_toArray,List.length_cons,List.length_nil,Nat.reduceAdd,Nat.reduceSub,Array.replicate_succ,Array.replicate_zero,List.push_toArray,List.append_toArray,List.nil_append,List.cons_append]
 gi_wp2
 gi_loopw [3] (fun i wr=>∃ (k:Nat) (ys:List Fe),k≤K∧i=.int .i64 ((K:Int) - 1 - k)∧Hid (ys.map Fe.f=fs.reverse.take k)∧Hid (J ys wr)∧Hid (KeepC n₀ n₁ W wr)) (fun i _=>(intOf i+1).toNat)
 case atStart=>exact⟨0,[],Nat.zero_le _,by go_num,Lh (by simp),HJ0,Lh (KeepC.refl _ _ _)⟩
 case round =>
  obtain⟨k,ys,hk,rfl,YS,JW,KW⟩:=hrel;clear cB;have hB1:Boxed wr sb 31 (.slice p K cap):=KW.out.high _ _ hsb (okC (by decide)) HB.out;have cB:=hB1.cell;by_cases hlt:k<K
  ·obtain⟨b,off,rfl,hbs,hcell⟩:=HP.out (by rw [HK.out];omega);obtain⟨m,hm⟩:∃ m,m=K - 1 - k:=⟨_,rfl⟩;have hmi:(K:Int) - 1 - k=(m:Int):=(by omega);have hmK:m<K:=(by omega);obtain⟨f,hf⟩:∃ f,fs[m]? = some f:=⟨_,List.getElem?_eq_getElem (by rw [HK.out];exact hmK)⟩;obtain⟨q0,q1,q2,q3,q4⟩:=hcell m f hf;have c0:=KW.out.tree hbs q0;have c1:=KW.out.tree hbs q1;have c2:=KW.out.tree hbs q2;have c3:=KW.out.tree hbs q3;have c4:=KW.out.tree hbs q4;have hfm:=List.mem_of_getElem? hf;have hyl:ys.length=k:=by
    have:=congrArg List.length YS.out;rw [List.length_map,List.length_take,List.length_reverse,HK.out] at this;omega
   obtain⟨x,hx⟩:∃ x:Fe,x=⟨m,f,HZ.out f hfm,HS.out f hfm⟩:=⟨_,rfl⟩;have hxe:encF x=#[.int .i64 m,fdv f]:=(by rw [hx]);have HXF:Hid (x.f=f):=Lh (by rw [hx]);have HTK:Hid (fs.reverse.take (k+1)=fs.reverse.take k++[f]):=Lh (by
    have h2:fs.reverse[k]? = some f:=by
     rw [List.getElem?_reverse (by rw [HK.out];exact hlt),HK.out,←hf]
     congr 1
     omega
    obtain⟨h3,h4⟩:=List.getElem?_eq_some_iff.1 h2;rw [List.take_succ_eq_append_getElem h3,h4])
   obtain⟨fn,tmps,assign,body,hy,hR⟩:=HY.out ys x wr JW.out (by omega);rw [hxe] at hy;clear hcell q0 q1 q2 q3 q4 hf hx hxe hm;rw [hmi]
   gi_wp2
   refine hR.mono ?_;rintro e W2 (⟨rfl,hJ2,hk2⟩ | ⟨rfl,hJx2⟩)
   ·have KW2:Hid (KeepC n₀ n₁ W W2):=Lh (KW.out.trans hk2);have HJ2:=Lh hJ2;clear hJ2 hk2 hR hy
    gi_wp2
    go_roundw
    case rel=>exact⟨k+1,ys++[x],by omega,by go_num,Lh (by rw [HTK.out,List.map_append,YS.out,List.map_cons,List.map_nil,HXF.out]),HJ2,KW2⟩
    case measure=>simp [intOf]<;>omega
   ·have HJ2:=Lh hJx2;clear hJx2 hR hy
    gi_wp2
    (try simp only [Exit.inBlock,Exit.then])
    refine bodyPost_ret (results_none rfl _ _ _) rfl ?_;refine⟨⟨_,rfl⟩,.inr ⟨ys++[x],?_,HJ2.out⟩⟩;rw [List.map_append,YS.out,List.map_cons,List.map_nil,HXF.out,←HTK.out];exact List.take_prefix _ _
  ·have hkK:k=K:=(by omega);have YS2:Hid (ys.map Fe.f=fs.reverse):=Lh (by rw [YS.out,List.take_of_length_le (by rw [List.length_reverse,HK.out];omega)]);subst hkK
   gi_wp2
   go_end0
   exact⟨⟨_,rfl⟩,.inl ⟨ys,YS2.out,JW.out⟩⟩
theorem back_in (F:Fence) (n:Nat) (h81:F.fn 81) (hro:F.round=none) (p:Option Addr) (K cap:Nat) (w:World) :
  CallsIn F n Tryz.prog 81 #[.slice p K cap] w fun e w'=>e=.returned (.func (.func 125) #[] #[.pointer (some ⟨w.heap.size,0,none⟩)])∧w'=w.alloc (.cells #[.slice p K cap] 31):=by
 refine callsIn_of_wp Tryz.func81 rfl h81 ?_ hro;simp only [Tryz.ntmps81,List.size_toArray,List.length_cons,List.length_nil,Nat.reduceAdd,Nat.reduceSub,Array.replicate_succ,Array.replicate_zero,List.push_toArray,List.append_toArray,List.nil_append,List.cons_append]
 gi_wp2
 go_ret;exact⟨rfl,rfl⟩
theorem fieldsOf_any (fs:List Fld) (hS:∀ f∈fs,0≤f.sz∧f.sz≤100) (hK:fs.length≤10000) (v:Value) (w:World) (hx:ClA w.heap.size w v fs) :
  Calls Tryz.prog 43 #[v] w fun e w'=>∃ fb n,e=.returned (.map (some fb))∧w.heap.size≤fb∧FMap w' fb n fs∧Below w.heap.size w w':=by
 obtain⟨nm,par,vf,pb,kb,cb,rfl,hf⟩:=hx;have HF:=Lh hf;have HS:=Lh hS;obtain⟨p,cap,rfl,_⟩:=hf;obtain⟨K,hKK⟩:∃ K,fs.length=K:=⟨_,rfl⟩;rw [hKK] at HF hK ⊢;have HK:=Lh hKK;clear hS hKK;obtain⟨i0,hi⟩:∃ x:Unit,x=():=⟨(),rfl⟩;clear hi;refine (callsIn_wide (n:=9)).1 ?_;refine callsIn_of_wp_marks Tryz.func43 rfl trivial ?_ rfl;simp only [Tryz.ntmps43,List.size_toArray,List.length_cons,List.length_nil,Nat.reduceAdd,Nat.reduceSub,Array.replicate_succ,Array.replicate_zero,List.push_toArray,List.append_toArray,List.nil_append,List.cons_append];have hmm:=@run_makeMap Tryz.prog
 gi_wp2_with (refine⟨trivial,?_⟩;gi_at_call 81;refine (back_in Fence.wide _ trivial rfl _ _ _ _).mono ?_;rintro e w' ⟨rfl,rfl⟩)
 have c0:=Blk.new w [.string nm,.string par,.slice p K cap,.slice pb kb cb] 34;have bF:=(Boxed.new ((w.alloc (.cells #[.string nm,.string par,.slice p K cap,.slice pb kb cb] 34)).alloc (.map #[] 0)) 79 (.map (some (w.heap.size+1)))).alloc (.cells #[.slice p K cap] 31);have hm0:=((FMap.made (w.alloc (.cells #[.string nm,.string par,.slice p K cap,.slice pb kb cb] 34))).below (ba _ (.cells #[.map (some (w.heap.size+1))] 79))).below (ba _ (.cells #[.slice p K cap] 31));have bL:=Boxed.new (((w.alloc (.cells #[.string nm,.string par,.slice p K cap,.slice pb kb cb] 34)).alloc (.map #[] 0)).alloc (.cells #[.map (some (w.heap.size+1))] 79)) 31 (.slice p K cap);have hB0:Below w.heap.size w ((((w.alloc (.cells #[.string nm,.string par,.slice p K cap,.slice pb kb cb] 34)).alloc (.map #[] 0)).alloc (.cells #[.map (some (w.heap.size+1))] 79)).alloc (.cells #[.slice p K cap] 31)):=(((((Below.refl _ w).alloc (Nat.le_refl _) _).alloc (by simp) _).alloc (by simp;omega) _).alloc (by simp;omega) _);have hz:((((w.alloc (.cells #[.string nm,.string par,.slice p K cap,.slice pb kb cb] 34)).alloc (.map #[] 0)).alloc (.cells #[.map (some (w.heap.size+1))] 79)).alloc (.cells #[.slice p K cap] 31)).heap.size=w.heap.size+4:=(by simp);simp only [World.size_alloc,Nat.add_assoc,Nat.reduceAdd] at bF bL hm0;simp only [Nat.add_assoc,Nat.reduceAdd];obtain⟨W0,hW0⟩:∃ W0,((((w.alloc (.cells #[.string nm,.string par,.slice p K cap,.slice pb kb cb] 34)).alloc (.map #[] 0)).alloc (.cells #[.map (some (w.heap.size+1))] 79)).alloc (.cells #[.slice p K cap] 31))=W0:=⟨_,rfl⟩;rw [hW0] at bF bL hm0 hB0 hz ⊢;clear hW0 c0
 refine range_tells rfl (by decide) (gf:=125) (lb:=#[.pointer (some ⟨w.heap.size+3,0,none⟩)]) rfl trivial (enters_of Tryz.func125 (by kernel_rfl) rfl)
  (tells_of (back_stops Fence.wide rfl _ trivial rfl w.heap.size (w.heap.size+3) (w.heap.size+3) (by omega) fs HS.out _ W0 (by omega) (Nat.le_refl _) bL (HF.out.under hB0))) keepC_t (keepC_b (by omega)) (fun _=>rfl)
  (fun bef W=>(Boxed W (w.heap.size+2) 79 (.map (some (w.heap.size+1)))∧FMap W (w.heap.size+1) bef.length (bef.map Fe.f).reverse)∧Below w.heap.size w W)
  (fun _ _ _=>False)
  (OwnFrom.and (OwnFrom.and (Own.from (boxed_own _ _ _) _) (fun s A B row hs hg hr=>hs.kept hg (fun e=>by have:=(hr _ e.symm).1;omega))) (ownFrom_below (Nat.le_refl _) (by omega)))
  (fun _ _ _ _ _ hs _ _=>hs)
  ⟨⟨bF,hm0⟩,hB0⟩ ?round ?done ?stop
 case round =>
  rintro l bef x W hl ⟨⟨bF1,hm1⟩,hB1⟩ _ hlt;have hHM:Hid (((bef++[x]).map Fe.f).reverse=x.f::(bef.map Fe.f).reverse):=Lh (by simp);have hbn:bef.length≤10000:=(by have:=HK.out;omega);have hWs:=hB1.size;have HBF:=Lh bF1;have HM1:=Lh hm1;have HB1:=Lh hB1;have hml:=hm1.lt;clear bF1 hm1 hB1;obtain⟨i,f,hs,hzz⟩:=x;simp only at hHM ⊢;rw [zip2];have B1:=Lh (ba W (.cells #[.string f.nm,.int .i64 f.wd,.int .i64 f.sz,.int .i64 f.md,.int .i64 f.ini] 77));have FI1:=Lh (Blk.new W [.string f.nm,.int .i64 f.wd,.int .i64 f.sz,.int .i64 f.md,.int .i64 f.ini] 77)
  gi_wp2
  refine⟨keepsFrom_below B1.out,KeepC.of_below B1.out,⟨⟨bxStay HBF.out B1.out,HM1.out.below B1.out⟩,HB1.out.trans (B1.out.mono hWs)⟩,?_⟩;rintro Wb hnear ⟨⟨bF2,hm2⟩,hB2⟩;have e0:=hnear.cell (FI1.out.c 0 _ rfl);have e2:=hnear.cell (FI1.out.c 2 _ rfl);have cF:=bF2.cell;obtain⟨W2,hup,hm3,hg3⟩:=hm2.put (by omega) f hs (by omega) (by omega);have HG:=Lh hg3;have HM3:=Lh hm3;have HBF2:=Lh bF2;have HB2:=Lh hB2;have hl2:=bF2.lt;clear bF2 hm2 hB2 hnear hg3 hm3
  gi_wp2
  refine⟨KeepsFrom.of_grownBy HG.out (fun j e=>by cases e;omega),KeepC.grown HG.out (fun b e=>by cases e;exact⟨by omega,.inl (by omega)⟩),⟨⟨(HG.out.block _ hl2 (fun e=>by simp only [Option.some.injEq] at e;omega)).trans HBF2.out,?_⟩,HB2.out.grown HG.out (by have:=HB2.out.size;omega) (fun k e=>by cases e;omega)⟩⟩;rw [hHM.out,List.length_append];exact HM3.out
 case done =>
  rintro D zs W hD hzs ⟨⟨bF1,hm1⟩,hB1⟩ hK;have cF:=bF1.cell;have hm2:FMap W (w.heap.size+1) zs.length fs:=(by rw [hzs,List.reverse_reverse] at hm1;exact hm1);have HM:=Lh hm2;have HB:=Lh hB1;have HKD:=Lh hK;clear bF1 hm1 hm2 hzs hB1
  gi_wp2
  refine⟨by simp,.inl ⟨_,_,rfl,run_takeDeferred HKD.out,?_⟩⟩;exact⟨_,results_tmp rfl _ _ _,w.heap.size+1,zs.length,rfl,by omega,HM.out.kept (grownBy_putObj' W D (.deferred none)) (fun e=>by cases e;omega),HB.out.trans (belowK_b (w:=w) (Nat.le_refl _) W D _ _ (by omega) HKD.out rfl rfl)⟩
 case stop =>
  rintro D c bef W _ _ h _;exact h.elim
end ItW
namespace ItW
open Go Go.RowKit NumM LexW LexM ExM ExW ItM
open ClM (Fld)
theorem hasP_eq (fs:List Fld) (s:ByteArray):hasP fs s=((szO fs s).isSome&&decide (szI fs s≤0)):=by
 unfold hasP szI;cases szO fs s<;>rfl
theorem cut_size {s:ByteArray} (hs:s.size≤140737488351232):(cutA s).size≤140737488351232:=by
 have h:(cutA s).size≤s.size:=by
  rw [Lib.size_eq,Lib.size_eq];show (s.data.toList.take _).length≤_;rw [List.length_take];omega
 omega
structure FsA (w:World) (fb:Nat) (fs:List Fld):Prop where
 map:∃ n,FMap w fb n fs
 tab:TabI w
theorem FsA.later {w w':World} {fb:Nat} {fs:List Fld} (h:FsA w fb fs) (hb:Below w.heap.size w w'):FsA w' fb fs:=by
 obtain⟨n,hm⟩:=h.map;exact⟨⟨n,hm.below hb⟩,h.tab.later hb⟩
theorem FsA.look {w:World} {fb:Nat} {fs:List Fld} (h:FsA w fb fs) (t:ByteArray) (ht:t.size≤140737488351232):(Instr.lookup 79 (.map (some fb)) (.string t) false).run Tryz.prog w=.ok (.int .i64 (szI fs t)) w:=by
 obtain⟨n,hm⟩:=h.map;exact hm.look t ht
theorem FsA.lookOk {w:World} {fb:Nat} {fs:List Fld} (h:FsA w fb fs) (t:ByteArray) (ht:t.size≤140737488351232):(Instr.lookup 79 (.map (some fb)) (.string t) true).run Tryz.prog w=.ok (.tuple #[.int .i64 (szI fs t),.bool (szO fs t).isSome]) w:=by
 obtain⟨n,hm⟩:=h.map;exact hm.lookOk t ht
theorem hasA_any (fb:Nat) (fs:List Fld) (s:ByteArray) (w:World) (hf:FsA w fb fs) (hs:s.size≤140737488351232) :
  Calls Tryz.prog 129 #[.map (some fb),.string s] w fun e w'=>e=.returned (.bool (hasA fs s))∧w=w':=by
 have hlk:=hf.look s hs;have E:Hid (hasA fs s=decide (0<szI fs s)):=Lh rfl;clear hf hs;generalize szI fs s=z at *
 by_cases h:0<z
 ·rw [decide_eq_true h] at E
  go_enter Tryz.func129,Tryz.ntmps129
  go_wp2;go_ret;exact⟨retb E.out.symm,rfl⟩
 ·rw [decide_eq_false h] at E
  go_enter Tryz.func129,Tryz.ntmps129
  go_wp2;go_ret;exact⟨retb E.out.symm,rfl⟩
theorem hasP_any (fb:Nat) (fs:List Fld) (s:ByteArray) (w:World) (hf:FsA w fb fs) (hs:s.size≤140737488351232) :
  Calls Tryz.prog 149 #[.map (some fb),.string s] w fun e w'=>e=.returned (.bool (hasP fs s))∧w=w':=by
 have hlk:=hf.lookOk s hs;have E:=Lh (hasP_eq fs s);clear hf hs;generalize szI fs s=z at *
 generalize (szO fs s).isSome=o at *
 cases o
 ·go_enter Tryz.func149,Tryz.ntmps149
  go_wp2;go_ret;exact⟨retb (by rw [E.out];rfl),rfl⟩
 ·by_cases h:z≤0
  ·rw [decide_eq_true h] at E
   go_enter Tryz.func149,Tryz.ntmps149
   go_wp2;go_ret;exact⟨retb (by rw [E.out];rfl),rfl⟩
  ·rw [decide_eq_false h] at E
   go_enter Tryz.func149,Tryz.ntmps149
   go_wp2;go_ret;exact⟨retb (by rw [E.out];rfl),rfl⟩
theorem hasV_any (fb:Nat) (fs:List Fld) (s:ByteArray) (w:World) (hf:FsA w fb fs) (hs:s.size≤140737488351232) (hv:varB s.data.toList=true) :
  Calls Tryz.prog 128 #[.map (some fb),.string s] w (tBool (hasV fs s) w):=by
 have C:=Lh (cutElement_any s w hs hv hf.tab);have P:Hid (∀ W,Below w.heap.size w W→Calls Tryz.prog 149 #[.map (some fb),.string s] W fun e w'=>e=.returned (.bool (hasP fs s))∧W=w'):=(Lh fun W hW=>hasP_any fb fs s W (hf.later hW) hs);have L:Hid (∀ W,Below w.heap.size w W→(Instr.lookup 79 (.map (some fb)) (.string (cutA s)) false).run Tryz.prog W=.ok (.int .i64 (szI fs (cutA s))) W):=(Lh fun W hW=>(hf.later hW).look _ (cut_size hs));have E:Hid (hasV fs s=(hasP fs s||(isE s&&decide (cutK s<szI fs (cutA s))))):=Lh rfl;unfold tCut at C;clear hf hs hv;generalize hasP fs s=p at *
 generalize isE s=q at *
 generalize szI fs (cutA s)=z at *
 generalize cutA s=a at *
 generalize cutK s=k at *
 cases p
 ·cases q
  ·go_enter Tryz.func128,Tryz.ntmps128
   go_wp2_with (first
    | (go_at_call 167;((with_reducible refine C.out.mono ?_);rintro e w1 ⟨t,i,rfl,_,hb⟩;have HB:=Lh hb;clear hb))
    | (go_at_call 149;((with_reducible refine (P.out _ HB.out).mono ?_);rintro e w2 ⟨rfl,rfl⟩)))
   go_ret;exact tBool_mk (by rw [E.out];rfl) HB.out
  ·by_cases h:k<z
   ·rw [decide_eq_true h] at E
    go_enter Tryz.func128,Tryz.ntmps128
    go_wp2_with (first
     | (go_at_call 167;((with_reducible refine C.out.mono ?_);rintro e w1 ⟨t,i,rfl,hti,hb⟩;obtain⟨rfl,rfl⟩:=hti rfl;have HB:=Lh hb;have hlk:=L.out _ hb;clear hb hti))
     | (go_at_call 149;((with_reducible refine (P.out _ HB.out).mono ?_);rintro e w2 ⟨rfl,rfl⟩)))
    go_ret;exact tBool_mk (by rw [E.out];rfl) HB.out
   ·go_enter Tryz.func128,Tryz.ntmps128
    go_wp2_with (first
     | (go_at_call 167;((with_reducible refine C.out.mono ?_);rintro e w1 ⟨t,i,rfl,hti,hb⟩;obtain⟨rfl,rfl⟩:=hti rfl;have HB:=Lh hb;have hlk:=L.out _ hb;clear hb hti))
     | (go_at_call 149;((with_reducible refine (P.out _ HB.out).mono ?_);rintro e w2 ⟨rfl,rfl⟩)))
    go_ret;exact tBool_mk (by rw [E.out,decide_eq_false (by omega)];rfl) HB.out
 ·go_enter Tryz.func128,Tryz.ntmps128
  go_wp2_with (first
   | (go_at_call 167;((with_reducible refine C.out.mono ?_);rintro e w1 ⟨t,i,rfl,_,hb⟩;have HB:=Lh hb;clear hb))
   | (go_at_call 149;((with_reducible refine (P.out _ HB.out).mono ?_);rintro e w2 ⟨rfl,rfl⟩)))
  go_ret;exact tBool_mk (by rw [E.out];rfl) HB.out
theorem misP_any (fb:Nat) (fs:List Fld) (s:ByteArray) (w:World) (hf:FsA w fb fs) (hs:s.size≤140737488351232) (hv:varB s.data.toList=true) :
  Calls Tryz.prog 127 #[.map (some fb),.string s] w (tBool (misP fs s) w):=by
 have C:=Lh (cutElement_any s w hs hv hf.tab);have P:Hid (∀ W,Below w.heap.size w W→Calls Tryz.prog 149 #[.map (some fb),.string (cutA s)] W fun e w'=>e=.returned (.bool (hasP fs (cutA s)))∧W=w'):=(Lh fun W hW=>hasP_any fb fs _ W (hf.later hW) (cut_size hs));have E:Hid (misP fs s=(isE s&&hasP fs (cutA s))):=Lh rfl;unfold tCut at C;clear hf hs hv;generalize isE s=q at *
 generalize hasP fs (cutA s)=p at *
 generalize cutA s=a at *
 generalize cutK s=k at *
 cases q
 ·go_enter Tryz.func127,Tryz.ntmps127
  go_wp2_with (go_at_call 167;((with_reducible refine C.out.mono ?_);rintro e w1 ⟨t,i,rfl,_,hb⟩;have HB:=Lh hb;clear hb))
  go_ret;exact tBool_mk (by rw [E.out];rfl) HB.out
 ·go_enter Tryz.func127,Tryz.ntmps127
  go_wp2_with (first
   | (go_at_call 167;((with_reducible refine C.out.mono ?_);rintro e w1 ⟨t,i,rfl,hti,hb⟩;obtain⟨rfl,rfl⟩:=hti rfl;have HB:=Lh hb;clear hb hti))
   | (go_at_call 149;((with_reducible refine (P.out _ HB.out).mono ?_);rintro e w2 ⟨rfl,rfl⟩)))
  go_ret;exact tBool_mk (by rw [E.out];rfl) HB.out
theorem unk_any (fb:Nat) (fs:List Fld) (s:ByteArray) (w:World) (hf:FsA w fb fs) (hs:s.size≤140737488351232) (hv:varB s.data.toList=true) :
  Calls Tryz.prog 83 #[.map (some fb),.string s] w (tBool (unkB fs s) w):=by
 have M:=Lh (misP_any fb fs s w hf hs hv);have V:Hid (∀ W,Below w.heap.size w W→Calls Tryz.prog 128 #[.map (some fb),.string s] W (tBool (hasV fs s) W)):=(Lh fun W hW=>hasV_any fb fs s W (hf.later hW) hs hv);have A:Hid (∀ W,Below w.heap.size w W→Calls Tryz.prog 129 #[.map (some fb),.string s] W fun e w'=>e=.returned (.bool (hasA fs s))∧W=w'):=(Lh fun W hW=>hasA_any fb fs s W (hf.later hW) hs);have E:Hid (unkB fs s=(misP fs s||(!hasV fs s&&!hasA fs s))):=Lh rfl;clear hf hs hv;generalize misP fs s=m at *
 generalize hasV fs s=v at *
 generalize hasA fs s=a at *
 cases m<;>cases v<;>cases a
 all_goals
  go_enter Tryz.func83,Tryz.ntmps83
  go_wp2_with (first
   | (go_at_call 127;((with_reducible refine M.out.mono ?_);rintro e w1 ⟨rfl,hb⟩;have HB:=Lh hb;clear hb))
   | (go_at_call 128;((with_reducible refine (V.out _ HB.out).mono ?_);rintro e w2 ⟨rfl,hb⟩;have HB2:=Lh (HB.out.then_ hb);clear hb))
   | (go_at_call 129;((with_reducible refine (A.out _ HB2.out).mono ?_);rintro e w3 ⟨rfl,rfl⟩)))
  go_ret;exact tBool_mk (by rw [E.out];rfl) (by first | exact HB2.out | exact HB.out)
theorem arrE_any (fb:Nat) (fs:List Fld) (s:ByteArray) (w:World) (hf:FsA w fb fs) (hs:s.size≤140737488351232) :
  Calls Tryz.prog 98 #[.map (some fb),.string s] w fun e w'=>e=.returned (.int .i64 (arrE fs s))∧w=w':=by
 have P:=Lh (hasP_any fb fs s w hf hs);have A:=Lh (hasA_any fb fs s w hf hs);have E:Hid (arrE fs s=if hasP fs s=true then 9 else if hasA fs s=true then 0 else 7):=Lh rfl;clear hf hs;generalize hasP fs s=p at *
 generalize hasA fs s=a at *
 cases p<;>cases a
 all_goals
  go_enter Tryz.func98,Tryz.ntmps98
  go_wp2_with (first
   | (go_at_call 149;((with_reducible refine P.out.mono ?_);rintro e w1 ⟨rfl,rfl⟩))
   | (go_at_call 129;((with_reducible refine A.out.mono ?_);rintro e w2 ⟨rfl,rfl⟩)))
  go_ret;exact⟨by rw [E.out];rfl,rfl⟩
theorem varE_any (fb:Nat) (fs:List Fld) (s:ByteArray) (w:World) (hf:FsA w fb fs) (hs:s.size≤140737488351232) (hv:varB s.data.toList=true) :
  Calls Tryz.prog 99 #[.map (some fb),.string s] w (tInt (varE fs s) w):=by
 have A:=Lh (hasA_any fb fs s w hf hs);have M:=Lh (misP_any fb fs s w hf hs hv);have V:Hid (∀ W,Below w.heap.size w W→Calls Tryz.prog 128 #[.map (some fb),.string s] W (tBool (hasV fs s) W)):=(Lh fun W hW=>hasV_any fb fs s W (hf.later hW) hs hv);have E:Hid (varE fs s=if (hasA fs s||misP fs s)=true then 9 else if hasV fs s=true then 0 else 7):=Lh rfl;have HB0:=Lh (Below.refl w.heap.size w);clear hf hs hv;generalize misP fs s=m at *
 generalize hasV fs s=v at *
 generalize hasA fs s=a at *
 cases a<;>cases m<;>cases v
 all_goals
  go_enter Tryz.func99,Tryz.ntmps99
  go_wp2_with (first
   | (go_at_call 129;((with_reducible refine A.out.mono ?_);rintro e w3 ⟨rfl,rfl⟩))
   | (go_at_call 127;((with_reducible refine M.out.mono ?_);rintro e w1 ⟨rfl,hb⟩;have HB:=Lh hb;clear hb))
   | (go_at_call 128;((with_reducible refine (V.out _ HB.out).mono ?_);rintro e w2 ⟨rfl,hb⟩;have HB2:=Lh (HB.out.then_ hb);clear hb)))
  go_ret;exact ExW.tInt_mk (by rw [E.out];rfl) (by first | exact HB2.out | exact HB.out | exact HB0.out)
end ItW
end Go.Proofs.YtpejflgdehioaaaGreatDoor
