/-
  Laws that the card uses; no conditions beside those that each states (ItConcat ItSet).
-/
import Derived.LoopN
import Derived.Lib.AppendZerosOnto
import Derived.Test.YtpejflgdehioaaaGreatDoorU13
set_option maxRecDepth 100000
set_option maxHeartbeats 16000000
namespace Go.Proofs.YtpejflgdehioaaaGreatDoor
namespace ItW
open Go Go.RowKit NumM LexW LexM ExM ExW ItM
theorem own_block {w:World} {B:Nat} {e:TypeId} {size:Nat} {v:Value} {n:Nat} {xs:List Value} (h:w.ownsRow B e size v n xs):∀ k,v.ownBlock=some k→B≤k:=fun k hk=>(h.lt k hk).1
theorem own_len {w:World} {base:Nat} {e:TypeId} {size n:Nat} {v:Value} {xs:List Value} (h:w.ownsRow base e size v n xs):∃ q c,v=.slice q n c:=by
 rcases h.2 with ⟨rfl,rfl⟩ | ⟨g,cap,cur,rfl,_⟩
 ·exact⟨_,_,rfl⟩
 ·exact⟨_,_,rfl⟩
theorem own_later {w w':World} {B:Nat} {e:TypeId} {size:Nat} {v:Value} {n:Nat} {xs:List Value} (h:w.ownsRow B e size v n xs) (hb:Below w.heap.size w w'):w'.ownsRow B e size v n xs:=by
 obtain⟨hl,h | ⟨g,cap,cur,hv,hB,hg,h1,h2,h3,h4⟩⟩:=h
 ·exact⟨hl,.inl h⟩
 ·exact⟨hl,.inr ⟨g,cap,cur,hv,hB,(hb.block g (Array.getElem?_eq_some_iff.1 hg).1).trans hg,h1,h2,h3,h4⟩⟩
theorem wpList_append_run {P:Program} {w:World} {ops:Array Oper} {rest:List Oper} {o:Oper} {a:Act} {Q:Exit→Act→World→Prop} (hgd:o.guard=none) (s x:Operand) (t tx:TypeId)
  (ho:o.op=.call { callee:=.builtin .append,args:=#[s,x],argTypes:=#[t,tx] }) (sv xv:Value) (hs:a.eval s=sv) (hx:a.eval x=xv) (v':Value) (w':World) (hr:∀ ty,(Builtin.append_ #[t,tx] ty #[sv,xv]).run P w=.ok v' w')
  (h:wpList P ops Q rest (a.put o.dst v') w'):wpList P ops Q (o::rest) a w:=by
 refine (wpList_plain hgd fun K hK=>?_);unfold Oper.wp execOp;simp only [ho,resolve,invoke,builtin,Sem.run_bind,Sem.run_pure,Result.andThen_ok,List.map_toArray,List.map_cons,List.map_nil,hs,hx,hr];exact hK _ _ h
theorem run_append_nil {P:Program} {w:World} (t ty:TypeId) (base:Nat) (e:TypeId) (i:TypeInfo) (ht:P.underlying t=some (.slice e)) (hi:P.info? e=some i) {v:Value} {n c:Nat} {xs:List Value} (hown:w.ownsRow base e i.size v n xs) :
  (Builtin.append_ #[t,t] ty #[v,.slice none 0 c]).run P w=.ok v w:=by
 obtain⟨_,⟨hv,hn⟩ | ⟨g,cap,cur,hv,hB,hg,h1,h2,h3,h4⟩⟩:=hown
 ·rw [hv];simp [Builtin.append_,Builtin.lenOf,run_underlying ht,sizeOf,typeInfo,hi,run_firstCells_none]
 ·rw [hv];exact run_append_room_src w t t ty e i ht hi g 0 n cap (.slice none 0 c) 0 [] (Src.ofNil w ht c) (by omega) (fun j hj=>by simp at hj) (fun j hj=>by simp at hj)
theorem own_StA {W:World} {B:Nat} {v:Value} {l:List ByteArray} (h:W.ownsRow B 9 1 v l.length (l.map Value.string)) (hl:l.length*16≤140737488351232) (hs:∀ s∈l,s.size≤140737488351232):StA W.heap.size W v l:=by
 obtain⟨_,⟨hv,hn⟩ | ⟨g,cap,cur,hv,hB,hg,hle,_,_,htake⟩⟩:=h
 ·exact⟨none,0,by rw [hv,hn],hl,by omega,hs,fun x=>by omega⟩
 ·refine⟨some ⟨g,0,none⟩,cap,hv,hl,hle,hs,fun _=>⟨g,0,rfl,(Array.getElem?_eq_some_iff.1 hg).1,fun i s hi=>?_⟩⟩;rw [cell_of_row W g _ cur 9 (0,0) hg,Nat.zero_add];have hl:=(List.getElem?_eq_some_iff.1 hi).1;have:(cur.toList.take (l.length*1))[i]? = some (.string s):=(by rw [htake,List.getElem?_map,hi];rfl);rw [List.getElem?_take,if_pos (by omega)] at this
  simpa using this
theorem grow_any (n:Nat) (w:World) (hn:n≤1000000) :
  Calls Tryz.prog 113 #[.slice none 0 0,.int .i64 n] w fun e w'=>∃ v,e=.returned v∧w'.ownsRow w.heap.size 9 1 v 0 []∧Below w.heap.size w w':=by
 obtain⟨i0,hi,hz0,hz1,hz2⟩:=info_parts infoS;rcases Nat.eq_zero_or_pos n with h | h
 ·subst h
  go_enter Tryz.func113,Tryz.ntmps113
  go_wp2;go_ret;exact⟨_,rfl,World.ownsRow_nil _ _ _ _,Below.refl _ _⟩
 ·have hrz:∀ ty,(Builtin.append_ #[27,3] ty #[.slice none 0 0,.int .i64 (n:Int)]).run Tryz.prog w=_:=(fun ty=>Lib.run_append_grow_zeros w 27 3 ty 9 i0 (.string ⟨#[]⟩) .i64 .i64 Tryz.underlying27 Tryz.underlying3 hi hz0 none 0 0 [] (run_firstCells_none w.drew i0.size 0 0 0) n h (by omega) (by omega) (by omega) (by rw [hz2];omega) (growslice_fits (by omega) (by rw [hz2];omega)));simp only [Nat.zero_add] at hrz;obtain⟨G,hG⟩:∃ G,grownCap w n 0 9=G:=⟨_,rfl⟩;have hge:n≤G:=(by rw [←hG];exact grownCap_ge _ _ _ _);have hle:G≤9223372036854775807:=by
   have:=grownCap_le_maxLen w n 0 9 (by unfold maxLen;omega);rw [hG] at this;unfold maxLen at this;omega
  rw [hG] at hrz;obtain⟨C,hC⟩:∃ C,(([]:List Value).toArray++Builtin.zeroCells (Value.string ⟨#[]⟩).cells n++Builtin.zeroCells (Value.string ⟨#[]⟩).cells (G - n))=C:=⟨_,rfl⟩;have hCs:C.size=G*1:=by
   rw [←hC];simp only [Array.size_append,size_zeroCells];simp [Value.cells];omega
  rw [hC] at hrz;have HO:Hid ((w.drew.alloc (.cells C 9)).ownsRow w.heap.size 9 1 (.slice (some ⟨w.drew.heap.size,0,none⟩) 0 G) 0 []):=Lh (World.ownsRow_made w.drew C G (Nat.le_refl _) (by unfold maxLen;omega) hCs);have HB:Hid (Below w.heap.size w (w.drew.alloc (.cells C 9))):=Lh ((Below.refl _ _).drew.alloc (Nat.le_refl _) _);clear hG hC hCs hi hz0 hz1 hz2;have HR:=Lh hrz;clear hrz
  go_enter Tryz.func113,Tryz.ntmps113
  go_wp2_with (at_builtin;go_loud (refine wpList_append_run rfl _ _ 27 3 rfl (.slice none 0 0) (.int .i64 (n:Int)) rfl rfl _ _ HR.out ?_))
  go_ret;exact⟨_,rfl,HO.out,HB.out⟩
def smS (a b:Nat):Nat→Nat
 | 0=>0
 | 1=>a
 | _=>a+b
def cxS (f g:List ByteArray):Nat→List Value
 | 0=>[]
 | 1=>f.map Value.string
 | _=>f.map Value.string++g.map Value.string
theorem StA.news {N:Nat} {w:World} {ad:Addr} {n c:Nat} {l:List ByteArray} (h:StA N w (.slice (some ad) n c) l):n=l.length∧∀ W,Below N w W→∀ j u,(l.map Value.string)[j]? = some u→W.cell? (ad.add j)=some u:=by
 obtain⟨p,cap,e,_,_,_,hp⟩:=h;simp only [Value.slice.injEq] at e;obtain⟨rfl,rfl,rfl⟩:=e;refine⟨rfl,fun W hW j u hu=>?_⟩;rw [List.getElem?_map] at hu;obtain⟨s,hs,rfl⟩:=Option.map_eq_some_iff.1 hu;have hj:=(List.getElem?_eq_some_iff.1 hs).1;obtain⟨b,off,e,hb,hc⟩:=hp (by omega);cases e;have:=low_cells hW _ _ hb _ (hc j s hs);rcases Nat.eq_zero_or_pos j with rfl | h0
 ·simpa [Addr.add] using this
 ·have hj0:j≠0:=by omega
  simpa [Addr.add,hj0] using this
theorem StA.none_len {N:Nat} {w:World} {n c:Nat} {l:List ByteArray} (h:StA N w (.slice none n c) l):n=0∧l=[]:=by
 obtain⟨p,cap,e,_,_,_,hp⟩:=h;simp only [Value.slice.injEq] at e;obtain⟨rfl,rfl,rfl⟩:=e;rcases Nat.eq_zero_or_pos l.length with h | h
 ·exact⟨h,List.length_eq_zero_iff.1 h⟩
 ·obtain⟨_,_,e,_⟩:=hp h;cases e
theorem one_str (l:List ByteArray):∀ u∈l.map Value.string,u.oneCell'=true:=fun u hu=>by
 obtain⟨s,_,rfl⟩:=List.mem_map.1 hu;rfl
theorem concatS_any (f g:List ByteArray) (v1 v2:Value) (a N:Nat) (w:World) (hA:Blk w a [v1,v2]) (h1:StA N w v1 f) (h2:StA N w v2 g) (hN:N≤w.heap.size) (hl:f.length+g.length≤100000) :
  Calls Tryz.prog 68 #[.slice (some ⟨a,0,none⟩) 2 2] w fun e w'=>∃ v,e=.returned v∧w'.ownsRow w.heap.size 9 1 v (f++g).length ((f++g).map Value.string)∧Below w.heap.size w w':=by
 obtain⟨i0,hi,hz0,hz1,hz2⟩:=info_parts infoS;have s1:∃ p c,v1=.slice p f.length c:=(by obtain⟨p,c,e,_⟩:=h1;exact⟨p,c,e⟩);have s2:∃ p c,v2=.slice p g.length c:=(by obtain⟨p,c,e,_⟩:=h2;exact⟨p,c,e⟩);obtain⟨p1,c1,rfl⟩:=s1;obtain⟨p2,c2,rfl⟩:=s2;obtain⟨n1,hn1⟩:∃ n,f.length=n:=⟨_,rfl⟩;obtain⟨n2,hn2⟩:∃ n,g.length=n:=⟨_,rfl⟩;have HN1:=Lh hn1;have HN2:=Lh hn2;rw [hn1] at h1;rw [hn2] at h2;rw [hn1,hn2] at hA hl;have R1:=Lh h1;have R2:=Lh h2;have HA:=Lh hA;have q0:=hA.c 0 _ rfl;have q1:=hA.c 1 _ rfl;have hlt:=hA.lt;clear hn1 hn2 h1 h2 hA
 go_enter Tryz.func68,Tryz.ntmps68
 go_wp2;go_loop [3,11] (fun s i=>∃ j:Nat,j≤2∧i=.int .i64 j∧s=.int .i64 (smS n1 n2 j)) (fun _ i=>2 - (intOf i).toNat)
 case atStart=>exact⟨0,Nat.zero_le _,rfl,rfl⟩
 case round =>
  obtain⟨j,hj,rfl,rfl⟩:=hrel;obtain rfl | rfl | rfl:j=0∨j=1∨j=2:=by omega
  ·have e0:smS n1 n2 0=0:=rfl;rw [e0];clear e0;go_wp2;go_round
   case rel=>exact⟨1,by omega,rfl,by simp [smS]⟩
   case measure=>simp [intOf]
  ·have e0:smS n1 n2 1=n1:=rfl;rw [e0];clear e0;go_wp2;go_round
   case rel=>exact⟨2,by omega,rfl,by simp [smS]⟩
   case measure=>simp [intOf]
  ·have e0:smS n1 n2 2=n1+n2:=rfl;rw [e0];clear e0;have GC:=Lh (grow_any (n1+n2) w (by omega));rw [show ((n1+n2:Nat):Int)=(n1:Int)+n2 by omega] at GC ⊢;go_wp2_with (go_at_call 113;((with_reducible refine GC.out.mono ?_);rintro e w2 ⟨v2,rfl,ho,hb⟩;have HO:=Lh ho;have HB:=Lh hb;have A2:=Lh (HA.out.stay hb);clear ho hb q0 q1))
   go_loopw [6,27] (fun u i wr=>∃ j:Nat,j≤2∧i=.int .i64 j∧Hid (wr.ownsRow w.heap.size 9 1 u (smS n1 n2 j) (cxS f g j))∧Hid (Below w.heap.size w wr)) (fun _ i _=>2 - (intOf i).toNat)
   case atStart=>exact⟨0,Nat.zero_le _,rfl,HO,HB⟩
   case round =>
    obtain⟨j,hj,rfl,OW,BW⟩:=hrel;have AW:=HA.out.stay BW.out;have q0:=AW.c 0 _ rfl;have q1:=AW.c 1 _ rfl;clear AW;obtain⟨qp,qc,rfl⟩:=own_len OW.out;obtain rfl | rfl | rfl:j=0∨j=1∨j=2:=by omega
    ·have O0:Hid (wr.ownsRow w.heap.size 9 1 (.slice qp 0 qc) 0 []):=OW;have e0:smS n1 n2 0=0:=rfl;rw [e0];clear e0 OW;cases p1 with
     | none =>
      obtain⟨hk,hk2⟩:=R1.out.none_len;have RN:Hid (∀ ty,(Builtin.append_ #[27,27] ty #[.slice qp 0 qc,.slice none n1 c1]).run Tryz.prog wr=.ok (.slice qp 0 qc) wr):=Lh (fun ty=>by rw [hk];exact run_append_nil 27 ty w.heap.size 9 i0 Tryz.underlying27 hi (by rw [hz1];exact O0.out));have O1:Hid (wr.ownsRow w.heap.size 9 1 (.slice qp 0 qc) n1 (f.map Value.string)):=Lh (by rw [hk,hk2];exact O0.out);clear hk hk2;go_wp2_with (at_builtin;go_loud (refine wpList_append_run rfl _ _ 27 27 rfl _ _ rfl rfl _ _ RN.out ?_))
      go_roundw
      case rel=>exact⟨1,by omega,rfl,O1,BW⟩
      case measure=>simp [intOf]
     | some ad =>
      have NS:=R1.out.news.2 wr (BW.out.mono hN);have N1:=one_str f;have hfl:(f.map Value.string).length=n1*1:=(by rw [List.length_map,HN1.out,Nat.mul_one]);have HNS:=Lh NS;clear NS;go_wp2_with (at_builtin;go_loud (refine wpList_append_own _ rfl _ _ 27 rfl w.heap.size 9 i0 (.string ⟨#[]⟩) 1 16 Tryz.underlying27 hi hz0 hz1 hz2 rfl (by decide) _ 0 [] rfl O0.out ad n1 c1 (f.map Value.string) rfl hfl HNS.out N1 (by unfold maxLen;omega) (by omega) BW.out.size ?_);go_loud (intro v' w3 hown' hgrow _;have O3:=Lh hown';have B3:=Lh (BW.out.grown hgrow BW.out.size (own_block O0.out));clear hown' hgrow))
      go_roundw
      case rel=>exact⟨1,by omega,rfl,Lh (by have:=O3.out;rw [Nat.zero_add,List.nil_append] at this;exact this),B3⟩
      case measure=>simp [intOf]
    ·have O0:Hid (wr.ownsRow w.heap.size 9 1 (.slice qp n1 qc) n1 (f.map Value.string)):=OW;have e0:smS n1 n2 1=n1:=rfl;rw [e0];clear e0 OW;cases p2 with
     | none =>
      obtain⟨hk,hk2⟩:=R2.out.none_len;have RN:Hid (∀ ty,(Builtin.append_ #[27,27] ty #[.slice qp n1 qc,.slice none n2 c2]).run Tryz.prog wr=.ok (.slice qp n1 qc) wr):=Lh (fun ty=>by rw [hk];exact run_append_nil 27 ty w.heap.size 9 i0 Tryz.underlying27 hi (by rw [hz1];exact O0.out));have O1:Hid (wr.ownsRow w.heap.size 9 1 (.slice qp n1 qc) (n1+n2) (f.map Value.string++g.map Value.string)):=Lh (by rw [hk,hk2,Nat.add_zero,List.map_nil,List.append_nil];exact O0.out);clear hk hk2;go_wp2_with (at_builtin;go_loud (refine wpList_append_run rfl _ _ 27 27 rfl _ _ rfl rfl _ _ RN.out ?_))
      go_roundw
      case rel=>exact⟨2,by omega,rfl,O1,BW⟩
      case measure=>simp [intOf]
     | some ad =>
      have NS:=R2.out.news.2 wr (BW.out.mono hN);have N1:=one_str g;have hfl:(g.map Value.string).length=n2*1:=(by rw [List.length_map,HN2.out,Nat.mul_one]);have HNS:=Lh NS;clear NS;go_wp2_with (at_builtin;go_loud (refine wpList_append_own _ rfl _ _ 27 rfl w.heap.size 9 i0 (.string ⟨#[]⟩) 1 16 Tryz.underlying27 hi hz0 hz1 hz2 rfl (by decide) _ n1 (f.map Value.string) rfl O0.out ad n2 c2 (g.map Value.string) rfl hfl HNS.out N1 (by unfold maxLen;omega) (by omega) BW.out.size ?_);go_loud (intro v' w3 hown' hgrow _;have O3:=Lh hown';have B3:=Lh (BW.out.grown hgrow BW.out.size (own_block O0.out));clear hown' hgrow))
      go_roundw
      case rel=>exact⟨2,by omega,rfl,O3,B3⟩
      case measure=>simp [intOf]
    ·have O0:Hid (wr.ownsRow w.heap.size 9 1 (.slice qp (n1+n2) qc) (n1+n2) (f.map Value.string++g.map Value.string)):=OW;have e0:smS n1 n2 2=n1+n2:=rfl;rw [e0];clear e0 OW q0 q1;go_wp2;go_ret;exact⟨_,rfl,by rw [List.length_append,HN1.out,HN2.out,List.map_append];exact O0.out,BW.out⟩
def StS (S:Nat→Prop) (w:World) (v:Value) (l:List ByteArray):Prop :=
 ∃ p cap,v=.slice p l.length cap∧l.length*16≤140737488351232∧l.length≤cap∧(∀ s∈l,s.size≤140737488351232) ∧
  (0<l.length→∃ b off,p=some ⟨b,off,none⟩∧S b∧∀ (i:Nat) (s:ByteArray),l[i]? = some s→w.cell? ⟨b,off+i,none⟩=some (.string s))
def WtS (S:Nat→Prop) (w:World) (v:Value) (l:List Wt):Prop :=
 ∃ p cap,v=.slice p l.length cap∧l.length*32≤140737488351232∧l.length≤cap ∧
  (0<l.length→∃ b off,p=some ⟨b,off,none⟩∧S b∧∀ (i:Nat) (t:Wt),l[i]? = some t→w.cell? ⟨b,off+i*4,none⟩=some (.int .i64 t.lo)∧w.cell? ⟨b,off+i*4+1,none⟩=some (.int .i64 t.hi) ∧
   w.cell? ⟨b,off+i*4+2,none⟩=some (.int .i64 t.wt)∧w.cell? ⟨b,off+i*4+3,none⟩=some (.bool t.ea))
theorem StS.kept {S S':Nat→Prop} {w w':World} (hS:∀ b,S b→S' b) (hk:∀ b o,S b→∀ v,w.cell? ⟨b,o,none⟩=some v→w'.cell? ⟨b,o,none⟩=some v) {v:Value} {l:List ByteArray} (h:StS S w v l):StS S' w' v l:=by
 obtain⟨p,cap,e,h1,h2,h3,h4⟩:=h;exact⟨p,cap,e,h1,h2,h3,fun h0=>by obtain⟨b,off,e,hb,hc⟩:=h4 h0;exact⟨b,off,e,hS b hb,fun i s hi=>hk _ _ hb _ (hc i s hi)⟩⟩
theorem WtS.kept {S S':Nat→Prop} {w w':World} (hS:∀ b,S b→S' b) (hk:∀ b o,S b→∀ v,w.cell? ⟨b,o,none⟩=some v→w'.cell? ⟨b,o,none⟩=some v) {v:Value} {l:List Wt} (h:WtS S w v l):WtS S' w' v l:=by
 obtain⟨p,cap,e,h1,h2,h4⟩:=h;exact⟨p,cap,e,h1,h2,fun h0=>by obtain⟨b,off,e,hb,hc⟩:=h4 h0;exact⟨b,off,e,hS b hb,fun i s hi=>⟨hk _ _ hb _ (hc i s hi).1,hk _ _ hb _ (hc i s hi).2.1,hk _ _ hb _ (hc i s hi).2.2.1,hk _ _ hb _ (hc i s hi).2.2.2⟩⟩⟩
theorem StS.toAt {S:Nat→Prop} {w:World} {N:Nat} (hS:∀ b,S b→b<N) {v:Value} {l:List ByteArray} (h:StS S w v l):StA N w v l:=h.kept (S':=fun b=>b<N) hS (fun _ _ _ _ hv=>hv)
theorem WtS.toAt {S:Nat→Prop} {w:World} {N:Nat} (hS:∀ b,S b→b<N) {v:Value} {l:List Wt} (h:WtS S w v l):WtA N w v l:=h.kept (S':=fun b=>b<N) hS (fun _ _ _ _ hv=>hv)
theorem StS.nil (S:Nat→Prop) (w:World):StS S w (.slice none 0 0) []:=⟨none,0,rfl,by simp,by simp,fun _ h=>(by cases h),fun h=>by simp at h⟩
theorem WtS.nil (S:Nat→Prop) (w:World):WtS S w (.slice none 0 0) []:=⟨none,0,rfl,by simp,by simp,fun h=>by simp at h⟩
abbrev Up (lo:Nat) (w:World):Nat→Prop:=fun b=>lo≤b∧b<w.heap.size
theorem flat_len {α:Type} {f:α→List Value} {k:Nat} (hf:∀ a,(f a).length=k) (l:List α):(l.flatMap f).length=l.length*k:=by
 induction l with
 | nil=>simp
 | cons a r ih=>rw [List.flatMap_cons,List.length_append,hf,ih,List.length_cons,Nat.succ_mul];omega
theorem flat_at {α:Type} {f:α→List Value} {k:Nat} (hf:∀ a,(f a).length=k) (l:List α) (j r:Nat) (a:α) (h:l[j]? = some a) (hr:r<k):(l.flatMap f)[j*k+r]? = (f a)[r]?:=by
 induction l generalizing j with
 | nil=>simp at h
 | cons b q ih =>
  rw [List.flatMap_cons];cases j with
  | zero =>
   obtain rfl:b=a:=(by simpa using h);rw [Nat.zero_mul,Nat.zero_add,List.getElem?_append_left (by rw [hf];exact hr)]
  | succ j =>
   rw [List.getElem?_append_right (by rw [hf,Nat.succ_mul];omega),hf,show (j+1)*k+r - k=j*k+r by rw [Nat.succ_mul];omega];exact ih j (by simpa using h)
def wtC (t:Wt):List Value:=[.int .i64 t.lo,.int .i64 t.hi,.int .i64 t.wt,.bool t.ea]
theorem wtC_len (t:Wt):(wtC t).length=4:=rfl
theorem one_wt (l:List Wt):∀ u∈l.flatMap wtC,u.oneCell'=true:=fun u hu=>by
 obtain⟨t,_,h⟩:=List.mem_flatMap.1 hu;simp only [wtC,List.mem_cons,List.not_mem_nil,or_false] at h;rcases h with rfl | rfl | rfl | rfl<;>rfl
theorem add_at (b off j:Nat):(⟨b,off,none⟩:Addr).add j=⟨b,off+j,none⟩:=by
 unfold Addr.add;by_cases h:j=0
 ·subst h;simp
 ·simp [h]
theorem WtA.news {N:Nat} {w:World} {ad:Addr} {n c:Nat} {l:List Wt} (h:WtA N w (.slice (some ad) n c) l):n=l.length∧∀ W,Below N w W→∀ j u,(l.flatMap wtC)[j]? = some u→W.cell? (ad.add j)=some u:=by
 obtain⟨p,cap,e,_,_,hp⟩:=h;simp only [Value.slice.injEq] at e;obtain⟨rfl,rfl,rfl⟩:=e;refine⟨rfl,fun W hW j u hu=>?_⟩;have hj:=(List.getElem?_eq_some_iff.1 hu).1;rw [flat_len wtC_len] at hj;obtain⟨b,off,e,hb,hc⟩:=hp (by omega);cases e;obtain⟨x,hx⟩:∃ x,l[j / 4]? = some x:=⟨_,List.getElem?_eq_getElem (by omega)⟩;have q:=flat_at wtC_len l (j / 4) (j % 4) x hx (by omega);rw [show j / 4*4+j % 4=j by omega,hu] at q;obtain⟨c0,c1,c2,c3⟩:=hc _ _ hx;rw [add_at,show off+j=off+j / 4*4+j % 4 by omega];have hr:j % 4<4:=(by omega);generalize j % 4=r at *
 rw [q];match r,hr with
 | 0,_=>exact low_cells hW _ _ hb _ c0
 | 1,_=>exact low_cells hW _ _ hb _ c1
 | 2,_=>exact low_cells hW _ _ hb _ c2
 | 3,_=>exact low_cells hW _ _ hb _ c3
theorem WtA.none_len {N:Nat} {w:World} {n c:Nat} {l:List Wt} (h:WtA N w (.slice none n c) l):n=0∧l=[]:=by
 obtain⟨p,cap,e,_,_,hp⟩:=h;simp only [Value.slice.injEq] at e;obtain⟨rfl,rfl,rfl⟩:=e;rcases Nat.eq_zero_or_pos l.length with h | h
 ·exact⟨h,List.length_eq_zero_iff.1 h⟩
 ·obtain⟨_,_,e,_⟩:=hp h;cases e
theorem own_at {W:World} {B k n:Nat} {t:TypeId} {v:Value} {xs:List Value} (h:W.ownsRow B t k v n xs) (hx:xs.length=n*k):∃ p cap,v=.slice p n cap∧n≤cap∧(0<n→∃ g,p=some ⟨g,0,none⟩∧(B≤g∧g<W.heap.size)∧v.ownBlock=some g∧∀ (o:Nat) (u:Value),xs[o]? = some u→W.cell? ⟨g,o,none⟩=some u):=by
 obtain⟨_,⟨hv,hn⟩ | ⟨g,cap,cur,hv,hB,hg,hle,_,_,htake⟩⟩:=h
 ·exact⟨none,0,by rw [hv,hn],by omega,fun x=>by omega⟩
 ·refine⟨some ⟨g,0,none⟩,cap,hv,hle,fun _=>⟨g,rfl,⟨hB,(Array.getElem?_eq_some_iff.1 hg).1⟩,by rw [hv];rfl,fun o u hu=>?_⟩⟩;rw [cell_of_row W g _ cur t (0,0) hg];have hl:=(List.getElem?_eq_some_iff.1 hu).1;rw [hx] at hl;have:(cur.toList.take (n*k))[o]? = some u:=(by rw [htake,hu]);rw [List.getElem?_take,if_pos hl] at this
  simpa using this
theorem own_StS {W:World} {B:Nat} {v:Value} {l:List ByteArray} (h:W.ownsRow B 9 1 v l.length (l.map Value.string)) (hl:l.length*16≤140737488351232) (hs:∀ s∈l,s.size≤140737488351232):StS (Up B W) W v l:=by
 obtain⟨p,cap,rfl,hc,h0⟩:=own_at h (by simp);refine⟨p,cap,rfl,hl,hc,hs,fun hp=>?_⟩;obtain⟨g,rfl,hb,_,hcell⟩:=h0 hp;exact⟨g,0,rfl,hb,fun i s hi=>by rw [Nat.zero_add];exact hcell i _ (by rw [List.getElem?_map,hi];rfl)⟩
theorem own_WtS {W:World} {B:Nat} {v:Value} {l:List Wt} (h:W.ownsRow B 130 4 v l.length (l.flatMap wtC)) (hl:l.length*32≤140737488351232):WtS (Up B W) W v l:=by
 obtain⟨p,cap,rfl,hc,h0⟩:=own_at h (flat_len wtC_len l);refine⟨p,cap,rfl,hl,hc,fun hp=>?_⟩;obtain⟨g,rfl,hb,_,hcell⟩:=h0 hp;refine⟨g,0,rfl,hb,fun i t hi=>?_⟩;rw [Nat.zero_add];have q:=(fun r hr=>flat_at wtC_len l i r t hi hr);exact⟨hcell _ _ (q 0 (by decide)),hcell _ _ (q 1 (by decide)),hcell _ _ (q 2 (by decide)),hcell _ _ (q 3 (by decide))⟩
def tSt (l:List ByteArray) (w:World) (e:Ending) (w':World):Prop:=∃ v,e=.returned v∧StS (Up w.heap.size w') w' v l∧Below w.heap.size w w'
def tWt (l:List Wt) (w:World) (e:Ending) (w':World):Prop:=∃ v,e=.returned v∧WtS (Up w.heap.size w') w' v l∧Below w.heap.size w w'
theorem infoWt:(Tryz.prog.info? 130).map (fun i=>(i.zero,i.size,i.bytes))=some (some (.agg #[.int .i64 0,.int .i64 0,.int .i64 0,.bool false]),4,32):=by kernel_rfl
theorem cloneSt_any (l:List ByteArray) (v:Value) (N:Nat) (w:World) (h:StA N w v l) (hN:N≤w.heap.size) :
  Calls Tryz.prog 172 #[v] w (tSt l w):=by
 obtain⟨i0,hi,hz0,hz1,hz2⟩:=info_parts infoS;have h2:=h;obtain⟨p,cap,rfl,hl,hc,hs,_⟩:=h;have HS:=Lh hs;have HR:=Lh h2;have HL:=Lh hl;obtain⟨K,hK⟩:∃ K,l.length=K:=⟨_,rfl⟩;have HK:=Lh hK;rw [hK] at hl h2 ⊢;have hk:K≤140737488351232:=(by omega);cases p with
 | none =>
  obtain⟨h1,h3⟩:=h2.none_len;have H3:=Lh h3;have he:∀ W,(binOp .eql 27 (.slice none K cap) (.slice none 0 0)).run Tryz.prog W=.ok (.bool true) W:=(fun _=>rfl);clear h1 h3 hK h2 hs hc
  go_enter Tryz.func172,Tryz.ntmps172
  go_wp2;go_ret;exact⟨_,rfl,by rw [H3.out];exact StS.nil _ _,Below.refl _ _⟩
 | some ad =>
  have HNS:=Lh h2.news.2;have N1:=Lh (one_str l);have hfl:Hid ((l.map Value.string).length=K*1):=Lh (by rw [List.length_map,hK,Nat.mul_one]);have HB1:Hid (Below w.heap.size w (w.alloc (.cells #[] 9))):=Lh (ba w _);have HO:Hid ((w.alloc (.cells #[] 9)).ownsRow w.heap.size 9 1 (.slice (some ⟨w.heap.size,0,none⟩) 0 0) 0 []):=Lh ⟨rfl,.inr ⟨w.heap.size,0,#[],rfl,Nat.le_refl _,heap_alloc_new _ _,Nat.le_refl _,Nat.zero_le _,rfl,rfl⟩⟩;have he:∀ W,(binOp .eql 27 (.slice (some ad) K cap) (.slice none 0 0)).run Tryz.prog W=.ok (.bool false) W:=(fun _=>rfl);clear hK h2 hs hc
  go_enter Tryz.func172,Tryz.ntmps172
  go_wp2_with (at_builtin;go_loud (refine wpList_append_own _ rfl _ _ 27 rfl w.heap.size 9 i0 (.string ⟨#[]⟩) 1 16 Tryz.underlying27 hi hz0 hz1 hz2 rfl (by decide) _ 0 [] rfl HO.out ad K cap (l.map Value.string) rfl hfl.out (HNS.out _ (HB1.out.mono hN)) N1.out (by unfold maxLen;omega) (by omega) (by simp) ?_);go_loud (intro v' w2 hown' hgrow _;have HO2:=Lh hown';have HG2:=Lh hgrow;clear hown' hgrow))
  go_ret;have HB2:Below w.heap.size w w2:=HB1.out.grown HG2.out (by simp) (fun k e=>Nat.le_of_eq (by have e':(Value.slice (some ⟨w.heap.size,0,none⟩) 0 0).ownBlock=some k:=e;simpa [Value.ownBlock] using e'));have hown':=HO2.out;rw [Nat.zero_add,List.nil_append] at hown';exact⟨_,rfl,own_StS (by rw [HK.out];exact hown') HL.out HS.out,HB2⟩
theorem cloneWt_any (l:List Wt) (v:Value) (N:Nat) (w:World) (h:WtA N w v l) (hN:N≤w.heap.size) :
  Calls Tryz.prog 171 #[v] w (tWt l w):=by
 obtain⟨i0,hi,hz0,hz1,hz2⟩:=info_parts infoWt;have h2:=h;obtain⟨p,cap,rfl,hl,hc,_⟩:=h;have HR:=Lh h2;have HL:=Lh hl;obtain⟨K,hK⟩:∃ K,l.length=K:=⟨_,rfl⟩;have HK:=Lh hK;rw [hK] at hl h2 ⊢;have hk:K≤140737488351232:=(by omega);cases p with
 | none =>
  obtain⟨h1,h3⟩:=h2.none_len;have H3:=Lh h3;have he:∀ W,(binOp .eql 53 (.slice none K cap) (.slice none 0 0)).run Tryz.prog W=.ok (.bool true) W:=(fun _=>rfl);clear h1 h3 hK h2 hc
  go_enter Tryz.func171,Tryz.ntmps171
  go_wp2;go_ret;exact⟨_,rfl,by rw [H3.out];exact WtS.nil _ _,Below.refl _ _⟩
 | some ad =>
  have HNS:=Lh h2.news.2;have N1:=Lh (one_wt l);have hfl:Hid ((l.flatMap wtC).length=K*4):=Lh (by rw [flat_len wtC_len,hK]);have HB1:Hid (Below w.heap.size w (w.alloc (.cells #[] 130))):=Lh (ba w _);have HO:Hid ((w.alloc (.cells #[] 130)).ownsRow w.heap.size 130 4 (.slice (some ⟨w.heap.size,0,none⟩) 0 0) 0 []):=Lh ⟨rfl,.inr ⟨w.heap.size,0,#[],rfl,Nat.le_refl _,heap_alloc_new _ _,Nat.le_refl _,Nat.zero_le _,rfl,rfl⟩⟩;have he:∀ W,(binOp .eql 53 (.slice (some ad) K cap) (.slice none 0 0)).run Tryz.prog W=.ok (.bool false) W:=(fun _=>rfl);clear hK h2 hc
  go_enter Tryz.func171,Tryz.ntmps171
  go_wp2_with (at_builtin;go_loud (refine wpList_append_own _ rfl _ _ 53 rfl w.heap.size 130 i0 (.agg #[.int .i64 0,.int .i64 0,.int .i64 0,.bool false]) 4 32 Tryz.underlying53 hi hz0 hz1 hz2 rfl (by decide) _ 0 [] rfl HO.out ad K cap (l.flatMap wtC) rfl hfl.out (HNS.out _ (HB1.out.mono hN)) N1.out (by unfold maxLen;omega) (by omega) (by simp) ?_);go_loud (intro v' w2 hown' hgrow _;have HO2:=Lh hown';have HG2:=Lh hgrow;clear hown' hgrow))
  go_ret;have HB2:Below w.heap.size w w2:=HB1.out.grown HG2.out (by simp) (fun k e=>Nat.le_of_eq (by have e':(Value.slice (some ⟨w.heap.size,0,none⟩) 0 0).ownBlock=some k:=e;simpa [Value.ownBlock] using e'));have hown':=HO2.out;rw [Nat.zero_add,List.nil_append] at hown';exact⟨_,rfl,own_WtS (by rw [HK.out];exact hown') HL.out,HB2⟩
end ItW
end Go.Proofs.YtpejflgdehioaaaGreatDoor
