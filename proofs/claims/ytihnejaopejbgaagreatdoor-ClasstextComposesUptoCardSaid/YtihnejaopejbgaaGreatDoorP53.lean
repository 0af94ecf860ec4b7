/-
  Laws that the card uses; no conditions beside those that each states (CtClass CtItM CtSmall CtApp CtCompM CtLawC).
-/
import Derived.Deep.AppendSrc
import Derived.Test.YtihnejaopejbgaaGreatDoorP04
import Derived.Test.YtihnejaopejbgaaGreatDoorP05
import Derived.Test.YtihnejaopejbgaaGreatDoorP41
import Derived.Test.YtihnejaopejbgaaGreatDoorP50
set_option maxRecDepth 100000
set_option maxHeartbeats 16000000
namespace Go.Proofs.YtihnejaopejbgaaGreatDoor
namespace CtM
open Go NumM LexM ExM EtM ItM
open ClM (Fld fieldE okF maxI)
theorem bl_succ (k:Nat) (s:List UInt8):bl (k+1)++s=bl 1++(bl k++s):=by
 rw [←List.append_assoc]
 congr 1
theorem li_succ (l:List It):∀ k,liL (k+1) l=(liL k l).map (bl 1++·):=by
 induction l using its_rec with
 | h0=>intro k;rw [liL_nil,liL_nil];rfl
 | h1 x r i1 i2 i3 =>
  intro k;rw [liL_cons,liL_cons,liI_eq,liI_eq,List.map_append,i3 k,List.map_cons,bl_succ k]
  congr 1
  congr 1
  split
  ·rw [List.map_append,i1 (k+1),List.map_append,List.map_cons,List.map_nil,bl_succ k]
   congr 2
   split
   ·rfl
   ·rw [List.map_cons,i2 (k+1)]
  ·split
   ·rw [List.map_append,i1 (k+1),List.map_cons,List.map_nil,bl_succ k]
   ·rfl
def indT:Bool→List UInt8→List UInt8
 | _,[]=>[]
 | f,c::r=>(if f then bl 1 else [])++c::indT (c == 10) r
theorem ind_line:∀ (x:List UInt8) (R:List UInt8),x.all nl=true→indT false (x++10::R)=x++10::indT true R
 | [],R,_=>rfl
 | c::r,R,h=>by
  rw [List.all_cons,Bool.and_eq_true] at h;have:(c == 10)=false:=(by have:=h.1;unfold nl at this;simpa using this);show c::indT (c == 10) (r++10::R)=_;rw [this,ind_line r R h.2];rfl
theorem ind_txL:∀ (L:List (List UInt8)),(∀ x∈L,x.all nl=true)→indT true (txL L)=txL (L.map (bl 1++·))
 | [],_=>rfl
 | a::L,h=>by
  rw [List.map_cons,txL_cons,txL_cons,←ind_txL L fun x hx=>h x (List.mem_cons_of_mem _ hx),List.append_assoc];have ha:=h a List.mem_cons_self;cases a with
  | nil=>rfl
  | cons c r =>
   rw [List.all_cons,Bool.and_eq_true] at ha;have:(c == 10)=false:=(by have:=ha.1;unfold nl at this;simpa using this);show bl 1++c::indT (c == 10) (r++10::txL L)=_;rw [this,ind_line r _ ha.2];rfl
end CtM
namespace CtM
open Go NumM LexM ExM EtM ItM
theorem bzL_app (a b:List It):bzL (a++b)=bzL a+bzL b:=by rw [bzL_sum,bzL_sum,bzL_sum];simp
end CtM
namespace CtL
open Go Go.RowKit Go.Shelf NumM LexW ExW ItW LexM ExM ItM CtM
theorem small_any (l:List It) (v:Value) (N:Nat) (w:World) (h:ItsA N w v l) (hN:N≤w.heap.size) (hz:iszs l≤2000000) :
  Calls Tryz.prog 21 #[v] w fun e w'=>e=.returned (.bool (decide ((iszs l:Int)≤64)))∧∃ m,w'=w.drewN m:=by
 have SC:=Lh (sizeR_any l v N w h hN hz);obtain⟨p,cap,_,rfl,_⟩:=h.form;clear h hz;generalize iszs l=z at *
 go_enter Tryz.func21,Tryz.ntmps21
 go_wp2_with (go_at_call 38;((with_reducible refine SC.out.mono ?_);rintro e w2 ⟨rfl,m,rfl⟩))
 go_ret;exact⟨rfl,_,rfl⟩
end CtL
namespace CtL
open Go Go.RowKit NumM LexW ExW ItW LexM ExM ItM CtM
theorem infoItem:(Tryz.prog.info? 53).map (fun i=>(i.zero,i.size,i.bytes))=some (some (.agg #[.int .i64 0,.int .i64 0,.int .i64 0,.string ⟨#[]⟩,.slice none 0 0,.string ⟨#[]⟩,.string ⟨#[]⟩,.slice none 0 0,.slice none 0 0,.slice none 0 0,.slice none 0 0,.slice none 0 0]),12,216):=by kernel_rfl
abbrev itZero:Value:=.agg #[.int .i64 0,.int .i64 0,.int .i64 0,.string ⟨#[]⟩,.slice none 0 0,.string ⟨#[]⟩,.string ⟨#[]⟩,.slice none 0 0,.slice none 0 0,.slice none 0 0,.slice none 0 0,.slice none 0 0]
theorem addA (b off j:Nat):(⟨b,off,none⟩:Addr).add j=⟨b,off+j,none⟩:=by
 unfold Addr.add;split
 ·rename_i h;subst h;rfl
 ·rfl
theorem append_none {P:Program} {w:World} (t ty:TypeId) (base:Nat) (e:TypeId) (i:TypeInfo) (ht:P.underlying t=some (.slice e)) (hi:P.info? e=some i) {v:Value} {n c:Nat} {xs:List Value} (hown:w.ownsRow base e i.size v n xs) :
  (Builtin.append_ #[t,t] ty #[v,.slice none 0 c]).run P w=.ok v w:=by
 obtain⟨_,⟨hv,hn⟩ | ⟨g,cap,cur,hv,hB,hg,h1,h2,h3,h4⟩⟩:=hown
 ·rw [hv];simp [Builtin.append_,Builtin.lenOf,run_underlying ht,sizeOf,typeInfo,hi,run_firstCells_none]
 ·rw [hv];exact run_append_room_src w t t ty e i ht hi g 0 n cap (.slice none 0 c) 0 [] (Src.ofNil w ht c) (by omega) (fun j hj=>by simp at hj) (fun j hj=>by simp at hj)
def itC (V:Nat→Value) (x:It):List Value:=ics x.kd x.e.op x.e.n x.e.nm (V 4) x.nm x.ix (V 7) (V 8) (V 9) (V 10) (V 11)
def itsC (V:Nat→Nat→Value):Nat→List It→List Value
 | _,[]=>[]
 | s,x::r=>itC (V s) x++itsC V (s+1) r
theorem itC_len (V:Nat→Value) (x:It):(itC V x).length=12:=rfl
theorem itsC_len (V:Nat→Nat→Value):∀ (l:List It) (s:Nat),(itsC V s l).length=l.length*12
 | [],_=>by simp [itsC]
 | x::r,s=>by rw [itsC,List.length_append,itC_len,itsC_len V r (s+1),List.length_cons];omega
theorem itsC_get (V:Nat→Nat→Value):∀ (l:List It) (s i:Nat) (x:It) (j:Nat),l[i]? = some x→j<12→(itsC V s l)[i*12+j]? = (itC (V (s+i)) x)[j]?
 | [],_,_,_,_,h,_=>by simp at h
 | y::r,s,0,x,j,h,hj=>by
  obtain rfl:y=x:=(by simpa using h);rw [itsC,List.getElem?_append_left (by rw [itC_len];omega),Nat.zero_mul,Nat.zero_add,Nat.add_zero]
 | y::r,s,i+1,x,j,h,hj=>by
  rw [itsC,List.getElem?_append_right (by rw [itC_len];omega),itC_len,show (i+1)*12+j - 12=i*12+j by omega,itsC_get V r (s+1) i x j (by simpa using h) hj,show s+1+i=s+(i+1) by omega]
theorem itsC_one {N:Nat} {w:World} (V:Nat→Nat→Value):∀ (l:List It) (s:Nat),(∀ (i:Nat) (x:It),l[i]? = some x→IV N w (V (s+i) 4) (V (s+i) 7) (V (s+i) 8) (V (s+i) 9) (V (s+i) 10) (V (s+i) 11) x)→∀ u∈itsC V s l,u.oneCell'=true
 | [],_,_,u,hu=>by simp [itsC] at hu
 | x::r,s,h,u,hu=>by
  rw [itsC] at hu;rcases List.mem_append.1 hu with hu | hu
  ·obtain⟨p4,k4,p7,k7,p8,k8,p9,k9,p10,k10,p11,k11,e4,e7,e8,e9,e10,e11⟩:=(h 0 x rfl).slices;rw [Nat.add_zero] at e4 e7 e8 e9 e10 e11;simp only [itC,ics,e4,e7,e8,e9,e10,e11,List.mem_cons,List.not_mem_nil,or_false] at hu;rcases hu with rfl | rfl | rfl | rfl | rfl | rfl | rfl | rfl | rfl | rfl | rfl | rfl<;>rfl
  ·exact itsC_one V r (s+1) (fun i y hy=>by
    have:=h (i+1) y (by simpa using hy)
    rwa [show s+(i+1)=s+1+i by omega] at this) u hu
theorem row_cells {N:Nat} {w:World} {p:Option Addr} {cap:Nat} {V:Nat→Nat→Value} {l:List It} (h:RowI N w p cap V l) {a:Addr} (hp:p=some a):∀ j u,(itsC V 0 l)[j]? = some u→w.cell? (a.add j)=some u:=by
 intro j u hu;have hj:=(List.getElem?_eq_some_iff.1 hu).1;rw [itsC_len] at hj;have hi:j / 12<l.length:=(by omega);obtain⟨b,off,e,hb,hc⟩:=h.hp (by omega);rw [hp] at e;obtain rfl:a=⟨b,off,none⟩:=Option.some.inj e;obtain⟨x,hx⟩:∃ x,l[j / 12]? = some x:=⟨_,List.getElem?_eq_getElem hi⟩;have C:=hc _ x hx;have hg:=itsC_get V l 0 (j / 12) x (j % 12) hx (by omega);rw [show j / 12*12+j % 12=j by omega,hu,Nat.zero_add] at hg;rw [addA,show off+j=off+j / 12*12+j % 12 by omega];have hm:j % 12<12:=(by omega);generalize j % 12=r at *
 have key:∀ q,(itC (V (j / 12)) x)[q]? = some u→q=r→w.cell? ⟨b,off+j / 12*12+r,none⟩=some u:=by
  intro q hq e;subst e;match q,hm,hq with
  | 0,_,hq=>cases hq;exact C.c0
  | 1,_,hq=>cases hq;exact C.c1
  | 2,_,hq=>cases hq;exact C.c2
  | 3,_,hq=>cases hq;exact C.c3
  | 4,_,hq=>cases hq;exact C.c4
  | 5,_,hq=>cases hq;exact C.c5
  | 6,_,hq=>cases hq;exact C.c6
  | 7,_,hq=>cases hq;exact C.c7
  | 8,_,hq=>cases hq;exact C.c8
  | 9,_,hq=>cases hq;exact C.c9
  | 10,_,hq=>cases hq;exact C.c10
  | 11,_,hq=>cases hq;exact C.c11
  | q+12,hm,_=>exact absurd hm (by omega)
 exact key r hg.symm rfl
theorem run_append_its {w:World} (ty:TypeId) {base:Nat} {v:Value} {n:Nat} {xs:List Value} (hv:w.ownsRow base 53 12 v n xs) {N:Nat} {p:Option Addr} {cap:Nat} {V:Nat→Nat→Value} {l:List It} (h:RowI N w p cap V l) (hl:n+l.length≤4000000) (hbase:base≤w.heap.size) :
  ∃ v' w',(Builtin.append_ #[26,26] ty #[v,.slice p l.length cap]).run Tryz.prog w=.ok v' w'∧w'.ownsRow base 53 12 v' (n+l.length) (xs++itsC V 0 l)∧w.grownBy w' v.ownBlock:=by
 obtain⟨i,hi,hz,hs,hb⟩:=info_parts infoItem;by_cases h0:l=[]∧p=none
 ·obtain⟨rfl,rfl⟩:=h0;refine⟨v,w,?_,by simpa [itsC] using hv,⟨rfl,rfl,rfl,Nat.le_refl _,fun _ _ _=>rfl⟩⟩;exact append_none 26 ty base 53 i Tryz.underlying26 hi (by rw [hs];exact hv)
 ·obtain⟨a,rfl⟩:∃ a,p=some a:=by
   rcases p with _ | a
   ·have:l≠[]:=(fun e=>h0 ⟨e,rfl⟩);obtain⟨b,off,e,_⟩:=h.hp (List.length_pos_iff.2 this);cases e
   ·exact⟨a,rfl⟩
  obtain⟨v',w',hr,ho,hg,_,_⟩:=run_append_own_at (P:=Tryz.prog) w base 26 ty 53 i itZero 12 216 Tryz.underlying26 hi hz hs hb rfl (by decide) v n xs hv a l.length cap (itsC V 0 l) (itsC_len V l 0) (row_cells h rfl) (itsC_one V l 0 (fun i x hx=>by rw [Nat.zero_add];exact h.hv i x hx)) (by unfold maxLen;omega) (by omega) hbase;exact⟨v',w',hr,ho,hg⟩
theorem wpList_append_its {w:World} {ops:Array Oper} {rest:List Oper} {o:Oper} {a:Act} {Q:Exit→Act→World→Prop} (hgd:o.guard=none) (s x:Operand)
  (ho:o.op=.call { callee:=.builtin .append,args:=#[s,x],argTypes:=#[26,26] })
  {base:Nat} (v:Value) {n:Nat} {xs:List Value} {N:Nat} {p:Option Addr} (k:Nat) {cap:Nat} {V:Nat→Nat→Value} {l:List It} (hsv:a.eval s=v) (hxv:a.eval x=.slice p k cap) (hk:l.length=k) (hv:w.ownsRow base 53 12 v n xs) (h:RowI N w p cap V l) (hl:n+k≤4000000) (hbase:base≤w.heap.size)
  (hn:∀ v' w',w'.ownsRow base 53 12 v' (n+k) (xs++itsC V 0 l)→w.grownBy w' v.ownBlock→wpList Tryz.prog ops Q rest (a.put o.dst v') w'):wpList Tryz.prog ops Q (o::rest) a w:=by
 subst hk;refine (wpList_plain hgd fun K hK=>?_);obtain⟨v',w',hr,h2,h3⟩:=run_append_its o.type hv h hl hbase;unfold Oper.wp execOp;simp only [ho,resolve,invoke,builtin,Sem.run_bind,Sem.run_pure,Result.andThen_ok,List.map_toArray,List.map_cons,List.map_nil,hsv,hxv,hr];exact hK _ _ (hn v' w' h2 h3)
theorem own_in {w:World} {base:Nat} {e:TypeId} {size n:Nat} {v:Value} {xs:List Value} (h:w.ownsRow base e size v n xs):∀ k,v.ownBlock=some k→base≤k:=by
 intro k hk;rcases h.2 with ⟨rfl,_⟩ | ⟨g,cap,cur,rfl,hB,_⟩
 ·simp [Value.ownBlock] at hk
 ·obtain rfl:g=k:=(by simpa [Value.ownBlock] using hk);exact hB
theorem its_of_own {W:World} {base:Nat} {v:Value} {l m:List It} {V V':Nat→Nat→Value} (ho:W.ownsRow base 53 12 v (0+l.length+m.length) ([]++itsC V 0 l++itsC V' 0 m)) {N:Nat} {p p':Option Addr} {c c':Nat} (h1:RowI N W p c V l) (h2:RowI N W p' c' V' m) (hN:N≤W.heap.size) (hz:l.length+m.length≤4000000):ItsA W.heap.size W v (l++m):=by
 rw [Nat.zero_add,List.nil_append] at ho;rcases ho.2 with ⟨rfl,h0⟩ | ⟨g,cap,cur,rfl,hB,hg,hle,_⟩
 ·have e1:l=[]:=List.length_eq_zero_iff.1 (by omega);have e2:m=[]:=List.length_eq_zero_iff.1 (by omega);subst e1;subst e2;exact ItsA.nil _ _ _ _
 ·have hll:(l++m).length=l.length+m.length:=List.length_append;rw [←hll];have hcell:=ho.cells (g:=g) rfl;have get:∀ (i:Nat) (x:It) (j:Nat) (u:Value),(l++m)[i]? = some x→j<12→(itC (if i<l.length then V i else V' (i - l.length)) x)[j]? = some u→W.cell? ⟨g,0+i*12+j,none⟩=some u:=by
   intro i x j u hx hj hu;have q:(itsC V 0 l++itsC V' 0 m)[i*12+j]? = some u:=by
    by_cases hi:i<l.length
    ·rw [if_pos hi] at hu;rw [List.getElem?_append_left hi] at hx;rw [List.getElem?_append_left (by rw [itsC_len];omega),itsC_get V l 0 i x j hx hj,Nat.zero_add];exact hu
    ·rw [if_neg hi] at hu;rw [List.getElem?_append_right (by omega)] at hx;rw [List.getElem?_append_right (by rw [itsC_len];omega),itsC_len,show i*12+j - l.length*12=(i - l.length)*12+j by omega,itsC_get V' m 0 _ x j hx hj,Nat.zero_add];exact hu
   have:=hcell _ _ q;rw [addA] at this;rw [show 0+i*12+j=0+(i*12+j) by omega];exact this
  refine RowI.its (V:=fun i=>if i<l.length then V i else V' (i - l.length)) ⟨by omega,by omega,fun _=>⟨g,0,rfl,(Array.getElem?_eq_some_iff.1 hg).1,fun i x hx=>⟨get i x 0 _ hx (by decide) rfl,get i x 1 _ hx (by decide) rfl,get i x 2 _ hx (by decide) rfl,get i x 3 _ hx (by decide) rfl,get i x 4 _ hx (by decide) rfl,get i x 5 _ hx (by decide) rfl,get i x 6 _ hx (by decide) rfl,get i x 7 _ hx (by decide) rfl,get i x 8 _ hx (by decide) rfl,get i x 9 _ hx (by decide) rfl,get i x 10 _ hx (by decide) rfl,get i x 11 _ hx (by decide) rfl⟩⟩,fun i x hx=>?_⟩;by_cases hi:i<l.length
  ·rw [List.getElem?_append_left hi] at hx;simp only [if_pos hi];exact (h1.hv i x hx).wide hN
  ·rw [List.getElem?_append_right (by omega)] at hx;simp only [if_neg hi];exact (h2.hv _ x hx).wide hN
theorem own_empty (w:World):(w.alloc (.cells #[] 53)).ownsRow w.heap.size 53 12 (.slice (some ⟨w.heap.size,0,none⟩) 0 0) 0 [] :=
 ⟨rfl,.inr ⟨w.heap.size,0,#[],rfl,Nat.le_refl _,heap_alloc_new _ _,Nat.le_refl _,by unfold maxLen;omega,rfl,rfl⟩⟩
end CtL
namespace CtM
open Go NumM LexM ExM EtM ItM CtW
theorem validI_app {l m:List It} (h:validI (l++m)=0):validI l=0∧validI m=0:=by
 unfold validI at h ⊢;rw [iszs_append] at h;split at h
 ·cases h
 ·rename_i hs;rw [if_neg (by omega),if_neg (by omega)];unfold firstV at h ⊢;rw [wks_append,List.map_append,firstE_append] at h;split at h
  ·rename_i h1;exact⟨h1,h⟩
  ·rename_i h1;exact absurd h h1
theorem itemsT_ok {l:List It} (h:validI l=0) {k:Nat} (hk:k≤32):itemsT l k=txL (liL k l):=by
 unfold itemsT;rw [if_neg (by rintro (h1 | h1 | h1);(· omega);(· omega);(· exact h1 h))];rfl
theorem itemsT_app {l m:List It} (h:validI (l++m)=0) {k:Nat} (hk:k≤32):itemsT (l++m) k=itemsT l k++itemsT m k:=by
 obtain⟨h1,h2⟩:=validI_app h;rw [itemsT_ok h hk,itemsT_ok h1 hk,itemsT_ok h2 hk,liL_app,txL_app]
theorem itemsT_succ {l:List It} (h:validI l=0) {k:Nat} (hk:k≤31):itemsT l ((k:Int)+1)=indT true (itemsT l k):=by
 have e:((k:Int)+1)=((k+1:Nat):Int):=(by omega);rw [e,itemsT_ok h (by omega),itemsT_ok h (by omega),li_succ,ind_txL];exact fun x hx=>all_nl (li_lnb l k (valid_vl h).1 x hx).1
theorem indT_len:∀ (l:List UInt8) (f:Bool),(indT f l).length≤5*l.length
 | [],_=>by simp [indT]
 | c::r,f=>by
  have:=indT_len r (c == 10);have h4:(if f=true then bl 1 else ([]:List UInt8)).length≤4:=by
   cases f
   ·simp
   ·show (bl 1).length≤4;rw [bl_len];omega
  rw [indT,List.length_append,List.length_cons,List.length_cons];omega
theorem indT_drop {l:List UInt8} {j:Nat} {c:UInt8} (h:l[j]? = some c) (f:Bool):indT f (l.drop j)=(if f=true then bl 1 else [])++c::indT (c == 10) (l.drop (j+1)):=by
 obtain⟨hj,e⟩:=List.getElem?_eq_some_iff.1 h;rw [List.drop_eq_getElem_cons hj,e,indT]
end CtM
namespace CtL
open Go Go.RowKit Go.Shelf NumM LexW ExW ItW LexM ExM EtM EtW ItM CtM CtW
theorem bounds8 {a:Int} (h:(Lit.int .u8 a).wf=true):0≤a∧a≤255:=by
 have e1:IntKind.u8.min=0:=rfl;have e2:IntKind.u8.max=255:=rfl;simp [Lit.wf,e1,e2] at h;exact h
theorem its_later {w W:World} {v:Value} {l:List It} (h:ItsA w.heap.size w v l) (hb:Below w.heap.size w W):ItsA W.heap.size W v l:=(h.under hb).wide hb.size
theorem drewL {W w1:World} {n:Nat} (h:Below W.heap.size W w1):Below W.heap.size W (w1.drewN n):=⟨h.os,h.tape,h.output,h.size,h.block⟩
theorem ba_ext' {a b:ByteArray} (h:a.data.toList=b.data.toList):a=b:=ByteArray.ext (Array.toList_inj.1 h)
theorem composes_law (w:World) (l m:List It) (v v':Value) (k0:Nat) (hk0:k0≤255) (hl:ItsA w.heap.size w v l) (hm:ItsA w.heap.size w v' m) (hz:bzL l+bzL m≤2000000) (ht:TabE w) :
  Calls Tryz.prog 8 #[v,v',.int .u8 k0] w (tBool true w):=by
 obtain⟨p,cap,V,rfl,ra⟩:=hl.form;obtain⟨p',cap',V',rfl,rb⟩:=hm.form;have n1:=len_iszs l;have n2:=len_iszs m;have n3:=iszs_bz l;have n4:=iszs_bz m;have HL:=Lh hl;have HM:=Lh hm;have HRA:=Lh ra;have HRB:=Lh rb;have HT:=Lh ht;have B0:=ba w (.cells #[] 53);have HB0:=Lh B0;have E0:=Lh (own_empty w);have HZ:=Lh hz;obtain⟨L1,hL1⟩:∃ n,l.length=n:=⟨_,rfl⟩;obtain⟨L2,hL2⟩:∃ n,m.length=n:=⟨_,rfl⟩;have HL1:=Lh hL1;have HL2:=Lh hL2;have hs1:L1≤2000000:=(by omega);have hs2:L1+L2≤2000000:=(by omega);rw [hL1,hL2];obtain⟨k,hkm,hk31⟩:∃ k:Nat,(k0:Int) % 32=(k:Int)∧k≤31:=⟨k0 % 32,by omega,by omega⟩;clear hl hm ra rb ht hz hL1 hL2 n1 n2 n3 n4 B0
 go_enter Tryz.func8,Tryz.ntmps8
 go_wp2_with (first
  |(at_builtin;refine wpList_append_its rfl _ _ rfl (.slice (some ⟨w.heap.size,0,none⟩) 0 0) (n:=0) (xs:=[]) L1 rfl rfl HL1.out E0.out (HRA.out.under HB0.out) (by omega) (by simp) ?_;intro v2 w2 hown hgrow;have O1:=Lh hown;have B1:=Lh (HB0.out.grown hgrow (by simp) (fun k e=>by simp [Value.ownBlock] at e;omega));clear hown hgrow)
  |(at_builtin;refine wpList_append_its rfl _ _ rfl v2 (n:=0+L1) L2 rfl rfl HL2.out O1.out (HRB.out.under B1.out) (by omega) B1.out.size ?_;intro v3 w3 hown hgrow;have O2:=Lh hown;have B2:=Lh (B1.out.grown hgrow B1.out.size (fun k e=>own_in O1.out k e));clear hown hgrow))
 have hA:ItsA w3.heap.size w3 v3 (l++m):=its_of_own (by have:=O2.out;rw [←HL1.out,←HL2.out] at this;exact this) (HRA.out.under B2.out) (HRB.out.under B2.out) B2.out.size (by rw [HL1.out,HL2.out];omega);have hbz:bzL (l++m)≤2000000:=(by rw [bzL_app];exact HZ.out);have hT3:=HT.out.later B2.out;have hsz:iszs (l++m)≤2000000:=Nat.le_trans (iszs_bz _) hbz;have SC:Hid (∀ W,Below w3.heap.size w3 W→Calls Tryz.prog 21 #[v3] W fun e w'=>e=.returned (.bool (decide ((iszs (l++m):Int)≤64)))∧Below W.heap.size W w'):=Lh fun W hW=>by
  have:=small_any (l++m) v3 W.heap.size W (its_later hA hW) (Nat.le_refl _) hsz;refine this.mono ?_;rintro e w' ⟨rfl,q,rfl⟩;exact⟨rfl,drewL (Below.refl _ _)⟩
 have VC:Hid (∀ W,Below w3.heap.size w3 W→Calls Tryz.prog 22 #[v3] W (tInt (validI (l++m)) W)):=(Lh fun W hW=>itemValidR_any (l++m) v3 W (its_later hA hW) hsz (rs_bz _ hbz));have IC:Hid (∀ (k:Int) W,Below w3.heap.size w3 W→Calls Tryz.prog 13 #[v3,.int .i64 k] W (tS (itemsT (l++m) k) W)):=(Lh fun k W hW=>itemsP_any w3 (l++m) v3 hA hbz hT3 k W hW);have IL:Hid (∀ (k:Int) W,Below w3.heap.size w3 W→Calls Tryz.prog 13 #[.slice p L1 cap,.int .i64 k] W (tS (itemsT l k) W)):=Lh fun k W hW=>by
  have:=itemsP_any w l _ HL.out (by have:=HZ.out;omega) HT.out k W (B2.out.then_ hW);rw [HL1.out] at this;exact this
 have IM:Hid (∀ (k:Int) W,Below w3.heap.size w3 W→Calls Tryz.prog 13 #[.slice p' L2 cap',.int .i64 k] W (tS (itemsT m k) W)):=Lh fun k W hW=>by
  have:=itemsP_any w m _ HM.out (by have:=HZ.out;omega) HT.out k W (B2.out.then_ hW);rw [HL2.out] at this;exact this
 have AC:Hid (∀ W,Below w3.heap.size w3 W→Calls Tryz.prog 12 #[] W (tBool true W)):=(Lh fun W hW=>awake_any W (hT3.later hW));have HX:=Lh (Below.refl w3.heap.size w3);clear hA hT3 hsz O1 O2 B1 HB0 E0 HRA HRB;by_cases h64:(iszs (l++m):Int)≤64
 ·rw [decide_eq_true h64] at SC;by_cases hv:validI (l++m)=0
  ·have LE:=li_len hv hbz (k:=k) (by omega);rw [←itemsT_ok hv (by omega)] at LE;have CAT:=itemsT_app hv (k:=k) (by omega);have NXT:=itemsT_succ hv (k:=k) hk31;rw [hv] at VC;have IC0:=Lh (IC.out k);have IC1:=Lh (IC.out (k+1));have IL0:=Lh (IL.out k);have IM0:=Lh (IM.out k);rw [NXT] at IC1;rw [CAT] at LE IC0 IC1;clear IC IL IM CAT NXT hv h64 hbz;generalize itemsT l k=TL at *
   generalize itemsT m k=TM at *
   unfold tS at IC0 IC1 IL0 IM0;have hcat:mb TL++mb TM=mb (TL++TM):=ba_ext' (by simp [ByteArray.data_append]);have s1:(mb TL).size=TL.length:=rfl;have s2:(mb TM).size=TM.length:=rfl;have s3:(mb (TL++TM)).size=(TL++TM).length:=rfl;have s4:(TL++TM).length=TL.length+TM.length:=List.length_append;have DT:Hid ((mb (TL++TM)).data.toList=TL++TM):=Lh (by simp);have DN:Hid ((mb (indT true (TL++TM))).data.toList=indT true (TL++TM)):=Lh (by simp);have hl5:=Lh (indT_len (TL++TM) true);generalize mb (indT true (TL++TM))=SB at *
   generalize mb (TL++TM)=SA at *
   generalize mb TL=SL at *
   generalize mb TM=SM at *
   generalize TL++TM=T at *
   have HSA:=Lh s3;have h1:SL.size+SM.size≤200000000:=(by omega);have h2:SA.size≤200000000:=(by omega);clear s1 s2 s3 s4 LE;go_wp2_with (first
    |(go_at_call 21;((with_reducible refine (SC.out _ HX.out).mono ?_);rintro e wq ⟨rfl,hb⟩;have HX:=Lh (HX.out.then_ hb);clear hb))
    |(go_at_call 22;((with_reducible refine (VC.out _ HX.out).mono ?_);rintro e wq ⟨rfl,hb⟩;have HX:=Lh (HX.out.then_ hb);clear hb))
    |(go_at_call 13;((with_reducible refine (IC0.out _ HX.out).mono ?_);rintro e wq ⟨rfl,hb⟩;have HX:=Lh (HX.out.then_ hb);clear hb))
    |(go_at_call 13;((with_reducible refine (IL0.out _ HX.out).mono ?_);rintro e wq ⟨rfl,hb⟩;have HX:=Lh (HX.out.then_ hb);clear hb))
    |(go_at_call 13;((with_reducible refine (IM0.out _ HX.out).mono ?_);rintro e wq ⟨rfl,hb⟩;have HX:=Lh (HX.out.then_ hb);clear hb)))
   clear hcat h1 SC VC IC0 IL0 IM0;go_loop [10,11,12] (fun t f i=>∃ (j:Nat) (S:ByteArray) (b:Bool),j≤SA.size∧i=.int .i64 j∧t=.string S∧f=.bool b∧Hid (S.data.toList++indT b (T.drop j)=indT true T)) (fun _ _ i=>SA.size - (intOf i).toNat)
   case atStart=>exact⟨0,⟨#[]⟩,true,Nat.zero_le _,rfl,rfl,rfl,Lh rfl⟩
   case round =>
    obtain⟨j,S,b,hj,rfl,rfl,rfl,HS⟩:=hrel;by_cases hlt:j<SA.size
    ·have hz:S.size≤1000000000:=by
      have e:=congrArg List.length HS.out;rw [List.length_append,len_data] at e;have:=hl5.out;have:=HSA.out;omega
     obtain⟨c,hc⟩:∃ c,SA[j]=c:=⟨_,rfl⟩;have TJ:T[j]? = some c:=by
      rw [←DT.out,←hc,List.getElem?_eq_getElem (by rw [len_data];exact hlt)];rfl
     have EX:(SA.extract j (j+1)).data.toList=[c]:=by
      have h3:SA.data.toList.drop j=c::SA.data.toList.drop (j+1):=by
       rw [List.drop_eq_getElem_cons (by rw [len_data];exact hlt),←hc];rfl
      rw [ByteArray.data_extract,Array.toList_extract,List.extract_eq_take_drop,h3];simp
     obtain⟨x,hx⟩:∃ x:Int,(SA[j].toNat:Int)=x:=⟨_,rfl⟩;have hx10:(x == 10)=(c == 10):=by
      rw [←hx,hc,Bool.eq_iff_iff,beq_iff_eq,beq_iff_eq];constructor
      ·intro h;exact UInt8.toNat.inj (by rw [show (10:UInt8).toNat=10 from rfl];omega)
      ·rintro rfl;rfl
     have HS2:=HS.out;rw [indT_drop TJ b,←hx10] at HS2;have hexs:(SA.extract j (j+1)).size=1:=(by rw [←len_data,EX];rfl);cases b
     ·have HS3:Hid ((S++SA.extract j (j+1)).data.toList++indT (x == 10) (T.drop (j+1))=indT true T):=Lh (by rw [←HS2,ByteArray.data_append,Array.toList_append,EX];simp);clear EX hx10 HS2 TJ hc HS;go_wp2;go_round
      case rel=>exact⟨j+1,S++SA.extract j (j+1),_,by omega,by go_num,rfl,rfl,HS3⟩
      case measure=>simp [intOf];omega
     ·have HS3:Hid ((S++⟨#[32,32,32,32]⟩++SA.extract j (j+1)).data.toList++indT (x == 10) (T.drop (j+1))=indT true T):=Lh (by rw [←HS2,ByteArray.data_append,Array.toList_append,ByteArray.data_append,Array.toList_append,EX];simp [bl]);clear EX hx10 HS2 TJ hc HS;go_wp2;go_round
      case rel=>exact⟨j+1,S++⟨#[32,32,32,32]⟩++SA.extract j (j+1),_,by omega,by go_num,rfl,rfl,HS3⟩
      case measure=>simp [intOf];omega
    ·obtain rfl:j=SA.size:=(by omega);obtain rfl:S=SB:=ba_ext' (by
      have:=HS.out;rw [HSA.out,List.drop_length] at this;rw [DN.out,←this];simp [indT])
     clear HS hlt hj;go_wp2_with (first
      |(go_at_call 13;((with_reducible refine (IC1.out _ HX.out).mono ?_);rintro e wq ⟨rfl,hb⟩;have HX:=Lh (HX.out.then_ hb);clear hb))
      |(go_at_call 12;((with_reducible refine (AC.out _ HX.out).mono ?_);rintro e wq ⟨rfl,hb⟩;have HX:=Lh (HX.out.then_ hb);clear hb)))
     go_ret;exact⟨rfl,B2.out.then_ HX.out⟩
  ·have f1:(validI (l++m) != 0)=true:=(by simpa using hv);have f2:(validI (l++m) == 0)=false:=(by simpa using hv);generalize validI (l++m)=E at *
   clear IC IL IM hv;go_wp2_with (first
    |(go_at_call 21;((with_reducible refine (SC.out _ HX.out).mono ?_);rintro e wq ⟨rfl,hb⟩;have HX:=Lh (HX.out.then_ hb);clear hb))
    |(go_at_call 22;((with_reducible refine (VC.out _ HX.out).mono ?_);rintro e wq ⟨rfl,hb⟩;have HX:=Lh (HX.out.then_ hb);clear hb))
    |(go_at_call 12;((with_reducible refine (AC.out _ HX.out).mono ?_);rintro e wq ⟨rfl,hb⟩;have HX:=Lh (HX.out.then_ hb);clear hb)))
   go_ret;exact⟨rfl,B2.out.then_ HX.out⟩
 ·rw [decide_eq_false h64] at SC;clear IC IL IM;go_wp2_with (first
   |(go_at_call 21;((with_reducible refine (SC.out _ HX.out).mono ?_);rintro e wq ⟨rfl,hb⟩;have HX:=Lh (HX.out.then_ hb);clear hb))
   |(go_at_call 12;((with_reducible refine (AC.out _ HX.out).mono ?_);rintro e wq ⟨rfl,hb⟩;have HX:=Lh (HX.out.then_ hb);clear hb)))
  go_ret;exact⟨rfl,B2.out.then_ HX.out⟩
end CtL
end Go.Proofs.YtihnejaopejbgaaGreatDoor
