/-
  Laws that the card uses; no conditions beside those that each states (CtLineM CtLawL).
-/
import Derived.Test.YtihnejaopejbgaaGreatDoorP07
import Derived.Test.YtihnejaopejbgaaGreatDoorP45
set_option maxRecDepth 100000
set_option maxHeartbeats 16000000
namespace Go.Proofs.YtihnejaopejbgaaGreatDoor
namespace CtM
open Go NumM LexM ExM EtM ItM CtW
def gd:UInt8→List UInt8→Bool
 | _,[]=>true
 | p,c::r=>(if c=10 then p != 32 else pb c)&&gd c r
theorem gd_line:∀ (y:List UInt8) (p z:UInt8) (R:List UInt8),(y++[z]).all pb=true→z≠32→gd p (y++z::10::R)=gd 10 R
 | [],p,z,R,h,hz=>by
  have h1:pb z=true:=(by simpa using h);have h2:z≠10:=(by rintro rfl;exact absurd h1 (by decide));show ((if z=10 then p != 32 else pb z)&&((if (10:UInt8)=10 then z != 32 else pb 10)&&gd 10 R))=_;rw [if_neg h2,if_pos rfl,h1,show (z != 32)=true by simpa using hz];rfl
 | c::y,p,z,R,h,hz=>by
  rw [List.cons_append,List.all_cons,Bool.and_eq_true] at h;have h2:c≠10:=(by rintro rfl;exact absurd h.1 (by decide));show ((if c=10 then p != 32 else pb c)&&gd c (y++z::10::R))=_;rw [if_neg h2,h.1,gd_line y c z R h.2 hz];rfl
theorem gd_lines:∀ (L:List (List UInt8)) (p:UInt8) (R:List UInt8),(∀ x∈L,LnB x)→L≠[]→gd p (txL L++R)=gd 10 R
 | [],_,_,_,h=>absurd rfl h
 | x::L,p,R,h,_=>by
  obtain⟨hp,y,z,rfl,hz⟩:=h x (by simp);rw [txL_cons];have e:(y++[z])++10::txL L++R=y++z::10::(txL L++R):=(by simp);rw [e,gd_line y p z _ hp hz];cases L with
  | nil=>rfl
  | cons a r=>exact gd_lines (a::r) 10 R (fun u hu=>h u (by simp [hu])) (by simp)
theorem gd_cls {k:Kl} (h:VK k) (p:UInt8) (R:List UInt8):gd p (clsT k++R)=gd 10 R :=
 gd_lines (clsL k) p R (cls_lnb h) (by unfold clsL;simp)
theorem gd_src:∀ ks:List Kl,(∀ k∈ks,VK k)→∀ p,gd p (Lib.join (ks.map clsT) [10])=true
 | [],_,_=>rfl
 | [k],h,p=>by
  have:=gd_cls (h k (by simp)) p [];rw [List.append_nil] at this;rw [List.map_cons,List.map_nil,Lib.join_one,this];rfl
 | k::m::r,h,p=>by
  have e:Lib.join (clsT k::clsT m::r.map clsT) [10]=clsT k++10::Lib.join (clsT m::r.map clsT) [10]:=(by rw [Lib.join_cons,Lib.join_cons];simp [Lib.joinTail]);rw [List.map_cons,List.map_cons,e,gd_cls (h k (by simp)) p];show ((if (10:UInt8)=10 then (10:UInt8) != 32 else pb 10)&&gd 10 _)=true;rw [if_pos rfl,←List.map_cons,gd_src (m::r) (fun u hu=>h u (List.mem_cons_of_mem _ hu)) 10];rfl
theorem gd_at:∀ (T:List UInt8) (p:UInt8),gd p T=true→∀ (i:Nat) (c:UInt8),T[i]? = some c→(c=10→∀ d,T[i - 1]? = some d→0<i→d≠32)∧(c≠10→pb c=true)
 | [],_,_,i,c,hc=>by simp at hc
 | a::T,p,h,i,c,hc=>by
  unfold gd at h;rw [Bool.and_eq_true] at h;rcases i with _ | i
  ·obtain rfl:a=c:=(by simpa using hc);exact⟨fun _ _ _ h0=>absurd h0 (by decide),fun hn=>by have:=h.1;rw [if_neg hn] at this;exact this⟩
  ·have hc':T[i]? = some c:=(by simpa using hc);rcases i with _ | i
   ·refine⟨fun he d hd _=>?_,fun hn=>(gd_at T a h.2 0 c hc').2 hn⟩;obtain rfl:a=d:=(by simpa using hd);cases T with
    | nil=>simp at hc'
    | cons b T =>
     obtain rfl:b=c:=(by simpa using hc');have:=h.2;unfold gd at this;rw [Bool.and_eq_true,if_pos he] at this
     simpa using this.1
   ·have q:=gd_at T a h.2 (i+1) c hc';exact⟨fun he d hd _=>q.1 he d (by simpa using hd) (by omega),q.2⟩
theorem src_last (ks:List Kl) (h:Lib.join (ks.map clsT) [10]≠[]):∃ Y,Lib.join (ks.map clsT) [10]=Y++[10]:=by
 induction ks with
 | nil=>exact absurd rfl h
 | cons k r ih =>
  cases r with
  | nil =>
   rw [List.map_cons,List.map_nil,Lib.join_one,cls_tx];exact⟨_,by rw [←List.append_assoc,←List.append_assoc,show ([125,10]:List UInt8)=[125]++[10] from rfl,←List.append_assoc]⟩
  | cons m r =>
   have e:Lib.join (clsT k::clsT m::r.map clsT) [10]=clsT k++10::Lib.join (clsT m::r.map clsT) [10]:=(by rw [Lib.join_cons,Lib.join_cons];simp [Lib.joinTail]);obtain⟨Y,hY⟩:=ih (by
    rw [List.map_cons,Lib.join_cons];intro hn;exact clsT_ne m (List.append_eq_nil_iff.1 hn).1)
   rw [List.map_cons,List.map_cons,e,←List.map_cons,hY];exact⟨clsT k++10::Y,by simp⟩
end CtM
namespace CtL
open Go Go.RowKit Go.Shelf NumM LexW ExW ItW LexM ExM EtM EtW ItM CtM CtW
theorem bzKs_take' (ks:List Kl) (m:Nat):bzKs (ks.take m)≤bzKs ks:=by
 unfold bzKs;have e:ks=ks.take m++ks.drop m:=(List.take_append_drop m ks).symm
 conv=>rhs;rw [e,List.map_append,List.sum_append]
 omega
theorem bzKs_mem {ks:List Kl} {k:Kl} (h:k∈ks):bzK k≤bzKs ks:=sum_mem (List.mem_map.2 ⟨k,h,rfl⟩)
structure SrcF (T:List UInt8):Prop where
 len:T.length≤140737488000000
 at_:∀ (i:Nat) (c:UInt8),T[i]? = some c→(c=10→∀ d,T[i - 1]? = some d→0<i→d≠32)∧(c≠10→pb c=true)
 last:T≠[]→∃ Y,T=Y++[10]
theorem srcF (ks:List Kl) (h6:ks.length≤6) (hz:bzKs ks≤2000000):SrcF (srcT ks):=by
 unfold srcT;split
 ·rename_i h;have hk:∀ k∈ks,okK k=true:=(fun k hk=>List.all_eq_true.1 h k hk);refine⟨?_,gd_at _ 10 (gd_src ks (fun k hm=>(okK_vk (hk k hm)).1) 10),src_last ks⟩;have h1:=joinN_len 5000000000 (ks.map clsT) (fun t ht=>by
   obtain⟨k,hm,rfl⟩:=List.mem_map.1 ht;have:=bzKs_mem hm;exact cls_len (hk k hm) (by omega))
  rw [List.length_map] at h1;have:ks.length*(5000000000+1)≤6*(5000000000+1):=Nat.mul_le_mul h6 (Nat.le_refl _);omega
 ·exact⟨by simp,fun i c hc=>by simp at hc,fun h=>absurd rfl h⟩
structure ByF (S:ByteArray):Prop where
 at_:∀ (i:Nat) (h:i<S.size),((S[i].toNat:Int)=10∧(∀ k (hk:k<S.size),k+1=i→((S[k].toNat:Int)≠32)))∨((S[i].toNat:Int)≠10∧(32:Int)≤S[i].toNat∧(S[i].toNat:Int)≤126)
 last:∀ k (hk:k<S.size),k+1=S.size→(S[k].toNat:Int)=10
theorem byF {T:List UInt8} (h:SrcF T):ByF (mb T):=by
 have sz:(mb T).size=T.length:=rfl;have get:∀ (i:Nat) (hi:i<(mb T).size),T[i]? = some ((mb T)[i]):=fun i hi=>by
  rw [List.getElem?_eq_getElem (by rw [←sz];exact hi)];rfl
 have b10:∀ c:UInt8,c=10↔(c.toNat:Int)=10:=fun c=>by
  constructor
  ·rintro rfl;rfl
  ·intro h;exact UInt8.toNat.inj (by rw [show (10:UInt8).toNat=10 from rfl];omega)
 have b32:∀ c:UInt8,c=32↔(c.toNat:Int)=32:=fun c=>by
  constructor
  ·rintro rfl;rfl
  ·intro h;exact UInt8.toNat.inj (by rw [show (32:UInt8).toNat=32 from rfl];omega)
 refine⟨fun i hi=>?_,fun k hk hl=>?_⟩
 ·obtain⟨q1,q2⟩:=h.at_ i _ (get i hi);rcases Classical.em ((mb T)[i]=10) with e | e
  ·refine .inl ⟨(b10 _).1 e,fun k hk hki=>?_⟩;subst hki;have:=q1 e _ (get k hk) (by omega);exact fun g=>this ((b32 _).2 g)
  ·have:=q2 e;unfold pb at this;simp only [Bool.and_eq_true,decide_eq_true_eq] at this;exact .inr ⟨fun g=>e ((b10 _).2 g),by omega,by omega⟩
 ·have hne:T≠[]:=by
   rintro rfl;rw [sz] at hk;simp at hk
  obtain⟨Y,hY⟩:=h.last hne;have hlen:T.length=Y.length+1:=(by rw [hY,List.length_append];rfl);have g:=get k hk;rw [sz] at hl;obtain⟨c,hc⟩:∃ c,(mb T)[k]=c:=⟨_,rfl⟩;rw [hc] at g ⊢;rw [hY,List.getElem?_append_right (by omega),show k - Y.length=0 by omega] at g;exact (b10 _).1 (Option.some.inj g).symm
theorem lines_law (w:World) (l:List Kl) (v:Value) (h:KsA w.heap.size w v l) (hz:bzKs l≤2000000) (ht:TabE w) :
  Calls Tryz.prog 9 #[v] w (tBool true w):=by
 have h0:=h;obtain⟨p,cap,pf,cf,pk,ck,rfl,hl9,hcap,hka,hx⟩:=h;have AC:Hid (∀ W,Below w.heap.size w W→Calls Tryz.prog 12 #[] W (tBool true W)):=(Lh fun W hW=>awake_any W (ht.later hW));obtain⟨n,hn⟩:∃ n,l.length=n:=⟨_,rfl⟩;rw [hn] at h0 hcap hl9 ⊢;obtain⟨m,hmin,hmn,hm6⟩:∃ m:Nat,min (n:Int) 6=(m:Int)∧m≤n∧m≤6:=⟨min n 6,by omega,by omega,by omega⟩;have h2:=h0.take m (by omega);have hge:m≤cap:=(by omega);have hz2:bzKs (l.take m)≤2000000:=Nat.le_trans (bzKs_take' l m) hz;have h6:(l.take m).length≤6:=(by rw [List.length_take];omega);have PC:Hid (∀ W,Below w.heap.size w W→Calls Tryz.prog 17 #[.slice p m cap] W (tS (srcT (l.take m)) W)):=(Lh fun W hW=>sourceP_any w _ _ h2 hz2 (by omega) ht W hW);have SF:=srcF (l.take m) h6 hz2;have BF:=Lh (byF SF);have hlen:=SF.len;have hsz:(mb (srcT (l.take m))).size=(srcT (l.take m)).length:=rfl;unfold tS at PC;generalize mb (srcT (l.take m))=S at *
 generalize (srcT (l.take m)).length=N at *
 have hS47:S.size≤140737488000000:=(by omega);clear h0 h2 hn ht hx hka hz hz2 h6 hlen hsz SF
 go_enter Tryz.func9,Tryz.ntmps9
 go_wp2_with (first
  |(go_at_call 17;((with_reducible refine (PC.out _ (Below.refl _ _)).mono ?_);rintro e w2 ⟨rfl,hb⟩;have HX1:=Lh ((Below.refl _ _).then_ hb);clear hb)))
 go_loop [4] (fun i=>∃ j:Nat,j≤S.size∧i=.int .i64 j) (fun i=>S.size - (intOf i).toNat)
 case atStart=>exact⟨0,Nat.zero_le _,rfl⟩
 case round =>
  obtain⟨j,hj,rfl⟩:=hrel;by_cases hlt:j<S.size
  ·rcases BF.out.at_ j hlt with ⟨hc,hp⟩ | ⟨hc,hp,hq⟩
   ·obtain⟨c,hcc⟩:∃ c:Int,(S[j].toNat:Int)=c:=⟨_,rfl⟩;rw [hcc] at hc;subst hc;rcases j with _ | i
    ·go_wp2;go_round
     case rel=>exact⟨1,by omega,rfl⟩
     case measure=>simp [intOf];omega
    ·have hi:i<S.size:=(by omega);have hd:=hp i hi rfl;obtain⟨d,hdd⟩:∃ d:Int,(S[i].toNat:Int)=d:=⟨_,rfl⟩;rw [hdd] at hd;have d1:(d == 32)=false:=(by simpa using hd);clear hd hp;go_wp2;go_round
     case rel=>exact⟨i+1+1,by omega,by go_num⟩
     case measure=>simp [intOf];omega
   ·obtain⟨c,hcc⟩:∃ c:Int,(S[j].toNat:Int)=c:=⟨_,rfl⟩;rw [hcc] at hc hp hq;have c1:(c == 10)=false:=(by simpa using hc);have c2:(c != 10)=true:=(by simpa using hc);have c3:decide (c<32)=false:=decide_eq_false (by omega);have c4:decide (126<c)=false:=decide_eq_false (by omega);clear hc hp hq;go_wp2;go_round
    case rel=>exact⟨j+1,by omega,by go_num⟩
    case measure=>simp [intOf];omega
  ·obtain rfl:j=S.size:=(by omega);rcases hz:S.size with _ | k
   ·have f1:S.toList.isEmpty=true:=(by rw [isEmp_toList];unfold isEmp;simp [hz]);have f2:(S.toList == [])=true:=(by rw [←f1];cases S.toList<;>rfl);go_wp2_with (go_at_call 12;((with_reducible refine (AC.out _ HX1.out).mono ?_);rintro e w4 ⟨rfl,hb⟩;have HX4:=Lh (HX1.out.then_ hb);clear hb))
    go_ret;exact⟨rfl,HX4.out⟩
   ·have f1:S.toList.isEmpty=false:=(by rw [isEmp_toList];unfold isEmp;simp [hz]);have f2:(S.toList == [])=false:=(by rw [←f1];cases S.toList<;>rfl);have hk:k<S.size:=(by omega);have hd:=BF.out.last k hk hz.symm;have i1:((S.size:Int) - 1).toNat=k:=(by omega);have i2:(S.size:Int) - 1=(k:Int):=(by omega);go_wp2_with (go_at_call 12;((with_reducible refine (AC.out _ HX1.out).mono ?_);rintro e w4 ⟨rfl,hb⟩;have HX4:=Lh (HX1.out.then_ hb);clear hb))
    go_ret;exact⟨rfl,HX4.out⟩
end CtL
end Go.Proofs.YtihnejaopejbgaaGreatDoor
