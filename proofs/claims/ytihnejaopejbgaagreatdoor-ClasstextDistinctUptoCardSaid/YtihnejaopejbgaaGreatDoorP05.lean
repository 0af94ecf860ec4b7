/-
  Laws that the card uses; no conditions beside those that each states (CtMath CtClass).
-/
import Derived.Test.YtihnejaopejbgaaGreatDoorP03
namespace Go.Proofs.YtihnejaopejbgaaGreatDoor
namespace CtM
open Go NumM LexM ExM EtM ItM
theorem pb_wrd {c:UInt8} (h:wrd c=true):pb c=true:=by
 unfold wrd sml dgt capl at h;unfold pb;simp only [Bool.or_eq_true,Bool.and_eq_true,decide_eq_true_eq] at h ⊢;omega
theorem pb_mks:∀ m∈mks,m.all pb=true:=by decide
theorem adj_pb:∀ (l:List Pc) (nb:Option UInt8),adj l nb→(txP l).all pb=true
 | [],_,_=>rfl
 | p::r,nb,h=>by
  rw [txP_cons,List.all_append,adj_pb r nb h.2,Bool.and_true];cases p with
  | sp=>rfl
  | wd k n x=>exact List.all_eq_true.2 fun c hc=>pb_wrd (List.all_eq_true.1 h.1.2.1 c hc)
  | mk x=>exact pb_mks x (by have:=h.1.1;unfold isMk at this;exact of_decide_eq_true this)
theorem prn_pb {e:Ex} (h:Ok e):(prn e).all pb=true:=adj_pb _ none ((bare_op e h).adj _ (.inl rfl))
end CtM
namespace CtM
open Go NumM LexM ExM EtM ItM
open ClM (Fld fieldE okF maxI)
theorem bl_pb (k:Nat):(bl k).all pb=true:=List.all_eq_true.2 fun c hc=>by
 unfold bl at hc;rw [(List.mem_replicate.1 hc).2];rfl
theorem dgt_pb {l:List UInt8} (h:l.all dgt=true):l.all pb=true:=List.all_eq_true.2 fun c hc=>pb_wrd (wrd_dgt (List.all_eq_true.1 h c hc))
theorem nb_pb {l:List UInt8} (h:l.all nb=true):l.all pb=true:=List.all_eq_true.2 fun c hc=>by
 have:=List.all_eq_true.1 h c hc;unfold nb at this;simp only [Bool.or_eq_true,decide_eq_true_eq] at this;rcases this with (h | h) | h
 ·exact pb_wrd h
 ·rw [h];rfl
 ·rw [h];rfl
theorem join_pb:∀ {l:List (List UInt8)},(∀ x∈l,x.all pb=true)→(joinT l).all pb=true
 | [],_=>rfl
 | [a],h=>by rw [joinT_one];exact h a (by simp)
 | a::b::r,h=>by
  rw [joinT_two,List.all_append,h a (by simp),Bool.true_and,List.all_cons,List.all_cons,join_pb (l:=b::r) (fun x hx=>h x (List.mem_cons_of_mem _ hx))];rfl
theorem wt_pb {w:Wt} (h:okW w):(wtT w).all pb=true:=by
 obtain⟨h1,h2,h3⟩:=h;unfold wtT;rw [List.all_append,dgt_pb (itoa_all h1),Bool.true_and,List.all_append];have a:(if w.hi≠w.lo then 32::46::46::32::Lib.itoa w.hi else []).all pb=true:=by
  split
  ·simp only [List.all_cons];rw [dgt_pb (itoa_all h2)];rfl
  ·rfl
 rw [a,Bool.true_and];simp only [List.all_cons];rw [dgt_pb (itoa_all h3)];cases w.ea<;>rfl
theorem hd_pb {x:It} (h:Fm x):(hdL x).all pb=true:=by
 cases h with
 | hard e h=>show (prn e++[59]).all pb=true;rw [List.all_append,prn_pb h];rfl
 | soft e h=>show (softW++32::(prn e++[59])).all pb=true;simp only [List.all_append,List.all_cons,prn_pb h];rfl
 | dist nm ws h1 h2 h3 =>
  show (distW++32::(nmT nm++32::123::32::(wtsT ws++32::125::59::[]))).all pb=true;have:(wtsT ws).all pb=true:=(join_pb fun x hx=>by obtain⟨w,hw,rfl⟩:=List.mem_map.1 hx;exact wt_pb (okW_of (h3 w hw)));simp only [List.all_append,List.all_cons,nb_pb (var_nb h1),this];rfl
 | cond e it el h=>show (ifW++32::40::(prn e++[41,32,123])).all pb=true;simp only [List.all_append,List.all_cons,prn_pb h];rfl
 | each nm ix it h1 h2 =>
  show (eachW++32::(nmT ix++32::(inW++32::(nmT nm++32::123::[])))).all pb=true;simp only [List.all_append,List.all_cons,nb_pb (nm_nb h1),nb_pb (nm_nb h2)];rfl
 | solve bf af h1 h2 h3 h4 =>
  show (solveW++32::(joinT (bf.map nmT)++32::(beforeW++32::(joinT (af.map nmT)++59::[])))).all pb=true;have j:∀ l:List ByteArray,(∀ s∈l,varB (nmT s)=true)→(joinT (l.map nmT)).all pb=true:=(fun l hl=>join_pb fun x hx=>by obtain⟨s,hs,rfl⟩:=List.mem_map.1 hx;exact nb_pb (var_nb (hl s hs)));simp only [List.all_append,List.all_cons,j bf h3,j af h4];rfl
theorem hd_last {x:It} (h:Fm x):∃ y z,hdL x=y++[z]∧z≠32:=by
 cases h with
 | hard e h=>exact⟨prn e,59,rfl,by decide⟩
 | soft e h=>exact⟨softW++32::prn e,59,rfl,by decide⟩
 | dist nm ws h1 h2 h3=>exact⟨distW++32::(nmT nm++32::123::32::(wtsT ws++[32,125])),59,by unfold hdL;simp [It.kd,It.nm,It.ws],by decide⟩
 | cond e it el h=>exact⟨ifW++32::40::(prn e++[41,32]),123,by unfold hdL;simp [It.kd,It.e],by decide⟩
 | each nm ix it h1 h2=>exact⟨eachW++32::(nmT ix++32::(inW++32::(nmT nm++[32]))),123,by unfold hdL;simp [It.kd,It.nm,It.ix],by decide⟩
 | solve bf af h1 h2 h3 h4=>exact⟨solveW++32::(joinT (bf.map nmT)++32::(beforeW++32::joinT (af.map nmT))),59,by unfold hdL;simp [It.kd,It.bf,It.af],by decide⟩
theorem lnb_bl (k:Nat) {s:List UInt8} (h:LnB s):LnB (bl k++s):=by
 obtain⟨h1,y,z,e,hz⟩:=h;exact⟨by rw [List.all_append,bl_pb,h1];rfl,bl k++y,z,by rw [e,List.append_assoc],hz⟩
theorem lnb_brace:LnB [125]:=⟨rfl,[],125,rfl,by decide⟩
theorem lnb_else:LnB elsL:=⟨rfl,[125,32,101,108,115,101,32],123,rfl,by decide⟩
theorem li_lnb (l:List It):∀ k,VL l→∀ x∈liL k l,LnB x:=by
 induction l using its_rec with
 | h0=>intro k _ x hx;rw [liL_nil] at hx;cases hx
 | h1 x r i1 i2 i3 =>
  intro k hv y hy;rw [vL_cons,vI_eq] at hv;obtain⟨⟨⟨d,hd⟩,v1,v2⟩,v3⟩:=hv;have hf:=fm_of hd;rw [liL_cons,liI_eq,List.cons_append] at hy;rcases List.mem_cons.1 hy with rfl | hy
  ·exact lnb_bl k ⟨hd_pb hf,hd_last hf⟩
  ·rcases List.mem_append.1 hy with hy | hy
   ·split at hy
    ·rcases List.mem_append.1 hy with hy | hy
     ·exact i1 (k+1) v1 y hy
     ·rcases List.mem_append.1 hy with hy | hy
      ·split at hy
       ·cases hy
       ·rcases List.mem_cons.1 hy with rfl | hy
        ·exact lnb_bl k lnb_else
        ·exact i2 (k+1) v2 y hy
      ·rw [List.mem_singleton] at hy;rw [hy];exact lnb_bl k lnb_brace
    ·split at hy
     ·rcases List.mem_append.1 hy with hy | hy
      ·exact i1 (k+1) v1 y hy
      ·rw [List.mem_singleton] at hy;rw [hy];exact lnb_bl k lnb_brace
     ·cases hy
   ·exact i3 k v3 y hy
end CtM
end Go.Proofs.YtihnejaopejbgaaGreatDoor
