/-
  Laws that the card uses; no conditions beside those that each states (ItAdd0).
-/
import Derived.Test.YtpejflgdehioaaaGreatDoorU29
namespace Go.Proofs.YtpejflgdehioaaaGreatDoor
namespace ItW
open Go Go.RowKit NumM LexW LexM ExM ExW ItM
open ClM (Fld)
theorem wks_x (l:List It):∀ d B d' B',(wks d B l).map Pl.x=(wks d' B' l).map Pl.x:=by
 induction l using its_rec with
 | h0=>intro d B d' B';rw [wks_nil,wks_nil]
 | h1 x r h1 h2 h3 =>
  intro d B d' B';rw [wks_cons,wks_cons,wk_eq,wk_eq];simp only [List.map_append,List.map_cons];rw [h1 (d+1) (inn x.kd x.ix B) (d'+1) (inn x.kd x.ix B'),h2 (d+1) B (d'+1) B',h3 d B d' B']
def SmE (l:List It):Prop:=∀ x∈(wks 0 [] l).map Pl.x,sz x.e≤1000
theorem SmE.one {l:List It} {a:It} (h:SmE l) (ha:a∈l):sz a.e≤1000∧SmE a.it∧SmE a.el:=by
 have hm:∀ y,y=a∨y∈(wks 0 [] a.it).map Pl.x∨y∈(wks 0 [] a.el).map Pl.x→y∈(wks 0 [] l).map Pl.x:=by
  intro y hy;obtain⟨s,t,rfl⟩:=List.append_of_mem ha;rw [wks_append,wks_cons,wk_eq];simp only [List.map_append,List.map_cons,List.mem_append,List.mem_cons];rw [wks_x a.it (0+1) _ 0 [],wks_x a.el (0+1) _ 0 []];rcases hy with rfl | hy | hy
  ·exact .inr (.inl (.inl rfl))
  ·exact .inr (.inl (.inr (.inl hy)))
  ·exact .inr (.inl (.inr (.inr hy)))
 exact⟨h a (hm a (.inl rfl)),fun x hx=>h x (hm x (.inr (.inl hx))),fun x hx=>h x (hm x (.inr (.inr hx)))⟩
theorem exL_append (fs:List Fld) (q:Option Ex) (σ:Ex→Ex) (a b:List It):exL fs q σ (a++b)=exL fs q σ a++exL fs q σ b:=by
 induction a with
 | nil=>rw [List.nil_append,exL_nil,List.nil_append]
 | cons x r ih=>rw [List.cons_append,exL_cons,exL_cons,ih,List.append_assoc]
theorem exL_take {fs:List Fld} {q:Option Ex} {σ:Ex→Ex} {k:Nat} {l:List It} {a:It} (h:l[k]? = some a):exL fs q σ (l.take (k+1))=exL fs q σ (l.take k)++exI fs q σ a:=by
 obtain⟨hk,he⟩:=List.getElem?_eq_some_iff.1 h;rw [List.take_succ_eq_append_getElem hk,exL_append,he,exL_cons,exL_nil,List.append_nil]
theorem flat_range {α:Type} (g:Nat→List α) (m:Nat) (hm:∀ k,(g k).length=m) (n:Nat):((List.range n).flatMap g).length=n*m:=by
 induction n with
 | zero=>simp
 | succ n ih=>rw [List.range_succ,List.flatMap_append,List.length_append,ih,List.flatMap_cons,List.flatMap_nil,List.append_nil,hm,Nat.succ_mul]
theorem exL_len (fs:List Fld) (hS:∀ f∈fs,0≤f.sz∧f.sz≤8) (l:List It):∀ q σ,((exL fs q σ l).length:Int)=cntL fs l:=by
 induction l using its_rec with
 | h0=>intro q σ;rw [exL_nil,cntL_nil];rfl
 | h1 x r h1 h2 h3 =>
  intro q σ;have hI:((exI fs q σ x).length:Int)=cntI fs x:=by
   rw [exI_eq,cntI_eq];by_cases h4:x.kd=4
   ·rw [if_pos h4,if_pos h4,List.length_append];have a1:=h1 (some (und q 19 (σ x.e))) σ;have a2:=h2 (some (und q 19 (notE (σ x.e)))) σ;omega
   ·rw [if_neg h4,if_neg h4];by_cases h5:x.kd=5
    ·rw [if_pos h5,if_pos h5];have hb:=cntL_bound fs hS x.nm;have hc:∀ k:Nat,(exL fs q (fun a=>su x.ix (cst (k:Int)) (σ a)) x.it).length=(cntL fs x.it).toNat:=fun k=>by
      have:=h1 q (fun a=>su x.ix (cst (k:Int)) (σ a));omega
     rw [flat_range _ _ hc,show min (szI fs x.nm) 401=szI fs x.nm by omega];have h0:0≤cntL fs x.it:=(by have:=h1 q σ;omega);rw [Int.natCast_mul,Int.toNat_of_nonneg hb.1,Int.toNat_of_nonneg h0,Int.mul_comm]
    ·rw [if_neg h5,if_neg h5];split<;>rfl
  have hr:=h3 q σ;rw [exL_cons,cntL_cons,List.length_append];omega
theorem exI_none {fs:List Fld} (hS:∀ f∈fs,0≤f.sz∧f.sz≤8) {x:It} (h:cntI fs x=0) (q:Option Ex) (σ:Ex→Ex):exI fs q σ x=[]:=by
 have:=exL_len fs hS [x] q σ;rw [exL_cons,exL_nil,List.append_nil,cntL_cons,cntL_nil,h] at this;exact List.length_eq_zero_iff.1 (by omega)
theorem cnt_pos (fs:List Fld) (hS:∀ f∈fs,0≤f.sz∧f.sz≤8) (l:List It):0≤cntL fs l:=by
 have:=exL_len fs hS l none (fun a=>a);omega
theorem sz_und (q:Option Ex) (op:Int) (e:Ex):sz (und q op e)≤sz e+(match q with | some c=>sz c+1 | none=>0):=by
 cases q with
 | none=>exact Nat.le_refl _
 | some c=>unfold und;rw [sz_mk];simp [szs];omega
theorem sz_not (e:Ex):sz (notE e)=sz e+1:=by unfold notE;rw [sz_mk];simp [szs]
theorem fix_sz {σ:Ex→Ex} (h:∀ e,sz (σ e)≤sz e) (ix:ByteArray) (k:Int):∀ e,sz (su ix (cst k) (σ e))≤sz e:=fun e=>by
 have h1:=su_sz ix (cst k) (σ e);have h2:sz (cst k)=1:=(by unfold cst;simp [sz,szs]);rw [h2,Nat.mul_one] at h1;exact Nat.le_trans h1 (h e)
theorem CondS.up {xb fb n0:Nat} {W W':World} {u v:Value} {L:List Pc} {q:Option Ex} (h:CondS (fun b=>Av xb W b∨Up W.heap.size W' b) W' v q) (hx:XL xb fb n0 W u L) (hb:Below W.heap.size W W'):CondS (Av xb W') W' v q :=
 h.eq fun b hq=>⟨hq.elim (fun g=>((KX.of_below hx.bx.lt hb).keep b g).1) (fun g=>Av.fresh hx hb g.1 g.2),rfl⟩
theorem fr_av {xb fb n0 lo:Nat} {W W':World} {u v:Value} {L:List Pc} {e:Ex} (h:Fr lo W' v e) (hlo:W.heap.size≤lo) (hx:XL xb fb n0 W u L) (hb:Below W.heap.size W W'):ExS (Av xb W') W' v e :=
 exsEq (fun _ hq=>⟨Av.fresh hx hb (Nat.le_trans hlo hq.1) hq.2,rfl⟩) h
end ItW
end Go.Proofs.YtpejflgdehioaaaGreatDoor
