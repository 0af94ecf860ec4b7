/-
  Laws that the card uses; no conditions beside those that each states (ItExM ItRIn ItRNm ItExpM ItRNod ItRCho ItRS).
-/
import Derived.Test.YtpejflgdehioaaaGreatDoorU28
import Derived.Test.YtpejflgdehioaaaGreatDoorU31
import Derived.Test.YtpejflgdehioaaaGreatDoorU32
set_option maxRecDepth 100000
set_option maxHeartbeats 16000000
namespace Go.Proofs.YtpejflgdehioaaaGreatDoor
namespace ItW
open Go NumM LexW LexM ExM ExW ItM
open ClM (Fld firstE_zero)
theorem dpt_of:∀ (k:Nat) (l:List It) (d:Nat) (B:List ByteArray),d+k=5→(∀ p∈wks d B l,p.d≤4)→dpt k l
 | 0,l,d,B,hd,h=>by
  cases l with
  | nil=>rfl
  | cons x r =>
   have:=h ⟨d,B,x⟩ (by rw [wks_cons,wk_eq];simp);simp at this;omega
 | k+1,l,d,B,hd,h=>fun x hx=>by
  obtain⟨s,t,rfl⟩:=List.append_of_mem hx;refine⟨dpt_of k x.it (d+1) (inn x.kd x.ix B) (by omega) fun p hp=>h p ?_,dpt_of k x.el (d+1) B (by omega) fun p hp=>h p ?_⟩
  ·rw [wks_append,wks_cons,wk_eq];simp [hp]
  ·rw [wks_append,wks_cons,wk_eq];simp [hp]
theorem flt_deep {d:Nat} {x:It} (h:fltI d x=0):d≤4:=by
 unfold fltI at h;split at h
 ·cases h
 ·rename_i hn;simp only [Bool.or_eq_true,decide_eq_true_eq,not_or] at hn;omega
theorem dpt_valid {l:List It} (h:validI l=0):dpt 5 l:=by
 unfold validI at h;split at h
 ·cases h
 ·refine (dpt_of 5 l 0 [] rfl fun p hp=>?_);exact flt_deep (firstE_zero.1 h _ (List.mem_map_of_mem hp))
theorem exL_sz (fs:List Fld) (l:List It):∀ (k:Nat) (q:Option Ex) (σ:Ex→Ex),dpt k l→k≤6→SmE l→(∀ e,sz (σ e)≤sz e)→(∀ c,q=some c→sz c+1002*k≤9000)→∀ x∈exL fs q σ l,sz x.e≤10000:=by
 induction l using its_ind with
 | h l ih =>
  intro k q σ hd hk hsm hσ hq x hx;have hone:∀ a∈l,∀ x∈exI fs q σ a,sz x.e≤10000:=by
   intro a ha x hx;obtain⟨k',hd1,hd2,hk'⟩:∃ k',dpt k' a.it∧dpt k' a.el∧k'+1=k:=by
    cases k with
    | zero=>have h0:l=[]:=hd;rw [h0] at ha;cases ha
    | succ k=>exact⟨k,(hd a ha).1,(hd a ha).2,rfl⟩
   obtain⟨h1,h2,h3⟩:=hsm.one ha;have hse:sz (σ a.e)≤1000:=Nat.le_trans (hσ _) h1;have hu:∀ (op:Int) (e:Ex),sz e≤1001→∀ c,some (und q op e)=some c→sz c+1002*k'≤9000:=fun op e he c hc=>by
    cases hc;have h4:=sz_und q op e;cases q with
    | none=>simp only at h4;omega
    | some c0=>have:=hq c0 rfl;simp only at h4;omega
   rw [exI_eq] at hx;split at hx
   ·rcases List.mem_append.1 hx with hx | hx
    ·exact (ih a ha).1 k' _ _ hd1 (by omega) h2 hσ (hu 19 _ (by omega)) x hx
    ·exact (ih a ha).2 k' _ _ hd2 (by omega) h3 hσ (hu 19 _ (by rw [sz_not];omega)) x hx
   ·split at hx
    ·obtain⟨i,_,hx⟩:=List.mem_flatMap.1 hx;exact (ih a ha).1 k' _ _ hd1 (by omega) h2 (fix_sz hσ a.ix i) (fun c hc=>by have:=hq c hc;omega) x hx
    ·split at hx
     ·obtain rfl:x=hardI a.kd (und q 21 (σ a.e)):=(by simpa using hx);show sz (und q 21 (σ a.e))≤10000;have h4:=sz_und q 21 (σ a.e);cases q with
      | none=>simp only at h4;omega
      | some c0=>have:=hq c0 rfl;simp only at h4;omega
     ·obtain rfl:x=outI a:=(by simpa using hx);show sz zE≤10000;unfold zE;rw [sz_mk,szs_nil];omega
  clear ih hd hsm hq hσ;induction l with
  | nil=>rw [exL_nil] at hx;cases hx
  | cons a r ih2 =>
   rw [exL_cons] at hx;rcases List.mem_append.1 hx with hx | hx
   ·exact hone a (by simp) x hx
   ·exact ih2 hx fun b hb=>hone b (by simp [hb])
end ItW
namespace ItW
open Go Go.RowKit NumM LexW LexM ExM ExW ItM
open ClM (Fld firstE)
def innR (kd:Int) (ix:ByteArray) (B:List ByteArray):List ByteArray:=if kd=5 then B++[ix] else B
theorem mem_innR (kd:Int) (ix:ByteArray) (B B':List ByteArray) (h:∀ s,memB B' s=memB B s) (s:ByteArray):memB (innR kd ix B') s=memB (inn kd ix B) s:=by
 unfold innR inn;split
 ·have h2:=h s;unfold memB at h2 ⊢;rw [List.any_append,List.any_cons,List.any_cons,List.any_nil,h2,Bool.or_false,Bool.or_comm]
 ·exact h s
def tRow (L:List ByteArray) (w:World) (x:Ending) (w':World):Prop:=∃ v,x=.returned v∧w'.ownsRow w.heap.size 9 1 v L.length (L.map Value.string)∧Below w.heap.size w w'
theorem innerR_any (x:It) (a4 a7 a8 a9 a10 a11:Value) (B:List ByteArray) (vi:Value) (N:Nat) (w:World) (h:IV N w a4 a7 a8 a9 a10 a11 x) (hb:StA N w vi B) (hN:N≤w.heap.size) (hB:B.length≤100000) :
  Calls Tryz.prog 70 #[iv x.kd x.e.op x.e.n x.e.nm a4 x.nm x.ix a7 a8 a9 a10 a11,vi] w (tRow (innR x.kd x.ix B) w):=by
 obtain⟨kd,o,n,en,p4,k4,c4,nm,ix,p7,k7,c7,p8,k8,c8,p9,k9,c9,p10,k10,c10,p11,k11,c11,ev,hv⟩:=h.open_;have ev2:=ev;simp only [Value.agg.injEq,Array.mk.injEq,List.cons.injEq] at ev2;obtain⟨-,-,-,-,rfl,-,-,rfl,rfl,rfl,rfl,rfl,-⟩:=ev2;rw [ev];obtain⟨e0,e1,e2,e3,e5,e6,l4,l7,l8,l9,l10,l11,-⟩:=hv;rw [e0,e6];obtain⟨i0,hi,hz0,hz1,hz2⟩:=info_parts infoS;have hb2:=hb;obtain⟨p,cap,rfl,hl,hc,hs,_⟩:=hb;obtain⟨K,hK⟩:∃ K,B.length=K:=⟨_,rfl⟩;have HK:=Lh hK;rw [hK] at hl hb2 hB ⊢;clear h ev e0 e1 e2 e3 e5 e6 l4 l7 l8 l9 l10 l11 hs hc;have F0:=(Blk.new w (ics kd o n en (.slice p4 k4 c4) nm ix (.slice p7 k7 c7) (.slice p8 k8 c8) (.slice p9 k9 c9) (.slice p10 k10 c10) (.slice p11 k11 c11)) 55).stay (ba _ (.cells #[] 9));have hbb:=(ba w (.cells (ics kd o n en (.slice p4 k4 c4) nm ix (.slice p7 k7 c7) (.slice p8 k8 c8) (.slice p9 k9 c9) (.slice p10 k10 c10) (.slice p11 k11 c11)).toArray 55)).then_ (ba _ (.cells #[] 9));have hz2':((w.alloc (.cells (ics kd o n en (.slice p4 k4 c4) nm ix (.slice p7 k7 c7) (.slice p8 k8 c8) (.slice p9 k9 c9) (.slice p10 k10 c10) (.slice p11 k11 c11)).toArray 55)).alloc (.cells #[] 9)).heap.size=w.heap.size+1+1:=(by rw [World.size_alloc,World.size_alloc]);have HO0:((w.alloc (.cells (ics kd o n en (.slice p4 k4 c4) nm ix (.slice p7 k7 c7) (.slice p8 k8 c8) (.slice p9 k9 c9) (.slice p10 k10 c10) (.slice p11 k11 c11)).toArray 55)).alloc (.cells #[] 9)).ownsRow w.heap.size 9 1 (.slice (some ⟨w.heap.size+1,0,none⟩) 0 0) 0 [] :=
  ⟨rfl,.inr ⟨w.heap.size+1,0,#[],rfl,Nat.le_succ _,by
   have:=heap_alloc_new (w.alloc (.cells (ics kd o n en (.slice p4 k4 c4) nm ix (.slice p7 k7 c7) (.slice p8 k8 c8) (.slice p9 k9 c9) (.slice p10 k10 c10) (.slice p11 k11 c11)).toArray 55)) (.cells #[] 9);rw [World.size_alloc] at this;exact this,Nat.le_refl _,Nat.zero_le _,rfl,rfl⟩⟩
 simp only [List.toArray] at F0 hbb hz2' HO0;obtain⟨W0,hW0⟩:∃ W0,(w.alloc (.cells #[.int .i64 kd,.int .i64 o,.int .i64 n,.string en,.slice p4 k4 c4,.string nm,.string ix,.slice p7 k7 c7,.slice p8 k8 c8,.slice p9 k9 c9,.slice p10 k10 c10,.slice p11 k11 c11] 55)).alloc (.cells #[] 9)=W0:=⟨_,rfl⟩;rw [hW0] at F0 hbb hz2' HO0;have d0:=F0.c 0 _ rfl;have d6:=F0.c 6 _ rfl;have HF:=Lh F0;have HBB:=Lh hbb;have HO:=Lh HO0;have HZ:=Lh hz2';have HI:Hid (innR kd ix B=if kd=5 then B++[ix] else B):=Lh rfl;clear F0 hbb HO0 hz2' hK;cases p with
 | none =>
  obtain⟨h1,h3⟩:=hb2.none_len;have H3:=Lh h3;subst h1;clear hb2 h3;by_cases h5:kd=5
  ·subst h5;have HI5:Hid (innR 5 ix B=B++[ix]):=Lh (by rw [HI.out];exact if_pos rfl);clear HI;have HO1:=Lh (own_later HO.out (ba W0 (.cells #[.string ix] 9)))
   go_enter Tryz.func70,Tryz.ntmps70
   go_wp2_with (at_builtin;refine wpList_append_own _ rfl _ _ 27 rfl w.heap.size 9 i0 (.string ⟨#[]⟩) 1 16 Tryz.underlying27 hi hz0 hz1 hz2 rfl (by decide) _ 0 [] rfl HO1.out ⟨W0.heap.size,0,none⟩ 1 1 [.string ix] rfl rfl (by exact cell_one_at rfl _ _) (by simp [Value.oneCell']) (by unfold maxLen;omega) (by omega) (by rw [World.size_alloc,HZ.out];omega) ?_)
   intro v' w2 hown' hgrow _;have HO2:=Lh hown';have HG2:=Lh hgrow;clear hown' hgrow;clear hW0;go_wp2;go_ret;refine⟨_,rfl,?_,(HBB.out.then_ (ba W0 (.cells #[.string ix] 9))).grown HG2.out (by rw [World.size_alloc,HZ.out];omega) (fun k e=>by simp [Value.ownBlock] at e;omega)⟩;rw [HI5.out,H3.out];exact HO2.out
  ·have f5:(kd == 5)=false:=(by rw [beq_eq_false_iff_ne];exact h5);have HIn:Hid (innR kd ix B=B):=Lh (by rw [HI.out];exact if_neg h5);clear HI
   go_enter Tryz.func70,Tryz.ntmps70
   go_wp2;go_ret;refine⟨_,rfl,?_,HBB.out⟩;rw [HIn.out,H3.out];exact HO.out
 | some ad =>
  have HNS:=Lh hb2.news.2;have N1:=Lh (one_str B);have hfl:Hid ((B.map Value.string).length=K*1):=Lh (by rw [List.length_map,HK.out,Nat.mul_one]);clear hb2;by_cases h5:kd=5
  ·subst h5;have HI5:Hid (innR 5 ix B=B++[ix]):=Lh (by rw [HI.out];exact if_pos rfl);clear HI
   go_enter Tryz.func70,Tryz.ntmps70
   go_wp2_with (at_builtin;refine wpList_append_own _ rfl _ _ 27 rfl w.heap.size 9 i0 (.string ⟨#[]⟩) 1 16 Tryz.underlying27 hi hz0 hz1 hz2 rfl (by decide) _ 0 [] rfl HO.out ad K cap (B.map Value.string) rfl hfl.out (HNS.out _ (HBB.out.mono hN)) N1.out (by unfold maxLen;omega) (by omega) (by rw [HZ.out];omega) ?_)
   intro v' w2 hown' hgrow _;have HB2:Hid (Below w.heap.size w w2):=Lh (HBB.out.grown hgrow (by rw [HZ.out];omega) (fun k e=>by simp [Value.ownBlock] at e;omega));have hzz:=hgrow.size;rw [HZ.out] at hzz;have F2:=Lh (blk_eq HF.out (hgrow.block w.heap.size (by rw [HZ.out];omega) (by simp [Value.ownBlock])));clear d0 d6;have d0:=F2.out.c 0 _ rfl;have d6:=F2.out.c 6 _ rfl;obtain⟨v'',hv''⟩:∃ x,x=v':=⟨_,rfl⟩;obtain⟨qv,kv,cv,rfl⟩:=own_slice hown';have HO1:=Lh (own_later hown' (ba w2 (.cells #[.string ix] 9)));have HOW:=Lh (own_lt hown');clear hown' hgrow hv'' hW0;go_wp2_with (at_builtin;go_loud (refine wpList_append_own _ rfl _ _ 27 rfl w.heap.size 9 i0 (.string ⟨#[]⟩) 1 16 Tryz.underlying27 hi hz0 hz1 hz2 rfl (by decide) _ K (B.map Value.string) rfl HO1.out ⟨w2.heap.size,0,none⟩ 1 1 [.string ix] rfl rfl (by exact cell_one_at rfl _ _) (by simp [Value.oneCell']) (by unfold maxLen;omega) (by omega) (by rw [World.size_alloc];omega) ?_))
   intro v3 w3 hown' hgrow _;have HO3:=Lh hown';have HB3:Hid (Below w.heap.size w w3):=Lh ((HB2.out.then_ (ba w2 (.cells #[.string ix] 9))).grown hgrow (by rw [World.size_alloc];omega) (fun k e=>(HOW.out k e).1));clear hown' hgrow;go_wp2;go_ret;refine⟨_,rfl,?_,HB3.out⟩;rw [HI5.out,List.length_append,List.map_append,HK.out];exact HO3.out
  ·have f5:(kd == 5)=false:=(by rw [beq_eq_false_iff_ne];exact h5);have HIn:Hid (innR kd ix B=B):=Lh (by rw [HI.out];exact if_neg h5);clear HI
   go_enter Tryz.func70,Tryz.ntmps70
   go_wp2_with (at_builtin;refine wpList_append_own _ rfl _ _ 27 rfl w.heap.size 9 i0 (.string ⟨#[]⟩) 1 16 Tryz.underlying27 hi hz0 hz1 hz2 rfl (by decide) _ 0 [] rfl HO.out ad K cap (B.map Value.string) rfl hfl.out (HNS.out _ (HBB.out.mono hN)) N1.out (by unfold maxLen;omega) (by omega) (by rw [HZ.out];omega) ?_)
   intro v' w2 hown' hgrow _;have HB2:Hid (Below w.heap.size w w2):=Lh (HBB.out.grown hgrow (by rw [HZ.out];omega) (fun k e=>by simp [Value.ownBlock] at e;omega));have F2:=Lh (blk_eq HF.out (hgrow.block w.heap.size (by rw [HZ.out];omega) (by simp [Value.ownBlock])));have HO2:=Lh hown';clear d0 d6 hown' hgrow hW0;have d0:=F2.out.c 0 _ rfl;go_wp2;go_ret;refine⟨_,rfl,?_,HB2.out⟩;rw [HIn.out,HK.out];have:=HO2.out
   (try rw [Nat.zero_add] at this)
   (try rw [List.nil_append] at this)
   exact this
theorem unk_eq (fs:List Fld) (hNm:∀ f∈fs,nmB f.nm.data.toList=true) (s:ByteArray):unkB fs s=(!decide (varE fs s=0)&&!decide (arrE fs s=0)):=by
 have hA:hasA fs s=true→misP fs s=false:=fun h=>by
  unfold hasA at h;cases ho:szO fs s with
  | none=>rw [szI_none ho] at h;simp at h
  | some n =>
   obtain⟨f,hf,rfl,_⟩:=szO_mem ho;unfold misP;rw [isE_name (hNm f hf)];rfl
 have hP:hasA fs s=true→hasP fs s=false:=fun h=>by
  unfold hasA at h;cases ho:szO fs s with
  | none=>exact hasP_none ho
  | some n =>
   rw [szI_some ho] at h;rw [hasP_some ho];have:=of_decide_eq_true h;exact decide_eq_false (by omega)
 have hP2:hasP fs s=true→hasA fs s=false:=fun h=>by
  cases h2:hasA fs s with
  | false=>rfl
  | true=>rw [hP h2] at h;cases h
 unfold unkB varE arrE;cases h1:hasA fs s with
 | true=>rw [hA h1,hP h1];simp
 | false =>
  cases h2:misP fs s with
  | true =>
   cases h3:hasP fs s<;>simp
  | false =>
   cases h3:hasP fs s with
   | true =>
    have:hasV fs s=true:=(by unfold hasV;rw [h3];rfl);rw [this];simp
   | false=>cases h4:hasV fs s<;>simp
theorem namedR_any (fs:List Fld) (hNm:∀ f∈fs,nmB f.nm.data.toList=true) (l:List ByteArray) (cv v:Value) (N N':Nat) (w:World) (hc:ClA N w cv fs) (ha:StA N' w v l) (hN:N≤w.heap.size) (hN':N'≤w.heap.size) :
  Calls Tryz.prog 130 #[cv,v] w (tBool (!l.any (unkB fs)) w):=by
 have VC:Hid (∀ W s,Below w.heap.size w W→s.size≤140737488351232→Calls Tryz.prog 103 #[cv,.string s] W (tInt (varE fs s) W)):=(Lh fun W s hW hs=>variableR_any fs hNm cv s N W (hc.under (hW.mono hN)) (by have:=hW.size;omega) hs);have AC:Hid (∀ W s,Below w.heap.size w W→Calls Tryz.prog 104 #[cv,.string s] W (tInt (arrE fs s) W)):=(Lh fun W s hW=>arrayR_any fs cv s N W (hc.under (hW.mono hN)) (by have:=hW.size;omega));have UE:Hid (∀ s,unkB fs s=(!decide (varE fs s=0)&&!decide (arrE fs s=0))):=Lh (unk_eq fs hNm);obtain⟨cnm,par,vf,pb,kb,cb,rfl,pf,cf,rfl,_⟩:=hc;obtain⟨p,cap,rfl,hl,hc0,hz,hp⟩:=ha;have HP:=Lh hp;have HZ:=Lh hz;obtain⟨K,hK⟩:∃ K,l.length=K:=⟨_,rfl⟩;have HK:=Lh hK;rw [hK] at hl ⊢;have hk:K≤140737488351232:=(by omega);generalize fs.length=KF at *
 have B4:=Blk.new w [.string cnm,.string par,.slice pf KF cf,.slice pb kb cb] 34;have hb0:=ba w (.cells #[.string cnm,.string par,.slice pf KF cf,.slice pb kb cb] 34);simp only [List.toArray] at B4;obtain⟨W0,hW0⟩:∃ W0,w.alloc (.cells #[.string cnm,.string par,.slice pf KF cf,.slice pb kb cb] 34)=W0:=⟨_,rfl⟩;rw [hW0] at B4 hb0;have HB0:=Lh hb0;have H4:=Lh B4;clear hK hl hp hz hNm hc0 B4 hb0
 go_enter Tryz.func130,Tryz.ntmps130
 go_wp2;clear hW0;go_loopw [5] (fun i wr=>∃ j:Nat,j≤K∧i=.int .i64 j∧Hid ((l.take j).any (unkB fs)=false)∧Hid (Below w.heap.size w wr)∧Hid (Blk wr w.heap.size [.string cnm,.string par,.slice pf KF cf,.slice pb kb cb])) (fun i _=>K - (intOf i).toNat)
 case atStart=>exact⟨0,Nat.zero_le _,rfl,Lh rfl,HB0,H4⟩
 case round =>
  obtain⟨j,hj,rfl,FN,BW,CW⟩:=hrel;by_cases hlt:j<K
  ·obtain⟨s,hs⟩:∃ s,l[j]? = some s:=⟨_,List.getElem?_eq_getElem (by rw [HK.out];exact hlt)⟩;obtain⟨b,off,rfl,hb,hcell⟩:=HP.out (by rw [HK.out];omega);have d0:=low_cells (BW.out.mono hN') _ _ hb _ (hcell j s hs);have c0:=CW.out.c 0 _ rfl;have c1:=CW.out.c 1 _ rfl;have c2:=CW.out.c 2 _ rfl;have c3:=CW.out.c 3 _ rfl;have hss:=HZ.out s (List.mem_of_getElem? hs);have VC2:=Lh (fun W (hW:Below wr.heap.size wr W)=>VC.out W s (BW.out.then_ hW) hss);have AC2:=Lh (fun W (hW:Below wr.heap.size wr W)=>AC.out W s (BW.out.then_ hW));have US:=Lh (UE.out s);have HS:=Lh hs;clear hcell hs hss;generalize varE fs s=E1 at *
   generalize arrE fs s=E2 at *
   have r0:=cell_regrown c0;have r1:=cell_regrown c1;have r2:=cell_regrown c2;have r3:=cell_regrown c3;have s0:=cell_regrown d0;by_cases h1:E1=0
   ·subst h1;have FN2:=Lh (any_next HS.out (by rw [US.out];rfl) FN.out);clear US;have X1:=reB (v:=.int .i64 0) (fun W hW=>VC2.out W hW);have X2:=reB (v:=.int .i64 E2) (fun W hW=>AC2.out W hW);go_wp2;refine wp_region_quiet_below (by kernel_rfl) (by kernel_rfl) ?_;repeat (first | go_big_quiet_step ((first | (go_at_call 103;with_reducible exact X1 _ _) | (go_at_call 104;with_reducible exact X2 _ _))) | quiet_step ((first | (go_at_call 103;with_reducible exact X1 _ _) | (go_at_call 104;with_reducible exact X2 _ _))))
    refine wpQuiet_nil ?_;intro w4 hw';obtain⟨pq,hw''⟩:=hw';have HB24:Hid (Below wr.heap.size wr w4):=Lh (by rw [hw''];exact below_regrown _ _ _);clear hw'' X1 X2 r0 r1 r2 r3 s0 c0 c1 c2 c3 d0;go_wp2;go_roundw
    case rel=>exact⟨j+1,by omega,by go_num,FN2,Lh (BW.out.then_ HB24.out),Lh (CW.out.stay HB24.out)⟩
    case measure=>simp [intOf];omega
   ·have f1:(E1 != 0)=true:=(by simpa using h1);by_cases h2:E2=0
    ·subst h2;have FN2:=Lh (any_next HS.out (by rw [US.out];simp) FN.out);clear US h1;have X1:=reB (v:=.int .i64 E1) (fun W hW=>VC2.out W hW);have X2:=reB (v:=.int .i64 0) (fun W hW=>AC2.out W hW);go_wp2;refine wp_region_quiet_below (by kernel_rfl) (by kernel_rfl) ?_;repeat (first | go_big_quiet_step ((first | (go_at_call 103;with_reducible exact X1 _ _) | (go_at_call 104;with_reducible exact X2 _ _))) | quiet_step ((first | (go_at_call 103;with_reducible exact X1 _ _) | (go_at_call 104;with_reducible exact X2 _ _))))
     refine wpQuiet_nil ?_;intro w4 hw';obtain⟨pq,hw''⟩:=hw';have HB24:Hid (Below wr.heap.size wr w4):=Lh (by rw [hw''];exact below_regrown _ _ _);clear hw'' X1 X2 r0 r1 r2 r3 s0 c0 c1 c2 c3 d0;go_wp2;go_roundw
     case rel=>exact⟨j+1,by omega,by go_num,FN2,Lh (BW.out.then_ HB24.out),Lh (CW.out.stay HB24.out)⟩
     case measure=>simp [intOf];omega
    ·have f2:(E2 != 0)=true:=(by simpa using h2);have FS:=Lh (any_at HS.out (show unkB fs s=true by rw [US.out,decide_eq_false h1,decide_eq_false h2];rfl));clear US h1 h2;have X1:=reB (v:=.int .i64 E1) (fun W hW=>VC2.out W hW);have X2:=reB (v:=.int .i64 E2) (fun W hW=>AC2.out W hW);go_wp2;refine wp_region_quiet_below (by kernel_rfl) (by kernel_rfl) ?_;repeat (first | go_big_quiet_step ((first | (go_at_call 103;with_reducible exact X1 _ _) | (go_at_call 104;with_reducible exact X2 _ _))) | quiet_step ((first | (go_at_call 103;with_reducible exact X1 _ _) | (go_at_call 104;with_reducible exact X2 _ _))))
     refine wpQuiet_nil ?_;intro w4 hw';obtain⟨pq,hw''⟩:=hw';have HB24:Hid (Below wr.heap.size wr w4):=Lh (by rw [hw''];exact below_regrown _ _ _);clear hw'' X1 X2 r0 r1 r2 r3 s0 c0 c1 c2 c3 d0;go_wp2;go_ret;exact⟨by rw [FS.out];rfl,BW.out.then_ HB24.out⟩
  ·have FN2:Hid (l.any (unkB fs)=false):=Lh (by have:=FN.out;rw [List.take_of_length_le (by rw [HK.out];omega)] at this;exact this);go_wp2;go_ret;exact⟨by rw [FN2.out];rfl,BW.out⟩
end ItW
namespace ItM
open Go WordM LexM ExM
open ClM (Fld firstE_zero)
def hSB (env:Env) (x:It):Bool:=!decide (x.kd=1)||!decide ((evalS env x.e).1=0)
theorem fw_wks (l:List It):∀ d B,FwL l→∀ p∈wks d B l,okB p.x=true:=by
 induction l using its_rec with
 | h0=>intro d B _ p hp;rw [wks_nil] at hp;cases hp
 | h1 x r h1 h2 h3 =>
  intro d B h p hp;rw [fwL_cons,fwI_eq] at h;rw [wks_cons,wk_eq] at hp;rcases List.mem_append.1 hp with hp | hp
  ·rcases List.mem_cons.1 hp with rfl | hp
   ·exact h.1.1
   ·rcases List.mem_append.1 hp with hp | hp
    ·exact h1 _ _ h.1.2.1 p hp
    ·exact h2 _ _ h.1.2.2 p hp
  ·exact h3 _ _ h.2 p hp
theorem fw_sm {l:List It} (h:FwL l):ItW.SmE l:=fun x hx=>by
 obtain⟨p,hp,rfl⟩:=List.mem_map.1 hx;have:=(okB_iff.1 (fw_wks l 0 [] h p hp)).1;omega
end ItM
namespace ItW
open Go Go.RowKit Go.Shelf NumM LexW LexM ExM ExW ItM
open ClM (Fld)
theorem constR_any (n:Int) (w:World):Calls Tryz.prog 93 #[.int .i64 n] w fun e w'=>e=.returned (xv 1 n ⟨#[]⟩ (.slice none 0 0))∧Below w.heap.size w w':=by
 have f5:=Blk.new w [.int .i64 1,.int .i64 n,.string ⟨#[]⟩,.slice none 0 0] 43;have p0:=f5.c 0 _ rfl;have p1:=f5.c 1 _ rfl;have p2:=f5.c 2 _ rfl;have p3:=f5.c 3 _ rfl;clear f5
 go_enter Tryz.func93,Tryz.ntmps93
 go_wp2;exact bodyPost_ret (v:=xv 1 n ⟨#[]⟩ (.slice none 0 0)) (by simp [results,Tryz.results93,go_sem,p0,p1,p2,p3]) rfl ⟨rfl,ba _ _⟩
def Ft (S:Nat→Prop) (lo:Nat) (w:World):Nat→Prop:=fun b=>S b∨(lo≤b∧b<w.heap.size)
theorem exs_up {S S':Nat→Prop} {w w':World} {v:Value} {e:Ex} (h:ExS S w v e) (hS:∀ b,S b→b<w.heap.size) (hb:Below w.heap.size w w') (hS':∀ b,S b→S' b):ExS S' w' v e :=
 h.kept hS' (fun b o hb' _ hv=>(hb.cell (p:=⟨b,o,none⟩) (hS b hb')).trans hv)
theorem exs_put4 {S:Nat→Prop} {w:World} {v:Value} {e:Ex} {g:Nat} (h:ExS S w v e) (hg:∀ b,S b→b≠g) (a0 a1 a2 a3:Value):ExS S ((((w.setCell ⟨g,0,none⟩ a0).setCell ⟨g,1,none⟩ a1).setCell ⟨g,2,none⟩ a2).setCell ⟨g,3,none⟩ a3) v e :=
 h.kept (fun _ h=>h) (fun b o hb _ hv=>by
  have hne:g≠b:=(fun e=>hg b hb e.symm);rw [World.cell?_setCell_far _ _ _ _ hne,World.cell?_setCell_far _ _ _ _ hne,World.cell?_setCell_far _ _ _ _ hne,World.cell?_setCell_far _ _ _ _ hne];exact hv)
theorem nodeR_any (op:Int) (x y:Ex) (v1 v2:Value) (S:Nat→Prop) (w:World) (hS:∀ b,S b→b<w.heap.size) (h1:ExS S w v1 x) (h2:ExS S w v2 y) :
  Calls Tryz.prog 138 #[.int .i64 op,v1,v2] w fun e w'=>∃ b,e=.returned (xv op 0 ⟨#[]⟩ (.slice (some ⟨b,0,none⟩) 2 2))∧ExS (Ft S w.heap.size w') w' (xv op 0 ⟨#[]⟩ (.slice (some ⟨b,0,none⟩) 2 2)) (.mk op 0 ⟨#[]⟩ [x,y])∧Below w.heap.size w w':=by
 obtain⟨p1,k1,rfl,_,_⟩:=h1.form;obtain⟨p2,k2,rfl,_,_⟩:=h2.form;have l1:=ba w (.cells #[.int .i64 x.op,.int .i64 x.n,.string x.nm,.slice p1 x.args.length k1] 43);have l2:=ba (w.alloc (.cells #[.int .i64 x.op,.int .i64 x.n,.string x.nm,.slice p1 x.args.length k1] 43)) (.cells #[.int .i64 y.op,.int .i64 y.n,.string y.nm,.slice p2 y.args.length k2] 43);have B1:=(Blk.new w [.int .i64 x.op,.int .i64 x.n,.string x.nm,.slice p1 x.args.length k1] 43).stay l2;have B2:=Blk.new (w.alloc (.cells #[.int .i64 x.op,.int .i64 x.n,.string x.nm,.slice p1 x.args.length k1] 43)) [.int .i64 y.op,.int .i64 y.n,.string y.nm,.slice p2 y.args.length k2] 43;have l12:=l1.then_ l2;rw [World.size_alloc] at B2;have hsz2:((w.alloc (.cells #[.int .i64 x.op,.int .i64 x.n,.string x.nm,.slice p1 x.args.length k1] 43)).alloc (.cells #[.int .i64 y.op,.int .i64 y.n,.string y.nm,.slice p2 y.args.length k2] 43)).heap.size=w.heap.size+1+1:=(by rw [World.size_alloc,World.size_alloc]);obtain⟨W0,hW0⟩:∃ W0,(w.alloc (.cells #[.int .i64 x.op,.int .i64 x.n,.string x.nm,.slice p1 x.args.length k1] 43)).alloc (.cells #[.int .i64 y.op,.int .i64 y.n,.string y.nm,.slice p2 y.args.length k2] 43)=W0:=⟨_,rfl⟩;simp only [List.toArray] at B1 B2;rw [hW0] at B1 B2 l12 hsz2;have lz:=ba W0 (.cells #[.int .i64 0,.int .i64 0,.string ⟨#[]⟩,.slice none 0 0] 43);have c0:=(B1.stay lz).c 0 _ rfl;have c1:=(B1.stay lz).c 1 _ rfl;have c2:=(B1.stay lz).c 2 _ rfl;have c3:=(B1.stay lz).c 3 _ rfl;have d0:=(B2.stay lz).c 0 _ rfl;have d1:=(B2.stay lz).c 1 _ rfl;have d2:=(B2.stay lz).c 2 _ rfl;have d3:=(B2.stay lz).c 3 _ rfl;have l3:=ba W0 (.cells #[.int .i64 op,.int .i64 0,.string ⟨#[]⟩,.slice (some ⟨w.heap.size+1+1+1,0,none⟩) 2 2] 43);have B3:=Blk.new W0 [.int .i64 op,.int .i64 0,.string ⟨#[]⟩,.slice (some ⟨w.heap.size+1+1+1,0,none⟩) 2 2] 43;have hsz3:(W0.alloc (.cells #[.int .i64 op,.int .i64 0,.string ⟨#[]⟩,.slice (some ⟨w.heap.size+1+1+1,0,none⟩) 2 2] 43)).heap.size=w.heap.size+1+1+1:=(by rw [World.size_alloc,hsz2]);rw [hsz2] at B3;simp only [List.toArray] at B3;obtain⟨W3,hW3⟩:∃ W3,W0.alloc (.cells #[.int .i64 op,.int .i64 0,.string ⟨#[]⟩,.slice (some ⟨w.heap.size+1+1+1,0,none⟩) 2 2] 43)=W3:=⟨_,rfl⟩;rw [hW3] at l3 B3 hsz3;have l4:=ba W3 (.cells #[.int .i64 x.op,.int .i64 x.n,.string x.nm,.slice p1 x.args.length k1,.int .i64 y.op,.int .i64 y.n,.string y.nm,.slice p2 y.args.length k2] 43);have B4:=Blk.new W3 [.int .i64 x.op,.int .i64 x.n,.string x.nm,.slice p1 x.args.length k1,.int .i64 y.op,.int .i64 y.n,.string y.nm,.slice p2 y.args.length k2] 43;rw [hsz3] at B4;have p0:=(B3.stay l4).c 0 _ rfl;have p1':=(B3.stay l4).c 1 _ rfl;have p2':=(B3.stay l4).c 2 _ rfl;have p3:=(B3.stay l4).c 3 _ rfl;have HR:=Lh (two_args (T:=Ft S w.heap.size (W3.alloc _)) (op:=op) (.inr ⟨by omega,B4.lt⟩) B4 (exs_up h1 hS ((l12.then_ l3).then_ l4) fun _ h=>.inl h) (exs_up h2 hS ((l12.then_ l3).then_ l4) fun _ h=>.inl h));have HL:=Lh ((l12.then_ l3).then_ l4);simp only [List.toArray] at HR;clear B1 B2 B3 B4 l1 l2 l12 lz l3 l4 h1 h2;generalize x.args.length=K1 at *
 generalize y.args.length=K2 at *
 go_enter Tryz.func138,Tryz.ntmps138
 go_wp2;exact bodyPost_ret (v:=xv op 0 ⟨#[]⟩ (.slice (some ⟨w.heap.size+1+1+1,0,none⟩) 2 2)) (by simp [results,Tryz.results138,go_sem,p0,p1',p2',p3]) rfl ⟨_,rfl,HR.out,HL.out⟩
end ItW
namespace ItW
open Go Go.RowKit Go.Shelf NumM LexW LexM ExM ExW ItM
open ClM (Fld)
attribute [local go_sem ↓] Go.wp_at_zero Go.wp_at_succ
structure RD (w:World) (c6:List Value) (V:World):Prop where
 h6:Blk V w.heap.size c6
 rm:Room4 V (w.heap.size+1)
 lo:Below w.heap.size w V
theorem RD.stay {w V V':World} {c6:List Value} (h:RD w c6 V) (hb:Below V.heap.size V V'):RD w c6 V' :=
 ⟨h.h6.stay hb,h.rm.stay hb,h.lo.trans (hb.mono h.lo.size)⟩
end ItW
namespace ItW
open Go Go.RowKit NumM LexW LexM ExM ExW ItM
inductive ItsS (S:Nat→Prop) (w:World):Value→List It→Prop where
 | mk (p:Option Addr) (cap:Nat) (l:List It) (V:Nat→Nat→Value)
   (hl:l.length*216≤140737488351232) (hc:l.length≤cap)
   (hp:0<l.length→∃ b off,p=some ⟨b,off,none⟩∧S b∧∀ (i:Nat) (x:It),l[i]? = some x→C12 w b (off+i*12) x (V i))
   (hn:∀ (i:Nat) (x:It),l[i]? = some x→x.nm.size≤140737488351232∧x.ix.size≤140737488351232)
   (he:∀ (i:Nat) (x:It),l[i]? = some x→ExS S w (xv x.e.op x.e.n x.e.nm (V i 4)) x.e)
   (hw:∀ (i:Nat) (x:It),l[i]? = some x→WtS S w (V i 7) x.ws)
   (hi:∀ (i:Nat) (x:It),l[i]? = some x→ItsS S w (V i 8) x.it)
   (hx:∀ (i:Nat) (x:It),l[i]? = some x→ItsS S w (V i 9) x.el)
   (hb:∀ (i:Nat) (x:It),l[i]? = some x→StS S w (V i 10) x.bf)
   (hf:∀ (i:Nat) (x:It),l[i]? = some x→StS S w (V i 11) x.af):ItsS S w (.slice p l.length cap) l
structure IVS (S:Nat→Prop) (w:World) (a4 a7 a8 a9 a10 a11:Value) (x:It):Prop where
 nm:x.nm.size≤140737488351232
 ix:x.ix.size≤140737488351232
 ex:ExS S w (xv x.e.op x.e.n x.e.nm a4) x.e
 wt:WtS S w a7 x.ws
 its:ItsS S w a8 x.it
 els:ItsS S w a9 x.el
 bfs:StS S w a10 x.bf
 afs:StS S w a11 x.af
structure RowS (S:Nat→Prop) (w:World) (p:Option Addr) (cap:Nat) (V:Nat→Nat→Value) (l:List It):Prop where
 hl:l.length*216≤140737488351232
 hc:l.length≤cap
 hp:0<l.length→∃ b off,p=some ⟨b,off,none⟩∧S b∧∀ (i:Nat) (x:It),l[i]? = some x→C12 w b (off+i*12) x (V i)
 hv:∀ (i:Nat) (x:It),l[i]? = some x→IVS S w (V i 4) (V i 7) (V i 8) (V i 9) (V i 10) (V i 11) x
theorem ItsS.form {S:Nat→Prop} {w:World} {v:Value} {l:List It} (h:ItsS S w v l):∃ p cap V,v=.slice p l.length cap∧RowS S w p cap V l:=by
 cases h with
 | mk p cap _ V hl hc hp hn he hw hi hx hb hf=>exact⟨p,cap,V,rfl,hl,hc,hp,fun i x h=>⟨(hn i x h).1,(hn i x h).2,he i x h,hw i x h,hi i x h,hx i x h,hb i x h,hf i x h⟩⟩
theorem RowS.its {S:Nat→Prop} {w:World} {p:Option Addr} {cap:Nat} {V:Nat→Nat→Value} {l:List It} (h:RowS S w p cap V l):ItsS S w (.slice p l.length cap) l :=
 .mk p cap l V h.hl h.hc h.hp (fun i x g=>⟨(h.hv i x g).nm,(h.hv i x g).ix⟩) (fun i x g=>(h.hv i x g).ex) (fun i x g=>(h.hv i x g).wt) (fun i x g=>(h.hv i x g).its) (fun i x g=>(h.hv i x g).els) (fun i x g=>(h.hv i x g).bfs) (fun i x g=>(h.hv i x g).afs)
theorem ItsS.kept {S S':Nat→Prop} {w w':World} (hS:∀ b,S b→S' b) (hk:∀ b o,S b→∀ v,w.cell? ⟨b,o,none⟩=some v→w'.cell? ⟨b,o,none⟩=some v) {v:Value} {l:List It} (h:ItsS S w v l):ItsS S' w' v l:=by
 induction h with
 | mk p cap l V hl hc hp hn he hw hi hx hb hf ih1 ih2 =>
  refine .mk p cap l V hl hc (fun h0=>?_) hn (fun i x g=>(he i x g).kept hS hk) (fun i x g=>(hw i x g).kept hS hk) ih1 ih2 (fun i x g=>(hb i x g).kept hS hk) (fun i x g=>(hf i x g).kept hS hk);obtain⟨b,off,e,hlt,hcell⟩:=hp h0;exact⟨b,off,e,hS b hlt,fun i x g=>(hcell i x g).kept (fun o v hv=>hk _ _ hlt _ hv)⟩
theorem IVS.kept {S S':Nat→Prop} {w w':World} (hS:∀ b,S b→S' b) (hk:∀ b o,S b→∀ v,w.cell? ⟨b,o,none⟩=some v→w'.cell? ⟨b,o,none⟩=some v) {a4 a7 a8 a9 a10 a11:Value} {x:It} (h:IVS S w a4 a7 a8 a9 a10 a11 x):IVS S' w' a4 a7 a8 a9 a10 a11 x :=
 ⟨h.nm,h.ix,h.ex.kept hS hk,h.wt.kept hS hk,h.its.kept hS hk,h.els.kept hS hk,h.bfs.kept hS hk,h.afs.kept hS hk⟩
theorem IVS.eq {S S':Nat→Prop} {w w':World} (hS:∀ b,S b→S' b∧w'.heap[b]? = w.heap[b]?) {a4 a7 a8 a9 a10 a11:Value} {x:It} (h:IVS S w a4 a7 a8 a9 a10 a11 x):IVS S' w' a4 a7 a8 a9 a10 a11 x :=
 h.kept (fun b hb=>(hS b hb).1) (fun b o hb _ hv=>(World.cell?_of_block (w:=w) (w':=w') (a:=⟨b,o,none⟩) (hS b hb).2).trans hv)
theorem ItsS.eq {S S':Nat→Prop} {w w':World} (hS:∀ b,S b→S' b∧w'.heap[b]? = w.heap[b]?) {v:Value} {l:List It} (h:ItsS S w v l):ItsS S' w' v l :=
 h.kept (fun b hb=>(hS b hb).1) (fun b o hb _ hv=>(World.cell?_of_block (w:=w) (w':=w') (a:=⟨b,o,none⟩) (hS b hb).2).trans hv)
theorem ItsS.toA {S:Nat→Prop} {N:Nat} {w:World} (hS:∀ b,S b→b<N) {v:Value} {l:List It} (h:ItsS S w v l):ItsA N w v l:=by
 induction h with
 | mk p cap l V hl hc hp hn he hw hi hx hb hf ih1 ih2 =>
  refine .mk p cap l V hl hc (fun h0=>?_) hn (fun i x g=>(he i x g).toAt hS) (fun i x g=>(hw i x g).toAt hS) ih1 ih2 (fun i x g=>(hb i x g).toAt hS) (fun i x g=>(hf i x g).toAt hS);obtain⟨b,off,e,hlt,hcell⟩:=hp h0;exact⟨b,off,e,hS b hlt,hcell⟩
theorem IVS.toA {S:Nat→Prop} {N:Nat} {w:World} (hS:∀ b,S b→b<N) {a4 a7 a8 a9 a10 a11:Value} {x:It} (h:IVS S w a4 a7 a8 a9 a10 a11 x):IV N w a4 a7 a8 a9 a10 a11 x :=
 ⟨h.nm,h.ix,h.ex.toAt hS,h.wt.toAt hS,h.its.toA hS,h.els.toA hS,h.bfs.toAt hS,h.afs.toAt hS⟩
theorem exS_of {N:Nat} {w:World} {v:Value} {e:Ex} (h:ExAt N w v e):ExS (fun b=>b<N) w v e:=by
 induction h with
 | mk pl cl hs hl hc hp hx ih=>exact .mk pl cl hs hl hc hp ih
theorem ItsA.toS {N:Nat} {w:World} {v:Value} {l:List It} (h:ItsA N w v l):ItsS (fun b=>b<N) w v l:=by
 induction h with
 | mk p cap l V hl hc hp hn he hw hi hx hb hf ih1 ih2=>exact .mk p cap l V hl hc hp hn (fun i x g=>exS_of (he i x g)) (fun i x g=>hw i x g) ih1 ih2 (fun i x g=>hb i x g) (fun i x g=>hf i x g)
theorem IV.toS {N:Nat} {w:World} {a4 a7 a8 a9 a10 a11:Value} {x:It} (h:IV N w a4 a7 a8 a9 a10 a11 x):IVS (fun b=>b<N) w a4 a7 a8 a9 a10 a11 x :=
 ⟨h.nm,h.ix,exS_of h.ex,h.wt,h.its.toS,h.els.toS,h.bfs,h.afs⟩
theorem ItsS.nil (S:Nat→Prop) (w:World) (p:Option Addr) (cap:Nat):ItsS S w (.slice p 0 cap) [] :=
 .mk p cap [] (fun _ _=>.bool false) (by simp) (by simp) (fun h=>by simp at h) (fun i x h=>by simp at h) (fun i x h=>by simp at h) (fun i x h=>by simp at h) (fun i x h=>by simp at h) (fun i x h=>by simp at h) (fun i x h=>by simp at h) (fun i x h=>by simp at h)
structure Pq where
 x:It
 a4:Value
 a7:Value
 a8:Value
 a9:Value
 a10:Value
 a11:Value
def pqC (p:Pq):List Value:=ics p.x.kd p.x.e.op p.x.e.n p.x.e.nm p.a4 p.x.nm p.x.ix p.a7 p.a8 p.a9 p.a10 p.a11
theorem pqC_len (p:Pq):(pqC p).length=12:=rfl
def pqV (p:Pq):Nat→Value
 | 4=>p.a4 | 7=>p.a7 | 8=>p.a8 | 9=>p.a9 | 10=>p.a10 | 11=>p.a11 | _=>.bool false
structure QL (S:Nat→Prop) (n0:Nat) (W:World) (v:Value) (L:List Pq):Prop where
 row:W.ownsRow n0 55 12 v L.length (L.flatMap pqC)
 el:∀ p∈L,IVS (fun b=>S b∧v.ownBlock≠some b) W p.a4 p.a7 p.a8 p.a9 p.a10 p.a11 p.x
theorem QL.nil (S:Nat→Prop) (n0:Nat) (W:World):QL S n0 W (.slice none 0 0) []:=⟨World.ownsRow_nil _ _ _ _,fun p hp=>by cases hp⟩
theorem QL.its {S S':Nat→Prop} {n0:Nat} {W:World} {v:Value} {L:List Pq} (h:QL S n0 W v L) (hl:L.length*216≤140737488351232) (hS:∀ b,S b→S' b) (hv:∀ b,v.ownBlock=some b→S' b):ItsS S' W v (L.map Pq.x):=by
 obtain⟨p,cap,rfl,hc,h0⟩:=own_at h.row (by rw [flat_len pqC_len]);have:=RowS.its (S:=S') (w:=W) (p:=p) (cap:=cap) (V:=fun i=>match L[i]? with | some q=>pqV q | none=>fun _=>.bool false) (l:=L.map Pq.x) ⟨by rw [List.length_map];exact hl,by rw [List.length_map];exact hc,fun hp=>?_,fun i x hx=>?_⟩
 ·rw [List.length_map] at this;exact this
 ·rw [List.length_map] at hp;obtain⟨g,rfl,_,ho,hcell⟩:=h0 hp;refine⟨g,0,rfl,hv g ho,fun i x hx=>?_⟩;rw [List.getElem?_map,Option.map_eq_some_iff] at hx;obtain⟨q,hq,rfl⟩:=hx;have c:∀ r,r<12→∀ u,(pqC q)[r]? = some u→W.cell? ⟨g,i*12+r,none⟩=some u:=(fun r hr u hu=>hcell _ _ ((flat_at pqC_len L i r q hq hr).trans hu));rw [Nat.zero_add];simp only [hq];exact⟨c 0 (by decide) _ rfl,c 1 (by decide) _ rfl,c 2 (by decide) _ rfl,c 3 (by decide) _ rfl,c 4 (by decide) _ rfl,c 5 (by decide) _ rfl,c 6 (by decide) _ rfl,c 7 (by decide) _ rfl,c 8 (by decide) _ rfl,c 9 (by decide) _ rfl,c 10 (by decide) _ rfl,c 11 (by decide) _ rfl⟩
 ·rw [List.getElem?_map,Option.map_eq_some_iff] at hx;obtain⟨q,hq,rfl⟩:=hx;simp only [hq];exact (h.el q (List.mem_of_getElem? hq)).kept (fun b hb=>hS b hb.1) (fun _ _ _ _ hv=>hv)
theorem QL.later {S S':Nat→Prop} {n0:Nat} {W W':World} {v:Value} {L:List Pq} (h:QL S n0 W v L) (hb:Below W.heap.size W W') (hS:∀ b,S b→S' b∧b<W.heap.size):QL S' n0 W' v L :=
 ⟨own_later h.row hb,fun p hp=>(h.el p hp).eq fun b hb'=>⟨⟨(hS b hb'.1).1,hb'.2⟩,hb.block b (hS b hb'.1).2⟩⟩
theorem QL.more {S S':Nat→Prop} {n0:Nat} {W W':World} {v v':Value} {L M:List Pq} (h:QL S n0 W v L) (hS:∀ b,S b→S' b∧b<W.heap.size) (hg:W.grownBy W' v.ownBlock) (ho:W'.ownsRow n0 55 12 v' (L.length+M.length) (L.flatMap pqC++M.flatMap pqC))
  (hn:v'.ownBlock=v.ownBlock∨v'.ownBlock=some W.heap.size) (hM:∀ p∈M,IVS (fun b=>S b∧v.ownBlock≠some b) W p.a4 p.a7 p.a8 p.a9 p.a10 p.a11 p.x):QL S' n0 W' v' (L++M):=by
 have q:∀ b,(S b∧v.ownBlock≠some b)→(S' b∧v'.ownBlock≠some b)∧W'.heap[b]? = W.heap[b]?:=fun b hb=>by
  refine⟨⟨(hS b hb.1).1,fun e=>?_⟩,hg.block b (hS b hb.1).2 (fun e=>hb.2 e.symm)⟩;rcases hn with hn | hn
  ·exact hb.2 (by rw [←hn];exact e)
  ·rw [hn] at e;have:=(hS b hb.1).2;simp only [Option.some.injEq] at e;omega
 refine⟨by rw [List.length_append,List.flatMap_append];exact ho,fun p hp=>?_⟩;rcases List.mem_append.1 hp with hp | hp
 ·exact (h.el p hp).eq q
 ·exact (hM p hp).eq q
end ItW
end Go.Proofs.YtpejflgdehioaaaGreatDoor
